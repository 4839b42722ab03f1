/- Our own text (GNewB, GNewC, GNewD). -/
import Derived.Deep.DeepCutAuto
import Derived.Test.YtnkpogjiiohapaaGreatDoorA36
set_option linter.unusedSimpArgs false
set_option linter.unusedVariables false

/-! GNewB: New in general: a copy that has done nothing. -/
namespace Go.Proofs.YtnkpogjiiohapaaGreatDoor
open Go.RowKit
attribute [local go_sem ↓] Go.wp_at_zero Go.wp_at_succ

/-- A new history's blocks. -/
structure NewH (B : Nat) (w' : World) (sp : Int) (hb rr d0 b0 e0 d bo be : Nat) : Prop where
  hist : w'.heap[hb]? = some (.cells #[.int .i64 sp, .int .i64 0, .slice none 0 0, .slice (some ⟨rr, 0, none⟩) 1 1, .pointer (some ⟨d, 0, none⟩)] 204 (0, 0))
  rem : w'.heap[rr]? = some (.cells #[.pointer (some ⟨d0, 0, none⟩)] 101 (0, 0))
  q0 : isQ w' d0 b0 e0 rootQ.1 rootQ.2
  q : isQ w' d bo be rootQ.1 rootQ.2
  ge : B ≤ hb ∧ B ≤ rr ∧ B ≤ d0 ∧ B ≤ b0 ∧ B ≤ e0 ∧ B ≤ d ∧ B ≤ bo ∧ B ≤ be
  ne : b0 ≠ e0 ∧ b0 ≠ bo ∧ b0 ≠ be ∧ e0 ≠ bo ∧ e0 ≠ be ∧ bo ≠ be
theorem isQ.rootG {w w' : World} {d bo be : Nat} (h : isQ w d bo be rootQ.1 rootQ.2) (hk : ∀ k, (k = d ∨ k = bo ∨ k = be) → w'.heap[k]? = w.heap[k]?) : isQ w' d bo be rootQ.1 rootQ.2 := by
  obtain ⟨es, clk, hmo⟩ := h.ho
  obtain ⟨es2, clk2, hme⟩ := h.he
  refine ⟨by rw [hk d (.inl rfl)]; exact h.hd, ⟨es, clk, hmo.blockK (hk bo (.inr (.inl rfl)))⟩, ⟨es2, clk2, hme.blockK (hk be (.inr (.inr rfl)))⟩, fun p hp => ?_, fun p hp => by cases hp⟩
  simp [rootQ] at hp
  subst hp
  exact ⟨.inl ⟨rfl, rfl⟩, fun q hq => by cases hq⟩
theorem isQ.lts {w : World} {d bo be : Nat} {os : List (PId × CQObj)} {els : List (PId × CQEl)} (h : isQ w d bo be os els) : d < w.heap.size ∧ bo < w.heap.size ∧ be < w.heap.size := by
  obtain ⟨_, _, hmo⟩ := h.ho
  obtain ⟨_, _, hme⟩ := h.he
  exact ⟨blk_lt h.hd, hmo.lt, hme.lt⟩
theorem NewH.lts {B : Nat} {w : World} {sp : Int} {hb rr d0 b0 e0 d bo be : Nat} (h : NewH B w sp hb rr d0 b0 e0 d bo be) : hb < w.heap.size ∧ rr < w.heap.size ∧ d0 < w.heap.size ∧ b0 < w.heap.size ∧ e0 < w.heap.size ∧ d < w.heap.size ∧ bo < w.heap.size ∧ be < w.heap.size :=
  ⟨blk_lt h.hist, blk_lt h.rem, h.q0.lts.1, h.q0.lts.2.1, h.q0.lts.2.2, h.q.lts.1, h.q.lts.2.1, h.q.lts.2.2⟩
theorem NewH.keepK {B : Nat} {w w' : World} {sp : Int} {hb rr d0 b0 e0 d bo be : Nat} (h : NewH B w sp hb rr d0 b0 e0 d bo be) (hk : ∀ k, k = hb ∨ k = rr ∨ k = d0 ∨ k = b0 ∨ k = e0 ∨ k = d ∨ k = bo ∨ k = be → w'.heap[k]? = w.heap[k]?) : NewH B w' sp hb rr d0 b0 e0 d bo be :=
  ⟨(hk _ (.inl rfl)).trans h.hist, (hk _ (.inr (.inl rfl))).trans h.rem, h.q0.rootG fun k e => hk k (by rcases e with e | e | e <;> simp [e]), h.q.rootG fun k e => hk k (by rcases e with e | e | e <;> simp [e]), h.ge, h.ne⟩
theorem NewH.keep {B : Nat} {w w' : World} {sp : Int} {hb rr d0 b0 e0 d bo be : Nat} (h : NewH B w sp hb rr d0 b0 e0 d bo be) (hb' : Below w.heap.size w w') : NewH B w' sp hb rr d0 b0 e0 d bo be := by
  obtain ⟨l1, l2, l3, l4, l5, l6, l7, l8⟩ := h.lts
  refine h.keepK fun k e => hb'.block k ?_
  rcases e with e | e | e | e | e | e | e | e <;> omega
theorem NewH.mono {B B' : Nat} {w : World} {sp : Int} {hb rr d0 b0 e0 d bo be : Nat} (h : NewH B w sp hb rr d0 b0 e0 d bo be) (hB : B' ≤ B) : NewH B' w sp hb rr d0 b0 e0 d bo be := by
  obtain ⟨g1, g2, g3, g4, g5, g6, g7, g8⟩ := h.ge
  exact ⟨h.hist, h.rem, h.q0, h.q, ⟨by omega, by omega, by omega, by omega, by omega, by omega, by omega, by omega⟩, h.ne⟩

set_option maxRecDepth 1000000 in
set_option maxHeartbeats 2000000 in
theorem histNew_g (sp : Int) (w : World) :
    Calls Tryz.prog 128 #[.int .i64 sp] w fun e w' => (∃ hb rr d0 b0 e0 d bo be, e = .returned (.pointer (some ⟨hb, 0, none⟩)) ∧ NewH w.heap.size w' sp hb rr d0 b0 e0 d bo be) ∧ Below w.heap.size w w' := by
  have HN1 := hid (docNew_q w)
  go_enter Tryz.func128, Tryz.ntmps128
  go_wp2_with fail
  refine HN1.out.mono ?_
  rintro e w1 ⟨⟨d0, bo0, be0, rfl, hq0, k1, k2, k3, k4⟩, hb1⟩
  have HB1 := hid hb1; clear hb1
  have HQ0 := hid hq0
  have hlt0 := hq0.lts
  clear hq0
  have hz1 := HB1.out.size
  have HBA := hid ((Below.refl w1.heap.size w1).alloc (Nat.le_refl _) (.cells #[.pointer (some ⟨d0, 0, none⟩)] 101))
  have HN2 := hid (docNew_q (w1.alloc (.cells #[.pointer (some ⟨d0, 0, none⟩)] 101)))
  go_wp2_with fail
  refine HN2.out.mono ?_
  rintro e w2 ⟨⟨d, bo, be, rfl, hq, h1, h2, h3, h4⟩, hb2⟩
  simp at h1 h2 h3 hb2
  have HRB := hid (show w2.heap[w1.heap.size]? = some (.cells #[.pointer (some ⟨d0, 0, none⟩)] 101 (0, 0)) from (hb2.block w1.heap.size (by omega)).trans (blk_new w1 _))
  have HB2 := hid (HBA.out.trans (hb2.mono (by omega))); clear hb2
  have HQ := hid hq; clear hq
  have hz2 := blk_lt HRB.out
  go_wp2
  go_ret
  have hb3 := (Below.refl w2.heap.size w2).alloc (Nat.le_refl _) (.cells #[.int .i64 sp, .int .i64 0, .slice none 0 0, .slice (some ⟨w1.heap.size, 0, none⟩) 1 1, .pointer (some ⟨d, 0, none⟩)] 204)
  obtain ⟨l1, l2, l3⟩ := hlt0
  exact ⟨⟨w2.heap.size, w1.heap.size, d0, bo0, be0, d, bo, be, rfl, blk_new w2 _, blk_keep HRB.out hb3, (HQ0.out.keep HB2.out).keep hb3, HQ.out.keep hb3, ⟨by omega, by omega, by omega, by omega, by omega, by omega, by omega, by omega⟩, k4, by omega, by omega, by omega, by omega, h4⟩, (HB1.out.trans (HB2.out.mono hz1)).trans (hb3.mono (by omega))⟩

theorem zrow_eq (N : Nat) : zrow N = gRow N fun _ => 0 := by
  have h1 : (zrow N).toList = List.replicate N (Value.int .i64 0) := by
    unfold zrow
    have := toList_madeCells_one (.int .i64 0) (N * 1)
    rw [Nat.mul_one] at this ⊢
    exact this
  apply Array.ext'
  rw [h1]
  unfold gRow
  apply List.ext_getElem
  · simp
  · intro i h2 h3
    simp
theorem blk_atG {w : World} {o : Obj} {k : Nat} (h : k = w.heap.size) : (w.alloc o).heap[k]? = some o := by rw [h]; exact blk_new w o
theorem alloc_neG {w : World} {o : Obj} {k : Nat} (h : k ≠ w.heap.size) : (w.alloc o).heap[k]? = w.heap[k]? := by
  by_cases hk : k < w.heap.size
  · exact alloc_old_r _ _ hk
  · have h1 : w.heap[k]? = none := by simp; omega
    have h2 : (w.alloc o).heap[k]? = none := by simp; omega
    rw [h1, h2]
theorem below_thenG {w V w1 : World} (hb : Below V.heap.size V w1) (h : Below w.heap.size w V) : Below w.heap.size w w1 := h.trans (hb.mono h.size)
/-- What newReplica has made ahead of its loop. -/
structure NewRepG (w wc : World) (N sp c : Nat) (p : Value) (rb gh hb rr d0 b0 e0 d bo be bE bN : Nat) : Prop where
  p : p = .pointer (some ⟨rb, 0, none⟩)
  blk : wc.heap[rb]? = some (.cells #[.int .i64 c, .int .i64 0, .slice (some ⟨gh, 0, none⟩) N N, .pointer (some ⟨hb, 0, none⟩), .map (some bE), .map (some bN)] 109 (0, 0))
  heard : wc.heap[gh]? = some (.cells (zrow N) 3 (0, 0))
  early : wc.heap[bE]? = some (.map #[] 0)
  new : wc.heap[bN]? = some (.map #[] 0)
  nh : NewH w.heap.size wc sp hb rr d0 b0 e0 d bo be
  ge : w.heap.size ≤ rb ∧ w.heap.size ≤ gh ∧ w.heap.size ≤ bE ∧ w.heap.size ≤ bN
  nm : bE ≠ bN ∧ (∀ k, k = b0 ∨ k = e0 ∨ k = bo ∨ k = be → bE ≠ k ∧ bN ≠ k)
  below : Below w.heap.size w wc
end Go.Proofs.YtnkpogjiiohapaaGreatDoor

/-! GNewC: New in general: newReplica. -/
namespace Go.Proofs.YtnkpogjiiohapaaGreatDoor
open Go.RowKit
attribute [local go_sem ↓] Go.wp_at_zero Go.wp_at_succ

/-- No block stands under two keys. -/
def InjI (m : List (Int × Nat)) : Prop := ∀ d d' g, lookI d m = some g → lookI d' m = some g → d = d'
theorem InjI.put {m : List (Int × Nat)} (h : InjI m) {k : Int} {b : Nat} (hb : ∀ p ∈ m, p.2 ≠ b) : InjI (putI k b m) := fun d d' g h1 h2 => by
  rw [look_put] at h1 h2
  by_cases e1 : d = k
  · by_cases e2 : d' = k
    · rw [e1, e2]
    · rw [if_neg e2] at h2
      rw [if_pos e1] at h1
      cases h1
      exact absurd rfl (hb _ (look_mem h2))
  · rw [if_neg e1] at h1
    by_cases e2 : d' = k
    · rw [if_pos e2] at h2
      cases h2
      exact absurd rfl (hb _ (look_mem h1))
    · rw [if_neg e2] at h2
      exact h d d' g h1 h2
/-- The rows of a new copy's map 'newest' by now. -/
def NewN (wc wr : World) (N c k bN : Nat) (m : List (Int × Nat)) : Prop := (∃ es clk, isMap numV (rowV N) wr bN m es clk) ∧ (∀ p ∈ m, wr.heap[p.2]? = some (.cells (zrow N) 3 (0, 0)) ∧ wc.heap.size ≤ p.2) ∧ ((∀ d : Nat, d < k → d ≠ c → ∃ g, lookI (d : Int) m = some g) ∧ InjI m ∧ (∀ p ∈ m, ∃ d : Nat, d < N ∧ d ≠ c ∧ p.1 = (d : Int)) ∧ (m.map (·.1)).Nodup) ∧ Turned (fun k => k = bN) wc wr
/-- A copy that has done nothing. -/
def isNew (w w' : World) (N sp c rb : Nat) (q : RQ) : Prop := RepM w' rb (fun k => w.heap.size ≤ k ∧ k < w'.heap.size) (fun _ => False) N sp c 0 (fun _ => 0) [] [] q ∧ q.D0 = (rootQ, []) ∧ (∀ d : Nat, d < N → d ≠ c → ∃ g, lookI (d : Int) q.ns = some g) ∧ (InjI q.ns ∧ (∀ p ∈ q.ns, ∃ d : Nat, d < N ∧ d ≠ c ∧ p.1 = (d : Int)) ∧ (q.ns.map (·.1)).Nodup) ∧ ∀ g, q.nv g = List.replicate N 0

theorem root_ownG {bo be : Nat} {R : Nat → Prop} (h1 : bo ≠ be) (h2 : ¬ R bo) (h3 : ¬ R be) : QOwn bo be R rootQ.1 rootQ.2 := by
  refine ⟨h1, h2, h3, fun p hp b hb => ?_, fun p hp k hk b hb => ?_, fun p hp => by cases hp⟩
  · simp [rootQ] at hp
    subst hp
    cases hb
  · simp [rootQ] at hp
    subst hp
    cases hk
theorem NewRepG.rep {w wc wr : World} {N sp c : Nat} {p : Value} {rb gh hb rr d0 b0 e0 d bo be bE bN : Nat} (h : NewRepG w wc N sp c p rb gh hb rr d0 b0 e0 d bo be bE bN) {m : List (Int × Nat)} (hm : NewN wc wr N c N bN m) (hc : c < N) (hN : N ≤ 4) (h1 : 1 ≤ sp) (h2 : sp ≤ 50) : (∃ q, isNew w wr N sp c rb q) ∧ Below w.heap.size w wr := by
  obtain ⟨⟨es, clk, hmap⟩, hrow, hlook, ht⟩ := hm
  have hkeep : ∀ k, k < wc.heap.size → k ≠ bN → wr.heap[k]? = wc.heap[k]? := fun k hk hne => ht.other k hk hne
  have hcell : ∀ k c t f, wc.heap[k]? = some (.cells c t f) → k ≠ bN := fun k c t f hk e => by rw [e, h.new] at hk; cases hk
  obtain ⟨g1, g2, g3, g4⟩ := h.ge
  obtain ⟨u1, u2, u3, u4, u5, u6, u7, u8⟩ := h.nh.ge
  obtain ⟨l1, l2, l3, l4, l5, l6, l7, l8⟩ := h.nh.lts
  obtain ⟨n1, n2, n3, n4, n5, n6⟩ := h.nh.ne
  have hX := (hkeep _ (blk_lt h.blk) (hcell _ _ _ _ h.blk)).trans h.blk
  have hG := (hkeep _ (blk_lt h.heard) (hcell _ _ _ _ h.heard)).trans h.heard
  have lE := (Array.getElem?_eq_some_iff.1 h.early).1
  have hE := (hkeep _ lE h.nm.1).trans h.early
  have hNH : NewH w.heap.size wr sp hb rr d0 b0 e0 d bo be := h.nh.keepK fun k e => by
    rcases e with rfl | rfl | rfl | rfl | rfl | rfl | rfl | rfl
    · exact hkeep _ l1 (hcell _ _ _ _ h.nh.hist)
    · exact hkeep _ l2 (hcell _ _ _ _ h.nh.rem)
    · exact hkeep _ l3 (hcell _ _ _ _ h.nh.q0.hd)
    · exact hkeep _ l4 (Ne.symm (h.nm.2 _ (.inl rfl)).2)
    · exact hkeep _ l5 (Ne.symm (h.nm.2 _ (.inr (.inl rfl))).2)
    · exact hkeep _ l6 (hcell _ _ _ _ h.nh.q.hd)
    · exact hkeep _ l7 (Ne.symm (h.nm.2 _ (.inr (.inr (.inl rfl)))).2)
    · exact hkeep _ l8 (Ne.symm (h.nm.2 _ (.inr (.inr (.inr rfl)))).2)
  have hbl : Below w.heap.size w wr := ⟨ht.os.trans h.below.os, ht.tape.trans h.below.tape, ht.output.trans h.below.output, Nat.le_trans h.below.size ht.size, fun k hk => (ht.other k (Nat.lt_of_lt_of_le hk h.below.size) (by omega)).trans (h.below.block k hk)⟩
  have hts := ht.size
  have lb := blk_lt h.blk
  have lg := blk_lt h.heard
  have lN := hmap.lt
  have tE : ∀ {k : Nat} {c : Array Value} {t : TypeId} {f : Nat × Nat}, wc.heap[k]? = some (.cells c t f) → k ≠ bE := fun {k c t f} hk e => by rw [e, h.early] at hk; cases hk
  have tm : ∀ {k b : Nat} {c : Array Value} {t : TypeId} {f : Nat × Nat}, wc.heap[k]? = some (.cells c t f) → (∃ es clk, isMap idV qobjV wc b rootQ.1 es clk) ∨ (∃ es clk, isMap idV qelV wc b rootQ.2 es clk) → k ≠ b := fun {k b c t f} hk hb e => by
    rcases hb with ⟨_, _, hb⟩ | ⟨_, _, hb⟩ <;> (have := hb.blk; rw [← e, hk] at this; cases this)
  have tt : ∀ {k k' : Nat} {c c' : Array Value} {t t' : TypeId} {f : Nat × Nat}, wc.heap[k]? = some (.cells c t f) → wc.heap[k']? = some (.cells c' t' f) → t ≠ t' → k ≠ k' := fun {k k' c c' t t' f} hk hk' hne e => by
    rw [e, hk'] at hk
    injection hk with hk
    injection hk with _ hk
    exact hne hk.symm
  have hq0 := h.nh.q0
  have hq := h.nh.q
  -- none of the history's blocks
  have notH : ∀ {k : Nat} {c : Array Value} {t : TypeId}, wc.heap[k]? = some (.cells c t (0, 0)) → t ≠ 204 → t ≠ 101 → t ≠ 174 → ¬ (k = hb ∨ k = rr ∨ k = d0 ∨ k = b0 ∨ k = e0 ∨ k = d ∨ k = bo ∨ k = be) := fun {k c t} hk a1 a2 a3 e => by
    rcases e with e | e | e | e | e | e | e | e
    · exact tt hk h.nh.hist a1 e
    · exact tt hk h.nh.rem a2 e
    · exact tt hk hq0.hd a3 e
    · exact tm hk (.inl hq0.ho) e
    · exact tm hk (.inr hq0.he) e
    · exact tt hk hq.hd a3 e
    · exact tm hk (.inl hq.ho) e
    · exact tm hk (.inr hq.he) e
  have mapsE : mapsOf [(⟨d0, b0, e0, rootQ⟩ : RDoc)] bo be = [b0, e0, bo, be] := rfl
  have inM : ∀ k, (k = b0 ∨ k = e0 ∨ k = bo ∨ k = be) → ¬ ofR (fun k => k = hb ∨ k = rr ∨ k = d0 ∨ k = b0 ∨ k = e0 ∨ k = d ∨ k = bo ∨ k = be) [(⟨d0, b0, e0, rootQ⟩ : RDoc)] bo be k := fun k hk hh => hh.2 (by rw [mapsE]; simpa using hk)
  refine ⟨⟨⟨gh, hb, bE, bN, 0, d, bo, be, .slice none 0 0, .slice (some ⟨rr, 0, none⟩) 1 1, [⟨d0, b0, e0, rootQ⟩], (rootQ, []), rootQ, m, fun _ => List.replicate N 0, fun k => k = hb ∨ k = rr ∨ k = d0 ∨ k = b0 ∨ k = e0 ∨ k = d ∨ k = bo ∨ k = be⟩, ⟨hX, by rw [← zrow_eq]; exact hG, ?_, by simp, List.Pairwise.nil, ⟨#[], 0, ⟨hE, rfl, by simp, by simp⟩⟩, fun p hp => (by cases hp), ⟨es, clk, hmap⟩, ?_, hc, hN, ⟨g1, Nat.lt_of_lt_of_le lb hts⟩, ⟨g2, Nat.lt_of_lt_of_le lg hts⟩, ⟨g3, Nat.lt_of_lt_of_le lE hts⟩, ⟨g4, lN⟩, ?_, ?_, ?_, ?_, ?_, h.nm.1, fun k hk => hk.2, fun k hk => hk.elim⟩, rfl, fun d' hd' hne => hlook.1 d' hd' hne, hlook.2, fun _ => rfl⟩, hbl⟩
  · refine ⟨hNH.hist, World.ownsRow_nil _ _ _ _, fun o ho => (by cases ho), ?_, h1, h2, h1, Nat.le_refl _, by simp, ?_, ?_, hNH.q, root_ownG n6 (inM _ (by simp)) (inM _ (by simp)), QNd.root, rfl, ?_, .inl rfl, fun k hk => (by cases hk), fun k hk => (by cases hk; exact .inr (.inl rfl)), ?_, by simp, by simp, by simp, ?_, fun k hk => hk.elim, fun k hk => hk.elim⟩
    · exact ⟨by simp [ptrC], .inr ⟨rr, 1, _, rfl, Nat.zero_le _, hNH.rem, by simp, by unfold maxLen; simp, by simp, by simp [ptrC]⟩⟩
    · intro r hr
      obtain rfl := List.mem_singleton.1 hr
      exact ⟨hNH.q0, root_ownG n1 (inM _ (by simp)) (inM _ (by simp)), QNd.root⟩
    · intro j hj
      have : j = 0 := by simpa using hj
      subst this
      show DoTo rootQ (List.take (0 * sp - 0) []) rootQ
      rw [List.take_nil]
      rfl
    · rw [mapsE]
      simp
      omega
    · intro r hr
      obtain rfl := List.mem_singleton.1 hr
      simp
    · intro k hk
      rcases hk with e | e | e | e | e | e | e | e <;> omega
  · intro p hp
    obtain ⟨a1, a2⟩ := hrow p hp
    refine ⟨⟨by simp, ?_⟩, by show p.2 ≠ gh; omega, ⟨by omega, blk_lt a1⟩, ?_⟩
    · rw [a1, zrow_eq]
      unfold gRow
      congr 3
      rw [List.map_replicate]
      exact List.ext_getElem (by simp) fun i _ _ => by simp
    · intro e
      rcases e with e | e | e | e | e | e | e | e <;> omega
  · intro k hk
    show w.heap.size ≤ k ∧ k < wr.heap.size
    rcases hk with e | e | e | e | e | e | e | e <;> omega
  · exact notH h.blk (by decide) (by decide) (by decide)
  · exact notH h.heard (by decide) (by decide) (by decide)
  · intro e
    rcases e with e | e | e | e | e | e | e | e
    · exact tE h.nh.hist e.symm
    · exact tE h.nh.rem e.symm
    · exact tE hq0.hd e.symm
    · exact (h.nm.2 _ (.inl rfl)).1 e
    · exact (h.nm.2 _ (.inr (.inl rfl))).1 e
    · exact tE hq.hd e.symm
    · exact (h.nm.2 _ (.inr (.inr (.inl rfl)))).1 e
    · exact (h.nm.2 _ (.inr (.inr (.inr rfl)))).1 e
  · intro e
    rcases e with e | e | e | e | e | e | e | e
    · exact hcell _ _ _ _ h.nh.hist e.symm
    · exact hcell _ _ _ _ h.nh.rem e.symm
    · exact hcell _ _ _ _ hq0.hd e.symm
    · exact (h.nm.2 _ (.inl rfl)).2 e
    · exact (h.nm.2 _ (.inr (.inl rfl))).2 e
    · exact hcell _ _ _ _ hq.hd e.symm
    · exact (h.nm.2 _ (.inr (.inr (.inl rfl)))).2 e
    · exact (h.nm.2 _ (.inr (.inr (.inr rfl)))).2 e

end Go.Proofs.YtnkpogjiiohapaaGreatDoor

/-! GNewD: New in general: newReplica, walked. -/
namespace Go.Proofs.YtnkpogjiiohapaaGreatDoor
open Go.RowKit
attribute [local go_sem ↓] Go.wp_at_zero Go.wp_at_succ

set_option maxRecDepth 1000000 in
set_option maxHeartbeats 8000000 in
theorem newReplica_g (c N sp : Nat) (hc : c < N) (hN : N ≤ 4) (h1 : 1 ≤ sp) (h2 : sp ≤ 50) (w : World) :
    Calls Tryz.prog 72 #[.int .i64 c, .int .i64 N, .int .i64 sp] w fun e w' => (∃ rb, e = .returned (.pointer (some ⟨rb, 0, none⟩)) ∧ ∃ q, isNew w w' N sp c rb q) ∧ Below w.heap.size w w' := by
  have hmi := run_mkInts N hN
  have hm1 := mk_map 106
  have hm2 := mk_map 107
  have HNW := hid (histNew_g (sp : Int))
  go_enter Tryz.func72, Tryz.ntmps72
  go_wp2_with fail
  go_cut [7, 11, 13, 14, 15] (fun p s h m1 m2 wc => ∃ rb gh hb rr d0 b0 e0 d bo be bE bN, s = .slice (some ⟨gh, 0, none⟩) N N ∧ h = .pointer (some ⟨hb, 0, none⟩) ∧ m1 = .map (some bE) ∧ m2 = .map (some bN) ∧ NewRepG w wc N sp c p rb gh hb rr d0 b0 e0 d bo be bE bN)
  case first =>
    go_region_with (first | (go_at_call 128; refine (HNW.out _).mono ?_; rintro e w1 ⟨⟨hb, rr, d0, b0, e0, d, bo, be, rfl, hnh⟩, hb1⟩; have HBW := hid (below_thenG (w := w) hb1 (by go_grown)); obtain ⟨l1, l2, l3, l4, l5, l6, l7, l8⟩ := hnh.lts; obtain ⟨g1, g2, g3, g4, g5, g6, g7, g8⟩ := hnh.ge; (try simp at g1 g2 g3 g4 g5 g6 g7 g8); have hz := hb1.size; (try simp at hz); have HNH := hid (hnh.mono (B' := w.heap.size) (by simp <;> omega)); have HB1 := hid hb1; clear hnh hb1))
    all_goals (go_wp2_with fail; go_meet)
    all_goals refine ⟨_, _, hb, rr, d0, b0, e0, d, bo, be, _, _, rfl, rfl, rfl, rfl, rfl, ?_, ?_, ?_, ?_, HNH.out.keep (by go_grown), ⟨by omega, by omega, by omega, by omega⟩, ⟨by omega, fun k hk => by omega⟩, HBW.out.trans (Below.mono (by go_grown : Below w1.heap.size w1 _) (by omega))⟩
    all_goals repeat' (first
      | exact blk_atG (by first | rfl | omega | (simp; done) | (simp; omega))
      | (refine (alloc_neG (by first | omega | (simp; done) | (simp; omega))).trans ?_)
      | (refine (HB1.out.block _ (by first | omega | (simp; done) | (simp; omega))).trans ?_))
  case rest =>
    obtain ⟨rb, gh, hb, rr, d0, b0, e0, d, bo, be, bE, bN, rfl, rfl, rfl, rfl, hnr⟩ := hcut
    have hp := hnr.p
    subst hp
    have HR := hid hnr
    have c5 : wc.cell? ⟨rb, 5, none⟩ = some (.map (some bN)) := by simp [World.cell?, hnr.blk]
    clear hnr hm1 hm2
    have HM0 := hid (show NewN wc wc N c 0 bN [] from ⟨⟨#[], 0, ⟨HR.out.new, rfl, by simp, by simp⟩⟩, fun p hp => (by cases hp), ⟨fun d hd => absurd hd (Nat.not_lt_zero _), fun d d' g h1 => (by cases h1), fun p hp => (by cases hp), List.nodup_nil⟩, Turned.of_below (Below.refl _ _)⟩)
    have hrl := blk_lt HR.out.blk
    go_wp2_with fail
    go_loopw [19] (fun i wr => ∃ k : Nat, k ≤ N ∧ i = .int .i64 k ∧ ∃ m, NewN wc wr N c k bN m) (fun i _ => N - (intOf i).toNat)
    case atStart => exact ⟨0, Nat.zero_le _, rfl, _, HM0.out⟩
    case round =>
      obtain ⟨k, hk, rfl, m, hm⟩ := hrel
      have HM := hid hm; clear hm
      have d5 : wr.cell? ⟨rb, 5, none⟩ = some (.map (some bN)) := HM.out.2.2.2.cell (fun e => by have h1 := HR.out.blk; rw [e, HR.out.new] at h1; cases h1) c5
      have hrl2 : rb < wr.heap.size := Nat.lt_of_lt_of_le hrl HM.out.2.2.2.size
      by_cases hlt : k < N
      · by_cases hkc : k = c
        · subst hkc
          go_wp2
          go_roundw
          case rel => exact ⟨k + 1, by omega, by go_num, m, HM.out.1, HM.out.2.1, ⟨fun d' hd' hne => HM.out.2.2.1.1 d' (by omega) hne, HM.out.2.2.1.2⟩, HM.out.2.2.2⟩
          case measure => simp [intOf]; omega
        · have hne : ¬ ((k : Int) = (c : Int)) := by omega
          have HBD := hid (show Below wr.heap.size wr ((wr.alloc (.cells (zrow N) 3)).drew) from ((Below.refl wr.heap.size wr).alloc (Nat.le_refl _) (.cells (zrow N) 3)).drew)
          obtain ⟨es, clk, hmp⟩ := HM.out.1
          have hbNl := hmp.lt
          have HMA := hid (hmp.keep HBD.out)
          clear hmp
          obtain ⟨es', clk', hrun, hm'⟩ := run_putI numKey HMA.out Tryz.underlying107 (k : Int) wr.heap.size
          simp only [numV, rowV] at hrun
          have HM' := hid hm'; clear hm'
          have HNX := hid (show NewN wc (putObj ((wr.alloc (.cells (zrow N) 3)).drew) bN (.map es' clk')) N c (k + 1) bN (putI (k : Int) wr.heap.size m) from by
            refine ⟨⟨_, _, HM'.out⟩, fun p hp => ?_, ⟨fun d' hd' hne' => ?_, HM.out.2.2.1.2.1.put fun p hp e => ?_, fun p hp => ?_, put_keys HM.out.2.2.1.2.2.2⟩, (HM.out.2.2.2.trans (Turned.of_below HBD.out)).trans (Turned.put _ rfl)⟩
            · have hnb : p.2 ≠ bN ∧ ((wr.alloc (.cells (zrow N) 3)).drew).heap[p.2]? = some (.cells (zrow N) 3 (0, 0)) ∧ wc.heap.size ≤ p.2 := by
                rcases put_mem hp with hp | rfl
                · obtain ⟨a1, a2⟩ := HM.out.2.1 p hp
                  refine ⟨fun e => ?_, (HBD.out.block _ (blk_lt a1)).trans a1, a2⟩
                  have := (Array.getElem?_eq_some_iff.1 HR.out.new).1
                  omega
                · have hts := HM.out.2.2.2.size
                  exact ⟨by show wr.heap.size ≠ bN; omega, blk_new wr _, hts⟩
              exact ⟨(putObj_other hnb.1).trans hnb.2.1, hnb.2.2⟩
            · rw [look_put]
              split
              · exact ⟨_, rfl⟩
              · exact HM.out.2.2.1.1 d' (by omega) hne'
            · have := blk_lt (HM.out.2.1 p hp).1
              omega
            · rcases put_mem hp with hp | rfl
              · exact HM.out.2.2.1.2.2.1 p hp
              · exact ⟨k, hlt, hkc, rfl⟩)
          have hmi2 := hmi
          go_wp2_with fail
          go_region
          all_goals go_wp2
          all_goals go_roundw
          all_goals first
            | exact ⟨k + 1, by omega, by go_num, _, HNX.out⟩
            | (simp [intOf]; omega)
      · have hke : k = N := by omega
        subst hke
        go_wp2
        go_ret
        obtain ⟨hq, hbl⟩ := HR.out.rep HM.out hc hN h1 h2
        exact ⟨⟨rb, rfl, hq⟩, hbl⟩

end Go.Proofs.YtnkpogjiiohapaaGreatDoor
