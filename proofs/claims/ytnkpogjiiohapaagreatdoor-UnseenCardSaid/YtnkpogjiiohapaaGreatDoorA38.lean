/- Our own text (GNewE, GLawA, GLawB, GLawC, GLawD). -/
import Derived.Deep.RegionLaw
import Derived.Test.YtnkpogjiiohapaaGreatDoorA37
set_option linter.unusedSimpArgs false
set_option linter.unusedVariables false

/-! GNewE: New in general. -/
namespace Go.Proofs.YtnkpogjiiohapaaGreatDoor
open Go.RowKit
attribute [local go_sem ↓] Go.wp_at_zero Go.wp_at_succ

def isNewR (w' : World) (rb : Nat) (F : Nat → Prop) (N sp c : Nat) (q : RQ) : Prop := RepM w' rb F (fun _ => False) N sp c 0 (fun _ => 0) [] [] q ∧ q.D0 = (rootQ, []) ∧ (∀ d : Nat, d < N → d ≠ c → ∃ g, lookI (d : Int) q.ns = some g) ∧ (InjI q.ns ∧ (∀ p ∈ q.ns, ∃ d : Nat, d < N ∧ d ≠ c ∧ p.1 = (d : Int)) ∧ (q.ns.map (·.1)).Nodup) ∧ ∀ g, q.nv g = List.replicate N 0
theorem isNewR.keepF {w w' : World} {rb : Nat} {F : Nat → Prop} {N sp c : Nat} {q : RQ} (h : isNewR w rb F N sp c q) (hs : w.heap.size ≤ w'.heap.size) (hk : ∀ k, F k → w'.heap[k]? = w.heap[k]?) : isNewR w' rb F N sp c q := ⟨h.1.keepF hs hk (fun _ hk => hk.elim), h.2⟩
theorem isNewR.keep {w w' : World} {rb : Nat} {F : Nat → Prop} {N sp c : Nat} {q : RQ} (h : isNewR w rb F N sp c q) (hb : Below w.heap.size w w') : isNewR w' rb F N sp c q := h.keepF hb.size fun k hk => hb.block k (h.1.lt k hk)
structure NewPrG (w wr : World) (N sp r bl : Nat) (vC : Value) (l : List Nat) (Fc : Nat → Nat → Prop) (q : Nat → RQ) : Prop where
  blk : wr.heap[r]? = some (.cells #[vC, .map (some bl)] 119 (0, 0))
  row : wr.ownsRow 0 92 1 vC l.length (l.flatMap ptrC)
  reps : ∀ c (hc : c < l.length), isNewR wr l[c] (Fc c) N sp c (q c)
  new : ∀ c, c < l.length → ∀ j, Fc c j → w.heap.size ≤ j
  dis : ∀ c c', c < l.length → c' < l.length → c ≠ c' → ∀ k, Fc c k → ¬ Fc c' k
  nr : ∀ c, c < l.length → ¬ Fc c r
  nC : ∀ c, c < l.length → ∀ g, vC.ownBlock = some g → ¬ Fc c g
  rge : w.heap.size ≤ r
  cge : ∀ g, vC.ownBlock = some g → w.heap.size ≤ g
  below : Below w.heap.size w wr

/-- ONE COPY MORE. -/
theorem NewPrG.step {w wr w2 w3 : World} {N sp r bl : Nat} {vC vC' : Value} {l : List Nat} {Fc : Nat → Nat → Prop} {q : Nat → RQ} (h : NewPrG w wr N sp r bl vC l Fc q) {rb : Nat} {qn : RQ} (hb2 : Below wr.heap.size wr w2) (hr2 : isNewR w2 rb (fun k => wr.heap.size ≤ k ∧ k < w2.heap.size) N sp l.length qn) (o : Obj)
    (ho3 : w3.ownsRow 0 92 1 vC' (l.length + 1) ((l ++ [rb]).flatMap ptrC)) (hg3 : (w2.alloc o).grownBy w3 vC.ownBlock) (hn3 : newOr (w2.alloc o) vC vC') :
    NewPrG w (w3.setCell ⟨r, 0, none⟩ vC') N sp r bl vC' (l ++ [rb]) (fun c => if c = l.length then fun k => wr.heap.size ≤ k ∧ k < w2.heap.size else Fc c) (fun c => if c = l.length then qn else q c) := by
  have hrl := blk_lt h.blk
  have hz2 := hb2.size
  have hrC : vC.ownBlock ≠ some r := fun e => by
    obtain ⟨cur, hc⟩ := own_type h.row e
    exact absurd (cells_type hc h.blk) (by decide)
  have hb3 : ∀ k, k < w2.heap.size → some k ≠ vC.ownBlock → w3.heap[k]? = w2.heap[k]? := fun k hk hne => (hg3.block k (by simp; omega) hne).trans (alloc_old_r _ _ hk)
  have hC' : ∀ g, vC'.ownBlock = some g → g < w2.heap.size → vC.ownBlock = some g := fun g hg hl => by
    rcases hn3 with hn | hn
    · rw [← hn]; exact hg
    · have := hn g hg; simp at this; omega
  have hr3 : w3.heap[r]? = some (.cells #[vC, .map (some bl)] 119 (0, 0)) := (hb3 r (by omega) (Ne.symm hrC)).trans ((hb2.block r hrl).trans h.blk)
  have hrC' : vC'.ownBlock ≠ some r := fun e => by
    obtain ⟨cur, hc⟩ := own_type ho3 e
    exact absurd (cells_type hc hr3) (by decide)
  have hlen : (l ++ [rb]).length = l.length + 1 := by simp
  have hsz : w2.heap.size ≤ (w3.setCell ⟨r, 0, none⟩ vC').heap.size := by have := hg3.size; simp [World.setCell] at this ⊢; omega
  have hCl : ∀ g, vC.ownBlock = some g → g < wr.heap.size := fun g hg => (World.ownsRow.lt h.row g hg).2
  refine ⟨?_, ?_, ?_, ?_, ?_, ?_, ?_, h.rge, ?_, ?_⟩
  · have := setRow (i := 0) (u := vC') hr3
    simpa using this
  · rw [hlen]; exact row_other ho3 hrC' _
  · intro c hc
    rw [hlen] at hc
    by_cases e : c = l.length
    · subst e
      simp only [if_true, List.getElem_concat_length]
      refine hr2.keepF hsz fun k hk => (setCell_other (by omega)).trans (hb3 k hk.2 (fun e => ?_))
      have := hCl k e.symm
      omega
    · have hcl : c < l.length := by omega
      simp only [e, if_false]
      rw [List.getElem_append_left hcl]
      refine ((h.reps c hcl).keep hb2).keepF hsz fun k hk => (setCell_other (show k ≠ r from fun e => h.nr c hcl (e ▸ hk))).trans (hb3 k (Nat.lt_of_lt_of_le ((h.reps c hcl).1.lt k hk) hz2) (fun e => h.nC c hcl k e.symm hk))
  · intro c hc j hj
    by_cases e : c = l.length
    · subst e
      simp only [if_true] at hj
      exact Nat.le_trans h.below.size hj.1
    · simp only [e, if_false] at hj
      exact h.new c (by rw [hlen] at hc; omega) j hj
  · intro c c' hc hc' hne k hk hk'
    rw [hlen] at hc hc'
    by_cases e : c = l.length
    · subst e
      have e' : ¬ c' = l.length := fun e => hne e.symm
      simp only [if_true] at hk
      simp only [e', if_false] at hk'
      have := (h.reps c' (by omega)).1.lt k hk'
      omega
    · simp only [e, if_false] at hk
      by_cases e' : c' = l.length
      · subst e'
        simp only [if_true] at hk'
        have := (h.reps c (by omega)).1.lt k hk
        omega
      · simp only [e', if_false] at hk'
        exact h.dis c c' (by omega) (by omega) hne k hk hk'
  · intro c hc hF
    rw [hlen] at hc
    by_cases e : c = l.length
    · subst e
      simp only [if_true] at hF
      omega
    · simp only [e, if_false] at hF
      exact h.nr c (by omega) hF
  · intro c hc g hg hF
    rw [hlen] at hc
    by_cases e : c = l.length
    · subst e
      simp only [if_true] at hF
      have := hCl g (hC' g hg hF.2)
      omega
    · simp only [e, if_false] at hF
      have hl := (h.reps c (by omega)).1.lt g hF
      exact h.nC c (by omega) g (hC' g hg (by omega)) hF
  · intro g hg
    by_cases hl : g < w2.heap.size
    · exact h.cge g (hC' g hg hl)
    · have := h.below.size; omega
  · refine ⟨hg3.os.trans (hb2.os.trans h.below.os), hg3.tape.trans (hb2.tape.trans h.below.tape), hg3.output.trans (hb2.output.trans h.below.output), Nat.le_trans (Nat.le_trans h.below.size hz2) hsz, fun k hk => ?_⟩
    have hws := h.below.size
    have hrg := h.rge
    rw [setCell_other (by omega), hb3 k (by omega) (fun e => by have := h.cge k e.symm; omega), hb2.block k (by omega), h.below.block k hk]

theorem range_flatG (l : List Nat) : l.flatMap ptrC = (List.range l.length).flatMap fun c => ptrC (l.getD c 0) := by
  have : l = (List.range l.length).map fun c => l.getD c 0 := by
    apply List.ext_getElem
    · simp
    · intro i h1 h2
      simp [h1]
  conv => lhs; rw [this]
  rw [List.flatMap_map]

/-- A room that has done nothing. -/
def s0 : RoomS := ⟨fun _ => 0, fun _ _ => 0, fun _ => [], fun _ => [], fun _ => [], fun _ => [], fun _ _ _ => 0, fun _ _ => []⟩
theorem ok0 {N : Nat} : RoomOk N (fun _ => []) s0 := by
  refine ⟨⟨fun c _ i hi => (by cases hi), fun c _ => (by simp), fun c _ => List.Pairwise.nil⟩, fun c hc => ⟨fun e he => ⟨Int.le_refl _, by simp [s0]⟩, ?_, fun o ho => (by cases ho), fun p hp => (by cases hp), List.nodup_nil⟩, fun c hc => rfl, fun c hc => List.Pairwise.nil, fun c hc => ⟨Int.le_refl _, fun g _ h => h⟩, fun e he y hy => (by cases hy), fun c d _ _ _ m hm => (by cases hm), fun c hc => rfl, fun c d _ _ _ m hm => (by cases hm), fun c d _ _ _ => ⟨fun i _ => ⟨Int.le_refl _, Int.le_refl _⟩, fun y hy => (by cases hy)⟩, fun c hc g hg => (by cases hg), fun c hc g hg => (by cases hg)⟩
  have : firsts (fun _ => []) (s0.has c) N = [] := by
    unfold firsts
    simp
  rw [this]
  exact .refl _
theorem md0 {N : Nat} : MadeDoc N (fun _ => []) := fun c _ i hi => by cases hi
theorem NewPrG.room {w w1 wr : World} {N sp r bl : Nat} {vC : Value} {l : List Nat} {Fc : Nat → Nat → Prop} {q : Nat → RQ} (h : NewPrG w1 wr N sp r bl vC l Fc q) (hlk : hasNewL w w1 bl fun c d => c < N ∧ d < N ∧ c ≠ d) (hl : l.length = N) (h1 : 1 ≤ N) (hN : N ≤ 4) : ∃ x, RoomD wr r (fun k => w.heap.size ≤ k ∧ k < wr.heap.size) (fun _ => False) N sp (fun _ => []) s0 x := by
  obtain ⟨a, cC, e, hc1, hc2, hf⟩ := owns_form h.row
  obtain ⟨gC, e2⟩ := hf 0 (by omega)
  subst e2
  subst e
  subst hl
  obtain ⟨lm, gl, gc, hL⟩ := hlk
  obtain ⟨es, clk, hm⟩ := hL.map
  have hs1 := h.below.size
  have hsw := hL.below.size
  have hrg := h.rge
  have hcg := h.cge gC rfl
  have hll : ∀ c d, c < l.length ∧ d < l.length ∧ c ≠ d → gl c d < w1.heap.size ∧ gc c d < w1.heap.size := fun c d hp => ⟨blk_lt (hL.link c d hp).blk, (Array.getElem?_eq_some_iff.1 (hL.link c d hp).ch).1⟩
  have hbl := hm.lt
  have hbg := hL.bge
  refine ⟨⟨gC, cC, bl, lm, fun c => l.getD c 0, Fc, q, gl, gc, fun _ _ => [], fun _ _ => 0, fun _ _ => 0⟩, ⟨h.blk, by rw [← range_flatG]; exact h.row, hN, fun c hc => ?_, fun c hc => ?_, fun c hc => rfl, fun c d hc hd hcd => (by
    obtain ⟨g, hg⟩ := (h.reps c hc).2.2.1 d hd (Ne.symm hcd)
    refine ⟨g, hg, fun i hi => ?_⟩
    rw [(h.reps c hc).2.2.2.2 g]
    simp [rowOf, s0, hi]), fun c hc => (h.reps c hc).2.2.2.1, ⟨es, clk, hm.blockK (h.below.block _ hbl)⟩, fun c d hc hd hcd => hL.look c d ⟨hc, hd, hcd⟩, fun x y hno => hL.nolk x y fun ⟨c, d, ⟨p1, p2, p3⟩, e1, e2⟩ => hno ⟨c, d, p1, p2, p3, e1, e2⟩, fun c d hc hd hcd => (hL.link c d ⟨hc, hd, hcd⟩).keepB (h.below.block _ (hll c d ⟨hc, hd, hcd⟩).1) (h.below.block _ (hll c d ⟨hc, hd, hcd⟩).2), fun _ _ _ _ _ => trivial, fun c d c' d' hc hd hcd hc' hd' hcd' e => hL.inj c d c' d' ⟨hc, hd, hcd⟩ ⟨hc', hd', hcd'⟩ e, fun c hc k hk => ⟨Nat.le_trans hsw (h.new c hc k hk), (h.reps c hc).1.lt k hk⟩, h.dis, h.nr, fun c hc => h.nC c hc gC rfl, fun c hc hF => ?_, fun e he c d hc hd hcd => ⟨fun hF => ?_, fun hF => ?_⟩, ⟨by omega, blk_lt h.blk⟩, ⟨Nat.le_trans hsw hcg, (World.ownsRow.lt h.row gC rfl).2⟩, ⟨hbg, Nat.lt_of_lt_of_le hbl hs1⟩, fun c d hc hd hcd => ?_, fun k hk => hk.2, fun k hk => hk.elim, fun k hk => hk.elim⟩, ok0, md0⟩
  · have := (h.reps c hc).1
    show RepM wr (l.getD c 0) _ _ _ _ _ _ _ _ _ _
    rw [List.getD_eq_getElem?_getD, List.getElem?_eq_getElem hc]
    exact this
  · rw [(h.reps c hc).2.1]
    exact ⟨Agree.root, QNd.root, fun p hp => (by simp [rootQ] at hp; subst hp; rfl), rfl⟩
  · have : w1.heap.size ≤ bl := h.new c hc _ hF
    omega
  · have h2 : w1.heap.size ≤ gl c d := h.new e he _ hF
    have h3 := (hll c d ⟨hc, hd, hcd⟩).1
    omega
  · have h2 : w1.heap.size ≤ gc c d := h.new e he _ hF
    have h3 := (hll c d ⟨hc, hd, hcd⟩).2
    omega
  · obtain ⟨a1, a2⟩ := hL.ge c d ⟨hc, hd, hcd⟩
    obtain ⟨b1, b2⟩ := hll c d ⟨hc, hd, hcd⟩
    exact ⟨⟨a1, Nat.lt_of_lt_of_le b1 hs1⟩, ⟨a2, Nat.lt_of_lt_of_le b2 hs1⟩⟩

set_option maxRecDepth 1000000 in
set_option maxHeartbeats 4000000 in
theorem gNew (N sp : Nat) (h1 : 1 ≤ N) (hN : N ≤ 4) (h3 : 1 ≤ sp) (h4 : sp ≤ 50) (w : World) :
    Calls Tryz.prog 37 #[.int .i64 N, .int .i64 sp] w fun e w' => Below w.heap.size w w' ∧ ∃ r x, e = .returned (.tuple #[.pointer (some ⟨r, 0, none⟩), .int .i64 0]) ∧ RoomD w' r (fun k => w.heap.size ≤ k ∧ k < w'.heap.size) (fun _ => False) N sp (fun _ => []) s0 x := by
  have HL := hid (newLinks_g N hN w)
  go_enter Tryz.func37, Tryz.ntmps37
  go_wp2_with fail
  refine HL.out.mono ?_
  rintro e w1 ⟨rfl, hlk⟩
  have HLK := hid hlk
  have HB1 := hid (show Below w.heap.size w w1 by obtain ⟨_, _, _, hL⟩ := hlk; exact hL.below)
  clear hlk
  have hz1 := HB1.out.size
  go_wp2_with fail
  go_loopw [27] (fun i wr => ∃ vC l Fc q, l.length ≤ N ∧ i = .int .i64 (l.length : Int) ∧ NewPrG w1 wr N sp w1.heap.size w.heap.size vC l Fc q) (fun i _ => N - (intOf i).toNat)
  case atStart =>
    refine ⟨.slice none 0 0, [], fun _ _ => False, fun _ => ⟨0, 0, 0, 0, 0, 0, 0, 0, .slice none 0 0, .slice none 0 0, [], (rootQ, []), rootQ, [], fun _ => [], fun _ => False⟩, Nat.zero_le _, rfl, blk_new w1 _, World.ownsRow_nil _ _ _ _, fun c hc => (by cases hc), fun c hc => (by cases hc), fun c c' hc => (by cases hc), fun c hc => (by cases hc), fun c hc => (by cases hc), Nat.le_refl _, fun g hg => (by cases hg), (Below.refl _ w1).alloc (Nat.le_refl _) _⟩
  case round =>
    obtain ⟨vC, l, Fc, q, hl, rfl, hnp⟩ := hrel
    by_cases hlt : l.length < N
    · have HR := hid (fun W (hb : Below wr.heap.size wr W) => newReplica_g l.length N sp hlt hN h3 h4 W)
      obtain ⟨a, cC, rfl, hc1, hc2, hf⟩ := owns_form hnp.row
      clear hf
      unfold maxLen at hc2
      obtain ⟨c0, c1⟩ := blk2 hnp.blk
      have hrl := blk_lt hnp.blk
      have hne := World.new_ne wr ⟨w1.heap.size, 0, none⟩ c0
      have HNP := hid hnp; clear hnp
      have HNR := hid (show some w1.heap.size ≠ (Value.slice a l.length cC).ownBlock from fun e => by
        obtain ⟨cur, hc⟩ := own_type HNP.out.row e.symm
        exact absurd (cells_type hc HNP.out.blk) (by decide))
      have HBD := hid (show Below wr.heap.size wr wr.drew from (Below.refl _ wr).drew)
      go_wp2_with fail
      go_region_law (first
        | (go_simp; go_at_call 72; refine (HR.out _ HBD.out).mono ?_; rintro e w3 ⟨⟨rb, rfl, qn, hr3⟩, hb3⟩; have hb3' := Hid.out (below_drew_left hb3); clear hb3; replace c0 := keep hb3' c0; have hz3 := hb3'.size; have hb3l : w1.heap.size < w3.heap.size := (by omega); have hnw3 := World.new_ne w3 ⟨w1.heap.size, 0, none⟩ c0; have HX3 := hid (blk_keep HNP.out.blk hb3'); have HO3 := hid (owns_keep HNP.out.row hb3'); have HB3 := hid hb3'; have HR3 := hid hr3; clear hb3' hr3; have HBA := hid (show Below w3.heap.size w3 (w3.alloc (.cells #[.pointer (some ⟨rb, 0, none⟩)] 92)) from (Below.refl _ w3).alloc (Nat.le_refl _) _); dsimp only)
        | (refine step_app ptrC 1 8 116 92 (.pointer none) (by kernel_rfl) Tryz.underlying116 rfl (by omega) (fun _ => rfl) (by rfl) (.tmp 34) (.tmp 39) (by rfl) 0 (.slice a l.length cC) l (by rfl) (owns_keep HO3.out HBA.out) w3.heap.size 1 rb (by rfl) (cells_ptr (blk1' (blk_new w3 _))) (wf_ptr rb) (by omega) (by unfold maxLen; omega) (Nat.zero_le _) ?_; intro v4 w4 ho4 hg4 hn4; have HO4 := hid ho4; have HG4 := hid hg4; have HN4 := hid hn4; have hbl4 : w4.heap[w1.heap.size]? = w3.heap[w1.heap.size]? := ((hg4.block w1.heap.size (by simp; omega) (HNR.out)).trans (alloc_old_r _ _ hb3l)); have HX4 := hid (hbl4.trans HX3.out); clear hbl4 ho4 hg4 hn4; obtain ⟨a4, n4c, rfl, hl4, hc4, hf4⟩ := owns_form HO4.out; clear hl4 hc4 hf4; replace c0 := (blk2 HX4.out).1; have hfz4 := blk_fz HX4.out 0))
      all_goals go_wp2
      all_goals go_roundw
      all_goals first
        | (simp [intOf]; omega)
        | exact ⟨_, l ++ [rb], _, _, by simp; omega, by simp, HNP.out.step HB3.out (qn := qn) HR3.out _ HO4.out HG4.out HN4.out⟩
    · have HNP := hid hnp; clear hnp
      go_wp2
      go_ret2
      obtain ⟨x, hx⟩ := HNP.out.room HLK.out (by omega) h1 hN
      exact ⟨HB1.out.trans (HNP.out.below.mono hz1), w1.heap.size, x, rfl, hx⟩

end Go.Proofs.YtnkpogjiiohapaaGreatDoor

/-! GLawA: quirekeep: pick, looks, link. -/
namespace Go.Proofs.YtnkpogjiiohapaaGreatDoor
open Go.RowKit
attribute [local go_sem ↓] Go.wp_at_zero Go.wp_at_succ

def pickN (c : Int) (n : Nat) : Nat := ((if c < 0 then -(c + 1) else c) % (n : Int)).toNat
theorem pickN_lt (c : Int) {n : Nat} (h : 0 < n) : pickN c n < n := by
  unfold pickN
  have h1 := Int.emod_nonneg (if c < 0 then -(c + 1) else c) (show (n : Int) ≠ 0 by omega)
  have h2 := Int.emod_lt_of_pos (if c < 0 then -(c + 1) else c) (show (0 : Int) < (n : Int) by omega)
  omega

set_option maxRecDepth 1000000 in
set_option maxHeartbeats 1000000 in
theorem pick_g (c : Int) (hc : intOk c) (n : Nat) (h0 : 0 < n) (h1 : n ≤ 1000000) (w : World) :
    Calls Tryz.prog 20 #[.int .i64 c, .int .i64 n] w fun e w' => e = .returned (.int .i64 (pickN c n)) ∧ Below w.heap.size w w' := by
  unfold intOk at hc
  have hn0 : ¬ ((n : Int) = 0) := by omega
  by_cases hneg : c < 0
  · have hx : IntKind.i64.wrap (c + 1) = c + 1 := Go.IntWalk.i64_in _ (by omega)
    have hy : IntKind.i64.wrap (-(c + 1)) = -(c + 1) := Go.IntWalk.i64_in _ (by omega)
    have ht : (-(c + 1)).tmod (n : Int) = (pickN c n : Int) := by
      unfold pickN
      rw [if_pos hneg, Int.tmod_eq_emod_of_nonneg (by omega)]
      have := Int.emod_nonneg (-(c + 1)) hn0
      omega
    have hz : IntKind.i64.wrap (pickN c n : Int) = (pickN c n : Int) := Go.IntWalk.i64_in _ (by have := pickN_lt c h0; omega)
    go_enter Tryz.func20, Tryz.ntmps20
    go_wp2
    go_ret
    exact ⟨by simp [ht, hz], Below.refl _ _⟩
  · have ht : c.tmod (n : Int) = (pickN c n : Int) := by
      unfold pickN
      rw [if_neg hneg, Int.tmod_eq_emod_of_nonneg (by omega)]
      have := Int.emod_nonneg c hn0
      omega
    have hz : IntKind.i64.wrap (pickN c n : Int) = (pickN c n : Int) := Go.IntWalk.i64_in _ (by have := pickN_lt c h0; omega)
    go_enter Tryz.func20, Tryz.ntmps20
    go_wp2
    go_ret
    exact ⟨by simp [ht, hz], Below.refl _ _⟩

end Go.Proofs.YtnkpogjiiohapaaGreatDoor

/-! GLawB: quirekeep: looks, key, link. -/
namespace Go.Proofs.YtnkpogjiiohapaaGreatDoor
open Go.RowKit
attribute [local go_sem ↓] Go.wp_at_zero Go.wp_at_succ

/-- A table: a room of N copies that all have one list. -/
def isTab (w : World) (tb N r : Nat) (ls : PId) : Prop := w.heap[tb]? = some (.cells #[.int .i64 N, .pointer (some ⟨r, 0, none⟩), .int .i64 ls.1, .int .i64 ls.2] 38 (0, 0))
theorem isTab.cells {w : World} {tb N r : Nat} {ls : PId} (h : isTab w tb N r ls) : w.cell? ⟨tb, 0, none⟩ = some (.int .i64 N) ∧ w.cell? ⟨tb, 1, none⟩ = some (.pointer (some ⟨r, 0, none⟩)) ∧ w.cell? ⟨tb, 2, none⟩ = some (.int .i64 ls.1) ∧ w.cell? ⟨tb, 3, none⟩ = some (.int .i64 ls.2) := by
  unfold isTab at h
  refine ⟨?_, ?_, ?_, ?_⟩ <;> simp [World.cell?, h]
theorem isTab.keep {w w' : World} {tb N r : Nat} {ls : PId} (h : isTab w tb N r ls) (hb : Below w.heap.size w w') : isTab w' tb N r ls := blk_keep h hb
/-- A step, raw. -/
structure Stp where
  k : Int
  c : Int
  d : Int
  a : Int
  n : Int
def Stp.v (s : Stp) : Value := .agg #[.int .i64 s.k, .int .i64 s.c, .int .i64 s.d, .int .i64 s.a, .int .i64 s.n]
def Stp.ok (s : Stp) : Prop := intOk s.k ∧ intOk s.c ∧ intOk s.d ∧ intOk s.a ∧ intOk s.n
def toN (s : Stp) (N : Nat) : Nat := (pickN s.c N + 1 + pickN s.d (N - 1)) % N

theorem stpCells {w : World} {g : Nat} {s : Stp} (h : w.heap[g]? = some (.cells #[.int .i64 s.k, .int .i64 s.c, .int .i64 s.d, .int .i64 s.a, .int .i64 s.n] 32 (0, 0))) : w.cell? ⟨g, 0, none⟩ = some (.int .i64 s.k) ∧ w.cell? ⟨g, 1, none⟩ = some (.int .i64 s.c) ∧ w.cell? ⟨g, 2, none⟩ = some (.int .i64 s.d) ∧ w.cell? ⟨g, 3, none⟩ = some (.int .i64 s.a) ∧ w.cell? ⟨g, 4, none⟩ = some (.int .i64 s.n) := blk5 h

set_option maxRecDepth 1000000 in
set_option maxHeartbeats 4000000 in
theorem link_g {w : World} {tb N r : Nat} {ls : PId} (h : isTab w tb N r ls) (h2 : 2 ≤ N) (h4 : N ≤ 4) (s : Stp) (hs : s.ok) :
    Calls Tryz.prog 18 #[.pointer (some ⟨tb, 0, none⟩), .agg #[.int .i64 s.k, .int .i64 s.c, .int .i64 s.d, .int .i64 s.a, .int .i64 s.n]] w fun e w' => e = .returned (.tuple #[.int .i64 (pickN s.c N), .int .i64 (toN s N)]) ∧ Below w.heap.size w w' := by
  have HB := hid ((Below.refl w.heap.size w).alloc (Nat.le_refl _) (.cells #[.int .i64 s.k, .int .i64 s.c, .int .i64 s.d, .int .i64 s.a, .int .i64 s.n] 32))
  have HX0 := hid (blk_new w (.cells #[.int .i64 s.k, .int .i64 s.c, .int .i64 s.d, .int .i64 s.a, .int .i64 s.n] 32))
  have HT0 := hid (h.keep HB.out)
  have HP1 := hid (fun W => pick_g s.c hs.2.1 N (by omega) (by omega) W)
  have HP2 := hid (fun W => pick_g s.d hs.2.2.1 (N - 1) (by omega) (by omega) W)
  have hc := pickN_lt s.c (show 0 < N by omega)
  have hd := pickN_lt s.d (show 0 < N - 1 by omega)
  obtain ⟨t0, _, _, _⟩ := HT0.out.cells
  obtain ⟨_, x1, x2, _, _⟩ := stpCells HX0.out
  have ht := blk_lt HT0.out
  have hxl := blk_lt HX0.out
  clear h hs
  go_enter Tryz.func18, Tryz.ntmps18
  go_wp2_with fail
  go_region_held3 (fun W => W.cell? ⟨tb, 0, none⟩ = some (.int .i64 N) ∧ W.cell? ⟨w.heap.size, 1, none⟩ = some (.int .i64 s.c) ∧ W.cell? ⟨w.heap.size, 2, none⟩ = some (.int .i64 s.d)) (first | exact ⟨(HT1.out.cells).1, (stpCells HX1.out).2.1, (stpCells HX1.out).2.2.1⟩ | exact ⟨(HT0.out.cells).1, (stpCells HX0.out).2.1, (stpCells HX0.out).2.2.1⟩)
    (first
      | (go_at_call 20; refine (HP1.out _).mono ?_; rintro e w1 ⟨rfl, hb1⟩; have hb1' := Hid.out (below_drew_left hb1); have HT1 := hid (HT0.out.keep hb1'); have HX1 := hid (blk_keep HX0.out hb1'); have HB1 := hid (HB.out.trans (hb1'.mono HB.out.size)); clear hb1 hb1'))
  all_goals (
    have hsub : IntKind.i64.wrap ((N : Int) - 1) = ((N - 1 : Nat) : Int) := by rw [Go.IntWalk.i64_in _ (by omega)]; omega
    have ha1 : IntKind.i64.wrap ((pickN s.c N : Int) + 1) = (pickN s.c N : Int) + 1 := Go.IntWalk.i64_in _ (by omega)
    have ha2 : IntKind.i64.wrap ((pickN s.c N : Int) + 1 + (pickN s.d (N - 1) : Int)) = (pickN s.c N : Int) + 1 + (pickN s.d (N - 1) : Int) := Go.IntWalk.i64_in _ (by omega)
    have hm0 : ((pickN s.c N : Int) + 1 + (pickN s.d (N - 1) : Int)) % (N : Int) = (toN s N : Int) := by unfold toN; rw [Int.natCast_emod]; simp
    have hm : ((pickN s.c N : Int) + 1 + (pickN s.d (N - 1) : Int)).tmod (N : Int) = ((pickN s.c N : Int) + 1 + (pickN s.d (N - 1) : Int)) % (N : Int) := Int.tmod_eq_emod_of_nonneg (by omega)
    have hw : IntKind.i64.wrap (((pickN s.c N : Int) + 1 + (pickN s.d (N - 1) : Int)) % (N : Int)) = ((pickN s.c N : Int) + 1 + (pickN s.d (N - 1) : Int)) % (N : Int) := by
      rw [hm0]
      exact Go.IntWalk.i64_in _ (by have := Nat.mod_lt (pickN s.c N + 1 + pickN s.d (N - 1)) (show 0 < N by omega); unfold toN; omega)
    have hn0 : ¬ (N = 0) := by omega
    have HM0 := hid hm0
    clear hm0
    have HP3 := hid (fun W => (show Calls Tryz.prog 20 #[.int .i64 s.d, .int .i64 ((N - 1 : Nat) : Int)] W _ from HP2.out W))
    go_wp2_with fail
    go_region_held3 (fun W => W.cell? ⟨tb, 0, none⟩ = some (.int .i64 N) ∧ W.cell? ⟨w.heap.size, 1, none⟩ = some (.int .i64 s.c) ∧ W.cell? ⟨w.heap.size, 2, none⟩ = some (.int .i64 s.d)) (first | exact ⟨(HT2.out.cells).1, (stpCells HX2.out).2.1, (stpCells HX2.out).2.2.1⟩ | exact ⟨(HT1.out.cells).1, (stpCells HX1.out).2.1, (stpCells HX1.out).2.2.1⟩)
      (first
        | (go_at_call 20; refine (HP3.out _).mono ?_; rintro e w2 ⟨rfl, hb2⟩; have hb2' := Hid.out (below_drew_left hb2); have HT2 := hid (HT1.out.keep hb2'); have HX2 := hid (blk_keep HX1.out hb2'); have HB2 := hid (HB1.out.trans (hb2'.mono HB1.out.size)); clear hb2 hb2'))
    all_goals go_wp2
    all_goals go_ret2
    all_goals exact ⟨by rw [HM0.out]; rfl, HB2.out⟩)

end Go.Proofs.YtnkpogjiiohapaaGreatDoor

/-! GLawC: quirekeep: sameInts. -/
namespace Go.Proofs.YtnkpogjiiohapaaGreatDoor
open Go.RowKit
attribute [local go_sem ↓] Go.wp_at_zero Go.wp_at_succ

theorem take_ne {l m : List Int} {k : Nat} (hk : k < l.length) (hk' : k < m.length) (h : ¬ l[k] = m[k]) : decide (l = m) = false := by
  apply decide_eq_false
  intro e
  subst e
  exact h rfl
theorem take_all {l m : List Int} (hl : l.length = m.length) (h : l.take l.length = m.take l.length) : decide (l = m) = true := by
  apply decide_eq_true
  rw [List.take_length, hl, List.take_length] at h
  exact h
theorem take_more {l m : List Int} {k : Nat} (hk : k < l.length) (hk' : k < m.length) (h : l.take k = m.take k) (e : l[k] = m[k]) : l.take (k + 1) = m.take (k + 1) := by
  rw [List.take_succ_eq_append_getElem hk, List.take_succ_eq_append_getElem hk', h, e]

set_option maxRecDepth 1000000 in
set_option maxHeartbeats 800000 in
theorem sameInts_g {w : World} {B B' : Nat} {a b : Value} {l m : List Int} (ha : ownInts B w a l) (hb : ownInts B' w b m) (hlm : l.length = m.length) (h0 : 0 < l.length) (h9 : l.length ≤ 1000) :
    Calls Tryz.prog 22 #[a, b] w fun e w' => e = .returned (.bool (decide (l = m))) ∧ Below w.heap.size w w' := by
  obtain ⟨g, ca, rfl, hca, hma, _, hg, hcell⟩ := ha.kn h0 h9
  obtain ⟨g', cb, rfl, hcb, hmb, _, hg', hcell'⟩ := hb.kn (by omega) (by omega)
  unfold maxLen at hma hmb
  have HA := hid hcell; clear hcell
  have HB := hid hcell'; clear hcell'
  clear ha hb
  have hle : (l.length : Int) = (m.length : Int) := by omega
  go_enter Tryz.func22, Tryz.ntmps22
  go_wp2
  go_loopw [5] (fun i wr => ∃ k : Nat, k ≤ l.length ∧ i = .int .i64 k ∧ l.take k = m.take k ∧ Below w.heap.size w wr) (fun i _ => l.length - (intOf i).toNat)
  case atStart => exact ⟨0, Nat.zero_le _, rfl, rfl, Below.refl _ _⟩
  case round =>
    obtain ⟨k, hk, rfl, htk, hbel⟩ := hrel
    have HTK := hid htk; clear htk
    by_cases hlt : k < l.length
    · have hlt' : k < m.length := by omega
      have c0 := keep hbel (HA.out k hlt)
      have d0 := keep hbel (HB.out k hlt')
      have hk0 : (0 : Int) ≤ (k : Int) := Int.natCast_nonneg _
      have hk1 : (k : Int) < (l.length : Int) := by omega
      have hk2 : (k : Int) < (m.length : Int) := by omega
      by_cases he : l[k] = m[k]
      · rw [← he] at d0
        have HE := hid he
        go_wp2
        go_region
        all_goals go_wp2
        all_goals go_roundw
        case rel => exact ⟨k + 1, by omega, by go_num, take_more hlt hlt' HTK.out HE.out, hbel.drew⟩
        case measure => simp [intOf]; omega
      · have HE := hid (take_ne hlt hlt' he)
        go_wp2
        go_region
        all_goals go_wp2
        all_goals go_ret
        all_goals exact ⟨by rw [HE.out]; rfl, hbel.drew⟩
    · have hke : k = l.length := by omega
      subst hke
      go_wp2
      go_ret
      exact ⟨by rw [take_all hlm HTK.out]; rfl, hbel⟩

end Go.Proofs.YtnkpogjiiohapaaGreatDoor

/-! GLawD: quirekeep: alike. -/
namespace Go.Proofs.YtnkpogjiiohapaaGreatDoor
open Go.RowKit
attribute [local go_sem ↓] Go.wp_at_zero Go.wp_at_succ

theorem hasL_same {N : Nat} {f g : Nat → Int} (h : hasL N f = hasL N g) : ∀ i, i < N → f i = g i := by
  intro i hi
  have := congrArg (fun l => l[i]?) h
  simpa [hasL, hi] using this
theorem ownInts.keepI {B : Nat} {w w' : World} {v : Value} {l : List Int} (h : ownInts B w v l) (hb : Below w.heap.size w w') : ownInts B w' v l := owns_keep h hb

section
/-- THE SAME HEARD, THE SAME SHOWN. -/
theorem RoomD.same {w : World} {r : Nat} {F I : Nat → Prop} {N sp : Nat} {M : Nat → List MOp} {s : RoomS} {x : RoomX} (h : RoomD w r F I N sp M s x) {c d : Nat} (hc : c < N) (hd : d < N) (hh : hasL N (s.has c) = hasL N (s.has d)) : ROf (s.ops c) = ROf (s.ops d) := by
  rw [CopyOk.same (h.ok.copy c hc) (h.ok.copy d hd) (h.ok.asc c hc) (h.ok.asc d hd) (hasL_same hh)]

end

end Go.Proofs.YtnkpogjiiohapaaGreatDoor
