/- Our own text (PRepA, PRepB, PRepC, PRepD, PRepE). -/
import Derived.Test.YtnkpogjiiohapaaGreatDoorP05
import Derived.Test.YtnkpogjiiohapaaGreatDoorP07
import Derived.Test.YtnkpogjiiohapaaGreatDoorR05
set_option linter.unusedSimpArgs false
set_option linter.unusedVariables false

/-! PRepA: One copy of the program's room in memory; what it may make; have. -/
namespace Go.Proofs.YtnkpogjiiohapaaGreatDoor
open Go.RowKit
attribute [local go_sem ↓] Go.wp_at_zero Go.wp_at_succ

/-- How many operations of each copy a copy has that has heard of none but its own. -/
def hRow (N c n : Nat) : Array Value := ((List.range N).map fun i => Value.int .i64 ((if i = c then n else 0 : Nat) : Int)).toArray
theorem hRow_get {N c : Nat} (n : Nat) (h : c < N) : (hRow N c n)[c]? = some (.int .i64 (n : Int)) := by
  simp [hRow, h]
theorem hRow_set {N c : Nat} (n m : Nat) : (hRow N c n).setIfInBounds c (.int .i64 (m : Int)) = hRow N c m := by
  apply Array.ext_getElem?
  intro i
  rw [Array.getElem?_setIfInBounds]
  by_cases hic : c = i
  · subst hic
    by_cases hl : c < N
    · simp [hRow, hl]
    · simp [hRow, hl]
  · rw [if_neg hic]
    by_cases hl : i < N
    · simp [hRow, hl, Ne.symm hic]
    · simp [hRow, hl]

theorem put_len {κ ν : Type} [DecidableEq κ] (x : κ) (v : ν) : ∀ m : List (κ × ν), (putI x v m).length ≤ m.length + 1
  | [] => by simp [putI]
  | p :: m => by
    unfold putI
    split
    · simp
    · have := put_len x v m
      simp; omega
/-- One operation adds one key at most. -/
theorem step_keys {D D' : QDoc} {n : Nat} {o : QOp} (h : ∀ p ∈ D.1, p.2.ks.length ≤ n) (hs : StepTo D o D') : ∀ p ∈ D'.1, p.2.ks.length ≤ n + 1 := by
  have h1 : ∀ p ∈ D.1, p.2.ks.length ≤ n + 1 := fun p hp => Nat.le_succ_of_le (h p hp)
  have hset : ∀ {ob x : PId} {key : ByteArray} {v : Option Nat} {vs : List (PId × PVal)}, SetTo D ob key x v vs D' → ∀ p ∈ D'.1, p.2.ks.length ≤ n + 1 := by
    intro ob x key v vs hst p hp
    rcases hst with ⟨_, el, hel, rfl⟩ | ⟨_, oo, g, ks', hob, hpm, rfl⟩
    · exact h1 p hp
    · rcases put_mem hp with hp | rfl
      · exact h1 p hp
      · have h2 := put_len key (⟨v, vs⟩ : CKey) ks'
        have h3 := h _ (look_mem hob)
        have h4 := hpm.length_eq
        show (putI key (⟨v, vs⟩ : CKey) ks').length ≤ n + 1
        simp only at h3
        omega
  obtain ⟨id, nth, chg⟩ := o
  rcases chg with l | ⟨x, b⟩ | ⟨ob, key, x, val, gs⟩ | ⟨ob, key, x, gs⟩
  · simp only [StepTo] at hs
    subst hs
    intro p hp
    rcases put_mem hp with hp | rfl
    · exact h1 p hp
    · exact Nat.zero_le _
  · simp only [StepTo] at hs
    subst hs
    unfold layQ
    split
    · exact h1
    · rename_i ob hob
      split
      · exact h1
      · split
        · intro p hp
          rcases put_mem hp with hp | rfl
          · exact h1 p hp
          · exact (show ob.ks.length ≤ n + 1 from h1 (x, ob) (look_mem hob))
        · split
          · exact h1
          · split
            · exact h1
            · exact h1
  · simp only [StepTo, GiveTo] at hs
    split at hs
    · obtain ⟨v, vs, hp, hst⟩ := hs
      exact hset hst
    · subst hs; exact h1
  · simp only [StepTo, TakeTo] at hs
    split at hs
    · obtain ⟨v, vs, hp, hst⟩ := hs
      exact hset hst
    · subst hs; exact h1

structure RepAt (w : World) (rb : Nat) (F : Nat → Prop) (N sp c : Nat) (S : List POp) (gh hb bE bN : Nat) (vo vr : Value) (ops : List MOp) (rs : List Nat) (d bo be : Nat) (D : QDoc) : Prop where
  blk : w.heap[rb]? = some (.cells #[.int .i64 c, .int .i64 (S.length : Int), .slice (some ⟨gh, 0, none⟩) N N, .pointer (some ⟨hb, 0, none⟩), .map (some bE), .map (some bN)] 109 (0, 0))
  heard : w.heap[gh]? = some (.cells (hRow N c S.length) 3 (0, 0))
  hist : isHist w hb sp vo vr ops rs d bo be (fun k => F k ∧ k ≠ bo ∧ k ≠ be) D
  hc : c < N
  hN : N ≤ 4
  ids : ops.map (fun o => o.op.id) = S.map POp.id
  mine : ∀ p ∈ S, p.id.2 = c
  top : topP S = S.length
  len : S.length ≤ 60
  agree : Agree (S.foldl doesP rootP) D
  ok : RefOk (S.foldl doesP rootP) (topP S) S.length
  sort : Sorted S
  kl : ∀ p ∈ D.1, p.2.ks.length ≤ S.length
  fr : F rb
  fg : F gh
  fh : F hb
  fo : ∀ k, vo.ownBlock = some k → F k
  fv : ∀ k, vr.ownBlock = some k → F k
  fd : F d
  fbo : F bo
  fbe : F be
  lt : ∀ k, F k → k < w.heap.size
def isRep (w : World) (rb : Nat) (F : Nat → Prop) (N sp c : Nat) (S : List POp) : Prop := ∃ gh hb bE bN vo vr ops rs d bo be D, RepAt w rb F N sp c S gh hb bE bN vo vr ops rs d bo be D

section
theorem RepAt.keepF {w w' : World} {rb : Nat} {F : Nat → Prop} {N sp c : Nat} {S : List POp} {gh hb bE bN : Nat} {vo vr : Value} {ops : List MOp} {rs : List Nat} {d bo be : Nat} {D : QDoc} (h : RepAt w rb F N sp c S gh hb bE bN vo vr ops rs d bo be D) (hs : w.heap.size ≤ w'.heap.size) (hk : ∀ k, F k → w'.heap[k]? = w.heap[k]?) : RepAt w' rb F N sp c S gh hb bE bN vo vr ops rs d bo be D := by
  have hv : ∀ v vs, (∀ b, v = some b → F b) → isVals w v vs → isVals w' v vs := fun v vs hf hv => hv.blockK (fun b hb => hk b (hf b hb))
  obtain ⟨es, clk, hmo⟩ := h.hist.q.ho
  obtain ⟨es2, clk2, hme⟩ := h.hist.q.he
  refine ⟨by rw [hk _ h.fr]; exact h.blk, by rw [hk _ h.fg]; exact h.heard, ⟨?_, row_blk h.hist.row (fun g hg => hk g (h.fo g hg)), row_blk h.hist.mem (fun g hg => hk g (h.fv g hg)), h.hist.cnt, h.hist.sp1, h.hist.sp2, h.hist.len, ⟨by rw [hk _ h.fd]; exact h.hist.q.hd, ⟨es, clk, hmo.blockK (hk _ h.fbo)⟩, ⟨es2, clk2, hme.blockK (hk _ h.fbe)⟩,
    fun p hp => (h.hist.q.hk p hp).blockK (fun b hb => hk b (h.hist.own.kv p hp b hb).1) (fun k' hk' b hb => hk b (h.hist.own.kk p hp k' hk' b hb).1), fun p hp => (h.hist.q.hv p hp).blockK (fun b hb => hk b (h.hist.own.vals p hp b hb).1)⟩, h.hist.own, h.hist.nd⟩,
    h.hc, h.hN, h.ids, h.mine, h.top, h.len, h.agree, h.ok, h.sort, h.kl, h.fr, h.fg, h.fh, h.fo, h.fv, h.fd, h.fbo, h.fbe, fun k hk' => Nat.lt_of_lt_of_le (h.lt k hk') hs⟩
  unfold isHb
  rw [hk _ h.fh]; exact h.hist.blk
theorem RepAt.keep {w w' : World} {rb : Nat} {F : Nat → Prop} {N sp c : Nat} {S : List POp} {gh hb bE bN : Nat} {vo vr : Value} {ops : List MOp} {rs : List Nat} {d bo be : Nat} {D : QDoc} (h : RepAt w rb F N sp c S gh hb bE bN vo vr ops rs d bo be D) (hb' : Below w.heap.size w w') : RepAt w' rb F N sp c S gh hb bE bN vo vr ops rs d bo be D := h.keepF hb'.size fun k hk => hb'.block k (h.lt k hk)
theorem RepAt.cells {w : World} {rb : Nat} {F : Nat → Prop} {N sp c : Nat} {S : List POp} {gh hb bE bN : Nat} {vo vr : Value} {ops : List MOp} {rs : List Nat} {d bo be : Nat} {D : QDoc} (h : RepAt w rb F N sp c S gh hb bE bN vo vr ops rs d bo be D) : w.cell? ⟨rb, 0, none⟩ = some (.int .i64 c) ∧ w.cell? ⟨rb, 1, none⟩ = some (.int .i64 (S.length : Int)) ∧ w.cell? ⟨rb, 2, none⟩ = some (.slice (some ⟨gh, 0, none⟩) N N) ∧ w.cell? ⟨rb, 3, none⟩ = some (.pointer (some ⟨hb, 0, none⟩)) ∧ w.cell? ⟨gh, c, none⟩ = some (.int .i64 (S.length : Int)) := by
  have hg : w.cell? ⟨gh, c, none⟩ = some (.int .i64 (S.length : Int)) := by
    have := hRow_get S.length h.hc
    simp [World.cell?, h.heard, this]
  refine ⟨?_, ?_, ?_, ?_, hg⟩ <;> simp [World.cell?, h.blk]
end

set_option maxRecDepth 1000000 in
set_option maxHeartbeats 2000000 in
theorem document_q {w : World} {rb : Nat} {F : Nat → Prop} {N sp c : Nat} {S : List POp} {gh hb bE bN : Nat} {vo vr : Value} {ops : List MOp} {rs : List Nat} {d bo be : Nat} {D : QDoc} (h : RepAt w rb F N sp c S gh hb bE bN vo vr ops rs d bo be D) :
    Calls Tryz.prog 48 #[.pointer (some ⟨rb, 0, none⟩)] w fun e w' => e = .returned (.pointer (some ⟨d, 0, none⟩)) ∧ Below w.heap.size w w' := by
  obtain ⟨c0, c1, c2, c3, c4⟩ := h.cells
  have HD := hid (histDoc_q (sp := sp) (su := 0) (by have := h.hist.blk; unfold isHb at this; exact this))
  clear c0 c1 c2 c4 h
  go_enter Tryz.func48, Tryz.ntmps48
  go_wp2_with fail
  refine HD.out.mono ?_
  rintro e w1 ⟨rfl, hb1⟩
  have HB := hid hb1; clear hb1
  go_wp2
  go_ret
  exact ⟨rfl, HB.out⟩

set_option maxRecDepth 1000000 in
set_option maxHeartbeats 2000000 in
theorem mayMake_q {w : World} {rb : Nat} {F : Nat → Prop} {N sp c : Nat} {S : List POp} {gh hb bE bN : Nat} {vo vr : Value} {ops : List MOp} {rs : List Nat} {d bo be : Nat} {D : QDoc} (h : RepAt w rb F N sp c S gh hb bE bN vo vr ops rs d bo be D) (k : Nat) (hk : k ≤ 10) :
    Calls Tryz.prog 60 #[.pointer (some ⟨rb, 0, none⟩), .int .i64 k] w fun e w' => e = .returned (.bool (decide (S.length + k ≤ 60))) ∧ Below w.heap.size w w' := by
  obtain ⟨c0, c1, c2, c3, c4⟩ := h.cells
  have hc0 : (0 : Int) ≤ (c : Int) := Int.natCast_nonneg _
  have hc1 : (c : Int) < (N : Int) := by have := h.hc; omega
  have hl := h.len
  have hcN := h.hc
  have hdec : decide ((S.length : Int) ≤ 60 - (k : Int)) = decide (S.length + k ≤ 60) := by congr 1; apply propext; omega
  clear c1 c3 h
  go_enter Tryz.func60, Tryz.ntmps60
  go_wp2_with fail
  go_region_held3 (fun W => W.cell? ⟨rb, 0, none⟩ = some (.int .i64 c) ∧ W.cell? ⟨rb, 2, none⟩ = some (.slice (some ⟨gh, 0, none⟩) N N) ∧ W.cell? ⟨gh, c, none⟩ = some (.int .i64 (S.length : Int))) (go_keep) (fail)
  all_goals go_wp2
  all_goals go_ret
  all_goals
    rw [← hdec, Go.IntWalk.i64_in (60 - (k : Int)) (by omega)]
    exact ⟨rfl, (Below.refl _ w).drew⟩

theorem isHist.kept {S : Nat → Prop} {w w' : World} {hb sp : Nat} {vo vr : Value} {ops : List MOp} {rs : List Nat} {d bo be : Nat} {R : Nat → Prop} {D : QDoc} (h : isHist w hb sp vo vr ops rs d bo be R D) (ht : Turned S w w') (hs : ∀ k, S k → ∃ c t f, w.heap[k]? = some (.cells c t f) ∧ t ≠ 174 ∧ t ≠ 101 ∧ t ≠ 210 ∧ t ≠ 204) : isHist w' hb sp vo vr ops rs d bo be R D := by
  refine ⟨h.blk.turned ht fun hS => ?_, own_turned h.row ht fun g c f hg hS => ?_, own_turned h.mem ht fun g c f hg hS => ?_, h.cnt, h.sp1, h.sp2, h.len, h.q.kept ht fun k hk => ?_, h.own, h.nd⟩
  · obtain ⟨c, t, f, hc, _, _, _, h4⟩ := hs _ hS
    exact h4 (cells_type hc h.blk)
  · obtain ⟨c, t, f, hc, _, _, h3, _⟩ := hs _ hS
    exact h3 (cells_type hc hg)
  · obtain ⟨c, t, f, hc, _, h2, _⟩ := hs _ hS
    exact h2 (cells_type hc hg)
  · obtain ⟨c, t, f, hc, h1, _⟩ := hs _ hk
    exact ⟨c, t, f, hc, h1⟩
theorem isHist.mono {w : World} {hb sp : Nat} {vo vr : Value} {ops : List MOp} {rs : List Nat} {d bo be : Nat} {R R' : Nat → Prop} {D : QDoc} (h : isHist w hb sp vo vr ops rs d bo be R D) (hr : ∀ k, R k → R' k) (h1 : ¬ R' bo) (h2 : ¬ R' be) : isHist w hb sp vo vr ops rs d bo be R' D :=
  ⟨h.blk, h.row, h.mem, h.cnt, h.sp1, h.sp2, h.len, h.q, h.own.mono hr h1 h2, h.nd⟩
theorem isVals.lt' {w : World} {b : Nat} {vs : List (PId × PVal)} (h : isVals w (some b) vs) : b < w.heap.size := by
  rcases h with ⟨h, _⟩ | ⟨b', es, clk, e, hm⟩
  · cases h
  · cases e; exact hm.lt
/-- All that it leads to is there. -/
theorem QOwn.there {w : World} {d bo be : Nat} {R : Nat → Prop} {os : List (PId × CQObj)} {els : List (PId × CQEl)} (h : QOwn bo be R os els) (hq : isQ w d bo be os els) : QOwn bo be (fun k => R k ∧ k < w.heap.size) os els := by
  refine ⟨h.ne, fun hb => h.ro hb.1, fun hb => h.re hb.1, fun p hp b hb => ⟨h.kv p hp b hb, ?_⟩, fun p hp k hk b hb => ⟨h.kk p hp k hk b hb, ?_⟩, fun p hp b hb => ⟨h.vals p hp b hb, ?_⟩⟩
  · exact isKeys.lt (hq.hk p hp) b hb
  · have := (hq.hk p hp).2 k hk
    rw [hb] at this
    exact this.lt'
  · have := hq.hv p hp
    rw [hb] at this
    exact this.lt'
theorem cmp_less {a b : PId} (h : a.1 < b.1) : cmpI a b < 0 := by
  unfold cmpI cmpZ orZ
  simp [h]
theorem setRow {w : World} {g i : Nat} {cs : Array Value} {t : TypeId} {u : Value} (h : w.heap[g]? = some (.cells cs t (0, 0))) : (w.setCell ⟨g, i, none⟩ u).heap[g]? = some (.cells (cs.setIfInBounds i u) t (0, 0)) := by
  have hl := blk_lt h
  obtain ⟨_, he⟩ := Array.getElem?_eq_some_iff.1 h
  simp [World.setCell, hl, Array.getElem_modify_self, he]

theorem set6_1 {w : World} {g : Nat} {a b c d e f u : Value} {t : TypeId} (h : w.heap[g]? = some (.cells #[a, b, c, d, e, f] t (0, 0))) : (w.setCell ⟨g, 1, none⟩ u).heap[g]? = some (.cells #[a, u, c, d, e, f] t (0, 0)) := by
  have hl := blk_lt h
  obtain ⟨_, he⟩ := Array.getElem?_eq_some_iff.1 h
  simp [World.setCell, hl, Array.getElem_modify_self, he]

set_option maxRecDepth 1000000 in
set_option maxHeartbeats 4000000 in
/-- ONE OPERATION MORE, the next one of its own. -/
theorem have_q {w : World} {rb : Nat} {F : Nat → Prop} {N sp c : Nat} {S : List POp} {gh hb bE bN : Nat} {vo vr : Value} {ops : List MOp} {rs : List Nat} {d bo be : Nat} {D : QDoc} (h : RepAt w rb F N sp c S gh hb bE bN vo vr ops rs d bo be D) (hl : S.length < 60)
    (p : POp) (x : MOp) (hxo : x.op = qopOf p (S.length + 1)) (hid : p.id = ((S.length : Int) + 1, (c : Int))) (hnx : Next (S.foldl doesP rootP) (topP S) p) (g : Nat) (hgb : w.heap[g]? = some (.cells #[.int .i64 ((S.length : Int) + 1), .int .i64 c, .int .i64 ((S.length : Int) + 1), .iface x.t x.v] 210 (0, 0))) (hx : isChg w (.iface x.t x.v) x.op.chg) :
    Calls Tryz.prog 142 #[.pointer (some ⟨rb, 0, none⟩), .slice (some ⟨g, 0, none⟩) 1 1] w fun e w' => (∃ r, e = .returned r) ∧ ∃ F', isRep w' rb F' N sp c (S ++ [p]) ∧ Keeps F F' w w' := by
  obtain ⟨c0, c1, c2, c3, c4⟩ := h.cells
  have hc0 : (0 : Int) ≤ (c : Int) := Int.natCast_nonneg _
  have hc1 : (c : Int) < (N : Int) := by have := h.hc; omega
  have hcN := h.hc
  have hrl := h.lt _ h.fr
  have hgl := h.lt _ h.fg
  obtain ⟨h0, h1, h2, h3⟩ := blk4 hgb
  have hgg := blk_lt hgb
  have HGB := Go.Proofs.YtnkpogjiiohapaaGreatDoor.hid hgb; clear hgb
  have hfz := blk_fz h.blk 1
  have hfz2 := blk_fz h.heard c
  have hrg : rb ≠ gh := fun e => by
    have h1 := h.blk
    rw [e] at h1
    exact absurd (cells_type h1 h.heard) (by decide)
  have HH := Go.Proofs.YtnkpogjiiohapaaGreatDoor.hid h; clear h
  have HC := Go.Proofs.YtnkpogjiiohapaaGreatDoor.hid hx; clear hx
  have HP := Go.Proofs.YtnkpogjiiohapaaGreatDoor.hid (And.intro hxo (And.intro hid hnx)); clear hxo hid hnx
  clear c0
  go_enter Tryz.func142, Tryz.ntmps142
  go_wp2_with fail
  refine wp_loop_rounds 2 ?_
  rw [rounds_succ]
  go_wp2_with fail
  go_region
  go_wp2_with fail
  generalize hW1 : w.setCell ⟨rb, 1, none⟩ (.int .i64 ((S.length : Int) + 1)) = w1
  have hsz : w1.heap.size = w.heap.size := by rw [← hW1]; simp [World.setCell]
  have HT1 := Go.Proofs.YtnkpogjiiohapaaGreatDoor.hid (show Turned (fun k => k = rb) w w1 by rw [← hW1]; exact Turned.setC _ rfl)
  have HX1 := Go.Proofs.YtnkpogjiiohapaaGreatDoor.hid (hW1 ▸ set6_1 (u := .int .i64 ((S.length : Int) + 1)) HH.out.blk)
  clear hW1
  have d2 : w1.cell? ⟨rb, 2, none⟩ = some (.slice (some ⟨gh, 0, none⟩) N N) := by simp [World.cell?, HX1.out]
  have d3 : w1.cell? ⟨rb, 3, none⟩ = some (.pointer (some ⟨hb, 0, none⟩)) := by simp [World.cell?, HX1.out]
  have HG1 := Go.Proofs.YtnkpogjiiohapaaGreatDoor.hid ((HT1.out.other gh hgl (Ne.symm hrg)).trans HH.out.heard)
  have d4 : w1.cell? ⟨gh, c, none⟩ = some (.int .i64 (S.length : Int)) := HT1.out.cell (Ne.symm hrg) c4
  have hfz3 := blk_fz HG1.out c
  clear c1 c2 c3 c4 hfz hfz2
  have n1 : (w1.alloc (.cells #[.int .i64 ((S.length : Int) + 1), .int .i64 c, .int .i64 ((S.length : Int) + 1), .iface x.t x.v] 210)).cell? ⟨w.heap.size, 1, none⟩ = some (.int .i64 c) := by rw [← hsz]; exact (boxed4 w1 _ _ _ _ _).2.1
  have n2 : (w1.alloc (.cells #[.int .i64 ((S.length : Int) + 1), .int .i64 c, .int .i64 ((S.length : Int) + 1), .iface x.t x.v] 210)).cell? ⟨w.heap.size, 2, none⟩ = some (.int .i64 ((S.length : Int) + 1)) := by rw [← hsz]; exact (boxed4 w1 _ _ _ _ _).2.2.1
  obtain ⟨w2, hW2⟩ : ∃ w2, w1.setCell ⟨gh, c, none⟩ (.int .i64 ((S.length : Int) + 1)) = w2 := ⟨_, rfl⟩
  have hsz2 : w2.heap.size = w.heap.size := by rw [← hW2, ← hsz]; simp [World.setCell]
  have HT2 := Go.Proofs.YtnkpogjiiohapaaGreatDoor.hid (show Turned (fun k => k = gh) w1 w2 by rw [← hW2]; exact Turned.setC _ rfl)
  have e2 : w2.cell? ⟨rb, 2, none⟩ = some (.slice (some ⟨gh, 0, none⟩) N N) := HT2.out.cell hrg d2
  have e3 : w2.cell? ⟨rb, 3, none⟩ = some (.pointer (some ⟨hb, 0, none⟩)) := HT2.out.cell hrg d3
  have q1 : (w2.alloc (.cells #[.int .i64 ((S.length : Int) + 1), .int .i64 c, .int .i64 ((S.length : Int) + 1), .iface x.t x.v] 210)).cell? ⟨w.heap.size, 1, none⟩ = some (.int .i64 c) := by rw [← hsz2]; exact (boxed4 w2 _ _ _ _ _).2.1
  have q2 : (w2.alloc (.cells #[.int .i64 ((S.length : Int) + 1), .int .i64 c, .int .i64 ((S.length : Int) + 1), .iface x.t x.v] 210)).cell? ⟨w.heap.size, 2, none⟩ = some (.int .i64 ((S.length : Int) + 1)) := by rw [← hsz2]; exact (boxed4 w2 _ _ _ _ _).2.2.1
  have hwn : w.heap.size ≠ rb := by omega
  have hwg : w.heap.size ≠ gh := by omega
  go_region_held3 (fun W => W.cell? ⟨rb, 2, none⟩ = some (.slice (some ⟨gh, 0, none⟩) N N) ∧ W.cell? ⟨w.heap.size, 1, none⟩ = some (.int .i64 c) ∧ W.cell? ⟨w.heap.size, 2, none⟩ = some (.int .i64 ((S.length : Int) + 1))) (go_keep) (fail)
  go_wp2_with fail
  rw [rounds_succ]
  go_wp2_with fail
  have HG2 := Go.Proofs.YtnkpogjiiohapaaGreatDoor.hid (show w2.heap[gh]? = some (.cells (hRow N c (S.length + 1)) 3 (0, 0)) by have hrs := hRow_set (N := N) (c := c) S.length (S.length + 1); rw [Int.natCast_succ] at hrs; rw [← hW2, setRow HG1.out]; exact congrArg (fun z => some (Obj.cells z 3 (0, 0))) hrs)
  have HX2 := Go.Proofs.YtnkpogjiiohapaaGreatDoor.hid ((HT2.out.other rb (by omega) hrg).trans HX1.out)
  clear hW2
  have HBA := Go.Proofs.YtnkpogjiiohapaaGreatDoor.hid (show Below w2.heap.size w2 (w2.alloc (.cells #[.int .i64 ((S.length : Int) + 1), .int .i64 c, .int .i64 ((S.length : Int) + 1), .iface x.t x.v] 210)).drew.drew from ((Below.refl _ w2).alloc (Nat.le_refl _) _).drew.drew)
  have HT3 := Go.Proofs.YtnkpogjiiohapaaGreatDoor.hid (((HT1.out.mono (S' := fun k => k = rb ∨ k = gh) fun k hk => .inl hk).trans (HT2.out.mono fun k hk => .inr hk)).trans (Turned.of_below HBA.out))
  have HS3 := Go.Proofs.YtnkpogjiiohapaaGreatDoor.hid (show ∀ k, (k = rb ∨ k = gh) → ∃ c t f, w.heap[k]? = some (.cells c t f) ∧ t ≠ 174 ∧ t ≠ 101 ∧ t ≠ 210 ∧ t ≠ 204 from fun k hk => by
    rcases hk with rfl | rfl
    · exact ⟨_, _, _, HH.out.blk, by decide, by decide, by decide, by decide⟩
    · exact ⟨_, _, _, HH.out.heard, by decide, by decide, by decide, by decide⟩)
  have hbol := HH.out.lt _ HH.out.fbo
  have hbel := HH.out.lt _ HH.out.fbe
  have HHI := Go.Proofs.YtnkpogjiiohapaaGreatDoor.hid ((HH.out.hist.kept HT3.out HS3.out).mono (R' := fun k => (F k ∨ w.heap.size ≤ k) ∧ k ≠ bo ∧ k ≠ be) (fun k hk => ⟨.inl hk.1, hk.2⟩) (fun hk => hk.2.1 rfl) (fun hk => hk.2.2 rfl))
  obtain ⟨hxo, hpid, hnx⟩ := HP.out
  have hol : ops.length = S.length := by have := congrArg List.length HH.out.ids; simpa using this
  have HLT := Go.Proofs.YtnkpogjiiohapaaGreatDoor.hid (show ∀ o ∈ ops, cmpI o.op.id x.op.id < 0 from fun o ho => by
    apply cmp_less
    have hm : o.op.id ∈ S.map POp.id := by rw [← HH.out.ids]; exact List.mem_map.2 ⟨o, ho, rfl⟩
    obtain ⟨q, hq, he⟩ := List.mem_map.1 hm
    rw [← he, hxo]
    show q.id.1 < p.id.1
    have := (topP_spec S).2.1 q hq
    rw [HH.out.top] at this
    rw [hpid]
    show q.id.1 < (S.length : Int) + 1
    omega)
  have HCG := Go.Proofs.YtnkpogjiiohapaaGreatDoor.hid (HC.out.kept HT3.out (fun k hk => by
    rcases hk with rfl | rfl
    · exact ⟨_, _, _, HH.out.blk, by decide⟩
    · exact ⟨_, _, _, HH.out.heard, by decide⟩))
  have hgb3 := (HT3.out.other g hgg (fun hk => by
    rcases hk with rfl | rfl
    · exact absurd (cells_type HGB.out HH.out.blk) (by decide)
    · exact absurd (cells_type HGB.out HH.out.heard) (by decide))).trans HGB.out
  obtain ⟨k0, k1, k2, k3⟩ := blk4 hgb3
  clear hgb3
  have hx1 : x.op.id.1 = (S.length : Int) + 1 := by rw [hxo]; show p.id.1 = _; rw [hpid]
  have hx2 : x.op.id.2 = (c : Int) := by rw [hxo]; show p.id.2 = _; rw [hpid]
  have hx3 : x.op.nth = (S.length : Int) + 1 := by rw [hxo]; rfl
  have HADD := Go.Proofs.YtnkpogjiiohapaaGreatDoor.hid (histAdd_q HHI.out (by omega) (fun k hk => ⟨.inr (Nat.le_trans (by have := HT3.out.size; exact this) hk), by have := HT3.out.size; omega, by have := HT3.out.size; omega⟩) x HLT.out g (by rw [hx1]; exact k0) (by rw [hx2]; exact k1) (by rw [hx3]; exact k2) k3 HCG.out)
  clear k0 k1 k2 k3
  refine HADD.out.mono ?_
  rintro e w4 ⟨⟨r, rfl⟩, vo', vr', rs', D', hh4, hst, hn1, hn2, ht4⟩
  have HX4 := Go.Proofs.YtnkpogjiiohapaaGreatDoor.hid (And.intro hh4 (And.intro hst (And.intro hn1 (And.intro hn2 ht4))))
  clear hh4 hst hn1 hn2 ht4
  go_wp2
  go_end0
  obtain ⟨hh4, hst, hn1, hn2, ht4⟩ := HX4.out
  have hz4 : w.heap.size ≤ w4.heap.size := Nat.le_trans HT3.out.size ht4.size
  have hnS : ∀ k c t f, w.heap[k]? = some (.cells c t f) → t ≠ 204 → t ≠ 210 → t ≠ 101 → ¬ (k = hb ∨ vo.ownBlock = some k ∨ vr.ownBlock = some k ∨ k = bo ∨ k = be) := fun k c t f hk h1 h2 h3 hS => by
    rcases hS with rfl | hS | hS | rfl | rfl
    · exact h1 (cells_type hk HH.out.hist.blk)
    · obtain ⟨cur, hc⟩ := own_type HH.out.hist.row hS
      exact h2 (cells_type hk hc)
    · obtain ⟨cur, hc⟩ := own_type HH.out.hist.mem hS
      exact h3 (cells_type hk hc)
    · obtain ⟨es, clk, hm⟩ := HH.out.hist.q.ho
      rw [hm.blk] at hk; cases hk
    · obtain ⟨es, clk, hm⟩ := HH.out.hist.q.he
      rw [hm.blk] at hk; cases hk
  have hX4 := (ht4.other rb (by have := HT3.out.size; omega) (hnS rb _ _ _ HH.out.blk (by decide) (by decide) (by decide))).trans (blk_keep HX2.out HBA.out)
  have hG4 := (ht4.other gh (by have := HT3.out.size; omega) (hnS gh _ _ _ HH.out.heard (by decide) (by decide) (by decide))).trans (blk_keep HG2.out HBA.out)
  have htop : topP (S ++ [p]) = (S.length : Int) + 1 := by
    rw [topP_snoc S p (by rw [hpid, HH.out.top]), HH.out.top]
  have hown := hh4.own.there hh4.q
  have hfold : (S ++ [p]).foldl doesP rootP = doesP (S.foldl doesP rootP) p := by rw [List.foldl_append]; rfl
  have hnew : ∀ (u u' : Value), newOr (w2.alloc (.cells #[.int .i64 ((S.length : Int) + 1), .int .i64 c, .int .i64 ((S.length : Int) + 1), .iface x.t x.v] 210)).drew.drew u u' → (∀ k, u.ownBlock = some k → F k) → (∀ k, u'.ownBlock = some k → k < w4.heap.size) → ∀ k, u'.ownBlock = some k → F k ∨ (w.heap.size ≤ k ∧ k < w4.heap.size) := fun u u' hn hu hl k hk => by
    rcases hn with hn | hn
    · rw [hn] at hk; exact .inl (hu k hk)
    · exact .inr ⟨Nat.le_trans HT3.out.size (hn k hk), hl k hk⟩
  refine ⟨⟨_, rfl⟩, fun k => F k ∨ (w.heap.size ≤ k ∧ k < w4.heap.size), ⟨gh, hb, bE, bN, vo', vr', ops ++ [x], rs', d, bo, be, D', ?_, ?_, ?_, HH.out.hc, HH.out.hN, ?_, ?_, ?_, ?_, ?_, ?_, ?_, by rw [List.length_append]; exact step_keys HH.out.kl hst, .inl HH.out.fr, .inl HH.out.fg, .inl HH.out.fh, ?_, ?_, .inl HH.out.fd, .inl HH.out.fbo, .inl HH.out.fbe, ?_⟩, ?_⟩
  · rw [List.length_append]; exact hX4
  · rw [List.length_append]; exact hG4
  · refine ⟨hh4.blk, hh4.row, hh4.mem, hh4.cnt, hh4.sp1, hh4.sp2, hh4.len, hh4.q, hown.mono (fun k hk => ⟨hk.1.1.elim .inl fun h => .inr ⟨h, hk.2⟩, hk.1.2⟩) (fun hk => hk.2.1 rfl) (fun hk => hk.2.2 rfl), hh4.nd⟩
  · rw [List.map_append, List.map_append, HH.out.ids]
    show _ ++ [x.op.id] = _ ++ [p.id]
    rw [hxo]; rfl
  · intro q hq
    rcases List.mem_append.1 hq with hq | hq
    · exact HH.out.mine q hq
    · simp at hq; subst hq; rw [hpid]
  · rw [htop, List.length_append]; rfl
  · rw [List.length_append]; simp; omega
  · rw [hfold]
    exact HH.out.agree.step HH.out.hist.nd (n := (S.length : Int) + 1) (HH.out.ok.fit hnx) (by rw [← hxo]; exact hst)
  · rw [hfold, List.length_append, htop]
    have := HH.out.ok.step hnx
    rw [hpid] at this
    exact this
  · refine List.pairwise_append.2 ⟨HH.out.sort, List.pairwise_singleton _ _, fun a ha b hb => ?_⟩
    simp at hb
    subst hb
    have := (topP_spec S).2.1 a ha
    rw [HH.out.top] at this
    rw [hpid]
    exact decide_eq_true (.inl (by show a.id.1 < (S.length : Int) + 1; omega))
  · exact hnew vo vo' hn1 HH.out.fo (fun k hk => (World.ownsRow.lt hh4.row k hk).2)
  · exact hnew vr vr' hn2 HH.out.fv (fun k hk => (World.ownsRow.lt hh4.mem k hk).2)
  · intro k hk
    rcases hk with hk | hk
    · exact Nat.lt_of_lt_of_le (HH.out.lt k hk) hz4
    · exact hk.2
  · refine ⟨ht4.os.trans HT3.out.os, ht4.tape.trans HT3.out.tape, ht4.output.trans HT3.out.output, hz4, fun k hk hF => ?_, fun k hk => hk.imp id (·.1)⟩
    rw [ht4.other k (Nat.lt_of_lt_of_le hk HT3.out.size) (fun hS => hF ?_), HT3.out.other k hk (fun hS => hF ?_)]
    · rcases hS with rfl | rfl
      · exact HH.out.fr
      · exact HH.out.fg
    · rcases hS with rfl | hS | hS | rfl | rfl
      · exact HH.out.fh
      · exact HH.out.fo k hS
      · exact HH.out.fv k hS
      · exact HH.out.fbo
      · exact HH.out.fbe

end Go.Proofs.YtnkpogjiiohapaaGreatDoor

/-! PRepB: One copy of the program's room: write. -/
namespace Go.Proofs.YtnkpogjiiohapaaGreatDoor
open Go.RowKit
attribute [local go_sem ↓] Go.wp_at_zero Go.wp_at_succ

theorem Keeps.before {F F' : Nat → Prop} {w W w' : World} (hb : Below w.heap.size w W) (h : Keeps F F' W w') : Keeps F F' w w' :=
  ⟨h.os.trans hb.os, h.tape.trans hb.tape, h.output.trans hb.output, Nat.le_trans hb.size h.size, fun k hk hF => (h.other k (Nat.lt_of_lt_of_le hk hb.size) hF).trans (hb.block k hk), fun k hk => (h.sub k hk).imp id fun h' => Nat.le_trans hb.size h'⟩
theorem Keeps.after {F F' : Nat → Prop} {w w' w'' : World} (h : Keeps F F' w w') (hb : Below w'.heap.size w' w'') : Keeps F F' w w'' :=
  ⟨hb.os.trans h.os, hb.tape.trans h.tape, hb.output.trans h.output, Nat.le_trans h.size hb.size, fun k hk hF => (hb.block k (Nat.lt_of_lt_of_le hk h.size)).trans (h.other k hk hF), h.sub⟩
theorem Keeps.setNew {F F' : Nat → Prop} {w w' : World} (h : Keeps F F' w w') {g o : Nat} (hg : w.heap.size ≤ g) (u : Value) : Keeps F F' w (w'.setCell ⟨g, o, none⟩ u) :=
  ⟨h.os, h.tape, h.output, by simpa [World.setCell] using h.size, fun k hk hF => (setCell_other (by omega)).trans (h.other k hk hF), h.sub⟩
theorem Keeps.trans {F F1 F2 : Nat → Prop} {w w1 w2 : World} (h : Keeps F F1 w w1) (k : Keeps F1 F2 w1 w2) : Keeps F F2 w w2 :=
  ⟨k.os.trans h.os, k.tape.trans h.tape, k.output.trans h.output, Nat.le_trans h.size k.size, fun i hi hF => (k.other i (Nat.lt_of_lt_of_le hi h.size) fun h1 => (h.sub i h1).elim hF fun h2 => by omega).trans (h.other i hi hF),
    fun i hi => (k.sub i hi).elim (fun h1 => h.sub i h1) fun h1 => .inr (Nat.le_trans h.size h1)⟩
section
theorem isRep.keepF {w w' : World} {rb : Nat} {F : Nat → Prop} {N sp c : Nat} {S : List POp} (h : isRep w rb F N sp c S) (hs : w.heap.size ≤ w'.heap.size) (hk : ∀ k, F k → w'.heap[k]? = w.heap[k]?) : isRep w' rb F N sp c S := by
  obtain ⟨gh, hb, bE, bN, vo, vr, ops, rs, d, bo, be, D, h⟩ := h
  exact ⟨gh, hb, bE, bN, vo, vr, ops, rs, d, bo, be, D, h.keepF hs hk⟩
theorem isRep.keep {w w' : World} {rb : Nat} {F : Nat → Prop} {N sp c : Nat} {S : List POp} (h : isRep w rb F N sp c S) (hb : Below w.heap.size w w') : isRep w' rb F N sp c S := by
  obtain ⟨gh, hb', bE, bN, vo, vr, ops, rs, d, bo, be, D, h⟩ := h
  exact ⟨gh, hb', bE, bN, vo, vr, ops, rs, d, bo, be, D, h.keep hb⟩
theorem isRep.lt {w : World} {rb : Nat} {F : Nat → Prop} {N sp c : Nat} {S : List POp} (h : isRep w rb F N sp c S) : ∀ k, F k → k < w.heap.size := by
  obtain ⟨gh, hb, bE, bN, vo, vr, ops, rs, d, bo, be, D, h⟩ := h
  exact h.lt
theorem isRep.set {w : World} {rb : Nat} {F : Nat → Prop} {N sp c : Nat} {S : List POp} (h : isRep w rb F N sp c S) {g o : Nat} (u : Value) (hg : ¬ F g) : isRep (w.setCell ⟨g, o, none⟩ u) rb F N sp c S :=
  h.keepF (by simp [World.setCell]) fun k hk => setCell_other (fun e => hg (e ▸ hk))
end
/-- What one operation more leaves of a copy. -/
def WroteRep (F : Nat → Prop) (N sp c rb : Nat) (S : List POp) (w w' : World) (ps : List POp) : Prop := ∃ F', isRep w' rb F' N sp c (S ++ ps) ∧ Keeps F F' w w'

set_option maxRecDepth 1000000 in
set_option maxHeartbeats 4000000 in
theorem write_q {w : World} {rb : Nat} {F : Nat → Prop} {N sp c : Nat} {S : List POp} (h : isRep w rb F N sp c S) (hl : S.length < 60)
    (p : POp) (hpid : p.id = ((S.length : Int) + 1, (c : Int))) (hnx : Next (S.foldl doesP rootP) (topP S) p) (t : TypeId) (v : Value) (hx : isChg w (.iface t v) (chgOf p)) :
    Calls Tryz.prog 91 #[.pointer (some ⟨rb, 0, none⟩), .iface t v] w fun e w' => e = .returned (.agg #[.int .i64 ((S.length : Int) + 1), .int .i64 c]) ∧ WroteRep F N sp c rb S w w' [p] := by
  obtain ⟨gh, hb, bE, bN, vo, vr, ops, rs, d, bo, be, D, h⟩ := h
  obtain ⟨c0, c1, c2, c3, c4⟩ := h.cells
  have hc0 : (0 : Int) ≤ (c : Int) := Int.natCast_nonneg _
  have hc1 : (c : Int) < (N : Int) := by have := h.hc; omega
  have hcN := h.hc
  have hrl := h.lt _ h.fr
  have hgl := h.lt _ h.fg
  have hrg : rb ≠ gh := fun e => by
    have h1 := h.blk
    rw [e] at h1
    exact absurd (cells_type h1 h.heard) (by decide)
  have HH := hid h; clear h
  have HC := hid hx; clear hx
  have HP := hid (And.intro hpid hnx); clear hpid hnx
  clear c3
  have hn0 := World.new_ne w ⟨rb, 0, none⟩ c0
  have hn1 := World.new_ne w ⟨gh, c, none⟩ c4
  have hn2 : w.heap.size + 1 ≠ rb := by omega
  have hn3 : w.heap.size + 1 ≠ gh := by omega
  have hn4 : w.heap.size + 2 ≠ rb := by omega
  have hn5 : w.heap.size + 2 ≠ gh := by omega
  have hsl := HH.out.len
  have hwr : IntKind.i64.wrap ((S.length : Int) + 1) = (S.length : Int) + 1 := Go.IntWalk.i64_in _ (by omega)
  have HB2 := hid (((Below.refl w.heap.size w).alloc (Nat.le_refl _) (.cells #[.int .i64 0, .int .i64 0] 36)).alloc (by simp) (.cells #[.int .i64 ((S.length : Int) + 1), .int .i64 c] 36))
  have HB3 := hid (HB2.out.alloc (by simp; omega) (.cells #[.int .i64 ((S.length : Int) + 1), .int .i64 c, .int .i64 ((S.length : Int) + 1), .iface t v] 210)).drew.drew
  have HHV := hid (have_q (HH.out.keep HB3.out) hl p ⟨qopOf p ((S.length : Int) + 1), t, v⟩ rfl HP.out.1 HP.out.2 (w.heap.size + 2) (by
      have := blk_new ((w.alloc (.cells #[.int .i64 0, .int .i64 0] 36)).alloc (.cells #[.int .i64 ((S.length : Int) + 1), .int .i64 c] 36)) (.cells #[.int .i64 ((S.length : Int) + 1), .int .i64 c, .int .i64 ((S.length : Int) + 1), .iface t v] 210)
      rw [show ((w.alloc (.cells #[.int .i64 0, .int .i64 0] 36)).alloc (.cells #[.int .i64 ((S.length : Int) + 1), .int .i64 c] 36)).heap.size = w.heap.size + 2 by simp] at this
      exact this) (HC.out.keep HB3.out))
  go_enter Tryz.func91, Tryz.ntmps91
  go_wp2_with fail
  go_region_held3 (fun W => W.cell? ⟨rb, 0, none⟩ = some (.int .i64 c) ∧ W.cell? ⟨rb, 1, none⟩ = some (.int .i64 (S.length : Int))) (go_keep) (fail)
  go_wp2_with fail
  replace c0 := keep HB2.out c0
  replace c2 := keep HB2.out c2
  replace c4 := keep HB2.out c4
  clear hn0 hn1 hn2 hn3 hn4 hn5
  have HR1 := hid (show (((w.alloc (.cells #[.int .i64 0, .int .i64 0] 36)).alloc (.cells #[.int .i64 ((S.length : Int) + 1), .int .i64 c] 36)).alloc (.cells #[.int .i64 ((S.length : Int) + 1), .int .i64 c, .int .i64 ((S.length : Int) + 1), .iface t v] 210)).drew.drew.heap[w.heap.size]? = some (.cells #[.int .i64 0, .int .i64 0] 36 (0, 0)) from (alloc_old_r _ _ (by simp; omega)).trans ((alloc_old_r _ _ (by simp)).trans (blk_new w _)))
  have HR2 := hid (show (((w.alloc (.cells #[.int .i64 0, .int .i64 0] 36)).alloc (.cells #[.int .i64 ((S.length : Int) + 1), .int .i64 c] 36)).alloc (.cells #[.int .i64 ((S.length : Int) + 1), .int .i64 c, .int .i64 ((S.length : Int) + 1), .iface t v] 210)).drew.drew.heap[w.heap.size + 1]? = some (.cells #[.int .i64 ((S.length : Int) + 1), .int .i64 c] 36 (0, 0)) from (alloc_old_r _ _ (by simp)).trans (by
    have := blk_new (w.alloc (.cells #[.int .i64 0, .int .i64 0] 36)) (.cells #[.int .i64 ((S.length : Int) + 1), .int .i64 c] 36)
    rw [show (w.alloc (.cells #[.int .i64 0, .int .i64 0] 36)).heap.size = w.heap.size + 1 by simp] at this
    exact this))
  go_region_with (first | (go_at_call 142; refine HHV.out.mono ?_; rintro e w4 ⟨⟨r, rfl⟩, F', hr4, hk4⟩; have HR4 := hid hr4; have HK4 := hid hk4; clear hr4 hk4))
  all_goals (
    have hnF : ∀ k, w.heap.size ≤ k → ¬ F k := fun k hk hF => by have := HH.out.lt k hF; omega
    have hb1 : w4.heap[w.heap.size]? = some (.cells #[.int .i64 0, .int .i64 0] 36 (0, 0)) := (HK4.out.other _ (by simp; omega) (hnF _ (Nat.le_refl _))).trans HR1.out
    have hb2 : w4.heap[w.heap.size + 1]? = some (.cells #[.int .i64 ((S.length : Int) + 1), .int .i64 c] 36 (0, 0)) := (HK4.out.other _ (by simp) (hnF _ (by omega))).trans HR2.out
    obtain ⟨r0, r1⟩ := blk2 hb1
    obtain ⟨j0, j1⟩ := blk2 hb2
    have rf := blk_fz hb1
    have rl := blk_lt hb1
    clear hb1 hb2 hnF c0 c2 c4)
  all_goals go_wp2
  all_goals refine bodyPost_ret (v := .agg #[.int .i64 ((S.length : Int) + 1), .int .i64 c]) (by simp [results, Tryz.results91, go_sem, r0, r1]) rfl ?_
  all_goals (
    have hnF' : ¬ F' w.heap.size := fun hF => by
      rcases HK4.out.sub _ hF with h | h
      · have := HH.out.lt _ h; omega
      · simp at h; omega
    exact ⟨rfl, F', (HR4.out.set _ hnF').set _ hnF', ((HK4.out.before HB3.out).setNew (Nat.le_refl _) _).setNew (Nat.le_refl _) _⟩)

end Go.Proofs.YtnkpogjiiohapaaGreatDoor

/-! PRepC: One copy of the program's room: makeObject, give, setNumber, cut. -/
namespace Go.Proofs.YtnkpogjiiohapaaGreatDoor
open Go.RowKit
attribute [local go_sem ↓] Go.wp_at_zero Go.wp_at_succ

theorem perm_one {α : Type} {l m : List α} (h : l.Perm m) (hl : m.length ≤ 1) : l = m := by
  cases m with
  | nil => exact h.eq_nil
  | cons b m =>
    have : m = [] := by simpa using hl
    subst this
    exact List.perm_singleton.1 h
theorem helds_one {R : List PObj} {t : Int} {n : Nat} (h : RefOk R t n) {x : PId} {o : PObj} (ho : objOf R x = some o) (key : ByteArray) (y : PId) : (heldsAt o key y).length ≤ 1 := by
  unfold heldsAt
  cases hf : o.ss.find? (pslotIs key y) with
  | none => simp
  | some s => exact h.one o (objOf_mem ho) s (List.mem_of_find?_eq_some hf)
/-- What is to be taken away. -/
theorem next_old {R : List PObj} {D : QDoc} {t : Int} {n : Nat} {p : POp} (ha : Agree R D) (hok : RefOk R t n) (hn : Next R t p) (hk : p.kind = 3 ∨ p.kind = 4) :
    (atPl D.1 D.2 p.object p.key p.element).vs.length ≤ 1 ∧ (atPl D.1 D.2 p.object p.key p.element).vs.map (·.1) = p.old := by
  obtain ⟨o, ho, hc, hold⟩ := hn.val hk
  have h1 := helds_one hok ho p.key p.element
  have hp : (atPl D.1 D.2 p.object p.key p.element).vs.Perm ((heldsAt o p.key p.element).map hpair) := by
    rcases hc with ⟨hl, hkey, hel⟩ | ⟨hl, hkey, hel⟩
    · rw [hel]; exact (ha.atK ho hl hkey (0, 0)).2
    · rw [hkey]; exact (ha.atE ho hl hel).2
  have he := perm_one hp (by rw [List.length_map]; exact h1)
  rw [he, hold, List.length_map, List.map_map]
  exact ⟨h1, rfl⟩

theorem blk3 {w : World} {g : Nat} {a b c : Value} {t : TypeId} {f : Nat × Nat} (h : w.heap[g]? = some (.cells #[a, b, c] t f)) : w.cell? ⟨g, 0, none⟩ = some a ∧ w.cell? ⟨g, 1, none⟩ = some b ∧ w.cell? ⟨g, 2, none⟩ = some c := by simp [World.cell?, h]
theorem box53 {W : World} {g g' : Nat} {a b c d e x y z : Value} {t t' : TypeId} (h1 : W.heap[g]? = some (.cells #[a, b, c, d, e] t (0, 0))) (h2 : W.heap[g']? = some (.cells #[x, y, z] t' (0, 0))) :
    W.cell? ⟨g, 0, none⟩ = some a ∧ W.cell? ⟨g, 1, none⟩ = some b ∧ W.cell? ⟨g, 2, none⟩ = some c ∧ W.cell? ⟨g, 3, none⟩ = some d ∧ W.cell? ⟨g, 4, none⟩ = some e ∧ W.cell? ⟨g', 0, none⟩ = some x ∧ W.cell? ⟨g', 1, none⟩ = some y ∧ W.cell? ⟨g', 2, none⟩ = some z := by
  obtain ⟨h0, h3, h4, h5, h6⟩ := blk5 h1
  exact ⟨h0, h3, h4, h5, h6, blk3 h2⟩

section
set_option maxRecDepth 1000000 in
set_option maxHeartbeats 4000000 in
theorem makeObject_q {w : World} {rb : Nat} {F : Nat → Prop} {N sp c : Nat} {S : List POp} (h : isRep w rb F N sp c S) (hl : S.length < 60) (lst : Bool) :
    Calls Tryz.prog 73 #[.pointer (some ⟨rb, 0, none⟩), .bool lst] w fun e w' => e = .returned (.agg #[.int .i64 ((S.length : Int) + 1), .int .i64 c]) ∧ WroteRep F N sp c rb S w w' [opMake ((S.length : Int) + 1) c lst] := by
  have HB := hid ((Below.refl w.heap.size w).alloc (Nat.le_refl _) (.cells #[.int .i64 0, .int .i64 0] 36))
  have HF := hid h.lt
  have htop : topP S = S.length := by obtain ⟨_, _, _, _, _, _, _, _, _, _, _, _, h⟩ := h; exact h.top
  have HW := hid (write_q (h.keep HB.out) hl (opMake ((S.length : Int) + 1) c lst) rfl (next_make _ _ (by rw [htop]; omega) lst) 197 (.agg #[.bool lst]) rfl)
  clear h htop
  have HR1 := hid (blk_new w (.cells #[.int .i64 0, .int .i64 0] 36))
  go_enter Tryz.func73, Tryz.ntmps73
  go_wp2_with fail
  refine HW.out.mono ?_
  rintro e w2 ⟨rfl, F', hr2, hk2⟩
  have hb1 : w2.heap[w.heap.size]? = some (.cells #[.int .i64 0, .int .i64 0] 36 (0, 0)) := (hk2.other _ (by simp) (fun hF => by have := HF.out _ hF; omega)).trans HR1.out
  obtain ⟨r0, r1⟩ := blk2 hb1
  have rf := blk_fz hb1
  have rl := blk_lt hb1
  have HR2 := hid hr2; have HK2 := hid hk2
  clear hr2 hk2 hb1
  go_wp2
  refine bodyPost_ret (v := .agg #[.int .i64 ((S.length : Int) + 1), .int .i64 c]) (by simp [results, Tryz.results73, go_sem, r0, r1]) rfl ?_
  have hnF' : ¬ F' w.heap.size := fun hF => by
    rcases HK2.out.sub _ hF with h | h
    · have := HF.out _ h; omega
    · simp at h; omega
  exact ⟨rfl, F', (HR2.out.set _ hnF').set _ hnF', ((HK2.out.before HB.out).setNew (Nat.le_refl _) _).setNew (Nat.le_refl _) _⟩

set_option maxRecDepth 1000000 in
set_option maxHeartbeats 4000000 in
theorem give_q {w : World} {rb : Nat} {F : Nat → Prop} {N sp c : Nat} {S : List POp} (h : isRep w rb F N sp c S) (hl : S.length < 60) (p : POp) (hk : p.kind = 3) (hpid : p.id = ((S.length : Int) + 1, (c : Int))) (hnx : Next (S.foldl doesP rootP) (topP S) p) :
    Calls Tryz.prog 62 #[.pointer (some ⟨rb, 0, none⟩), .agg #[.int .i64 p.object.1, .int .i64 p.object.2, .string p.key, .int .i64 p.element.1, .int .i64 p.element.2], .agg #[.int .i64 p.num, .int .i64 p.obj.1, .int .i64 p.obj.2]] w fun e w' => (∃ r, e = .returned r) ∧ WroteRep F N sp c rb S w w' [p] := by
  have HF := hid h.lt
  have HI := hid h
  obtain ⟨gh, hb, bE, bN, vo, vr, ops, rs, d, bo, be, D, h⟩ := h
  have HB := hid (((Below.refl w.heap.size w).alloc (Nat.le_refl _) (.cells #[.int .i64 p.object.1, .int .i64 p.object.2, .string p.key, .int .i64 p.element.1, .int .i64 p.element.2] 97)).alloc (by simp) (.cells #[.int .i64 p.num, .int .i64 p.obj.1, .int .i64 p.obj.2] 57))
  obtain ⟨h1, hold⟩ := next_old h.agree h.ok hnx (.inl hk)
  have HD := hid (fun W (hb : Below w.heap.size w W) => document_q (h.keep hb))
  have HG := hid (show ∀ W, Below w.heap.size w W → Calls Tryz.prog 92 #[.pointer (some ⟨d, 0, none⟩), .agg #[.int .i64 p.object.1, .int .i64 p.object.2, .string p.key, .int .i64 p.element.1, .int .i64 p.element.2]] W fun e w' => ∃ u, e = .returned u ∧ ownIds W.heap.size w' u p.old ∧ Below W.heap.size W w' from fun W hb => by
    have := givers_q (h.hist.q.keep hb) p.object.1 p.object.2 p.element.1 p.element.2 p.key h1
    rw [hold] at this
    exact this)
  have HHH := hid h; clear h
  have HP := hid (And.intro hpid (And.intro hnx hold)); clear hpid hnx hold h1
  have hkk := hk
  have hchg : chgOf p = .inr (.inr (.inl (p.object, p.key, p.element, (p.num, p.obj), p.old))) := by unfold chgOf; rw [hkk]; simp
  have HCH := hid hchg; clear hchg hkk hk
  go_enter Tryz.func62, Tryz.ntmps62
  go_wp2_with fail
  have HP0 := hid ((alloc_old_r (w.alloc (.cells #[.int .i64 p.object.1, .int .i64 p.object.2, .string p.key, .int .i64 p.element.1, .int .i64 p.element.2] 97)) (.cells #[.int .i64 p.num, .int .i64 p.obj.1, .int .i64 p.obj.2] 57) (r := w.heap.size) (by simp)).trans (blk_new w _))
  have HV0 := hid (show ((w.alloc (.cells #[.int .i64 p.object.1, .int .i64 p.object.2, .string p.key, .int .i64 p.element.1, .int .i64 p.element.2] 97)).alloc (.cells #[.int .i64 p.num, .int .i64 p.obj.1, .int .i64 p.obj.2] 57)).heap[w.heap.size + 1]? = some (.cells #[.int .i64 p.num, .int .i64 p.obj.1, .int .i64 p.obj.2] 57 (0, 0)) by
    have := blk_new (w.alloc (.cells #[.int .i64 p.object.1, .int .i64 p.object.2, .string p.key, .int .i64 p.element.1, .int .i64 p.element.2] 97)) (.cells #[.int .i64 p.num, .int .i64 p.obj.1, .int .i64 p.obj.2] 57)
    rw [show (w.alloc (.cells #[.int .i64 p.object.1, .int .i64 p.object.2, .string p.key, .int .i64 p.element.1, .int .i64 p.element.2] 97)).heap.size = w.heap.size + 1 by simp] at this
    exact this)
  go_region_held3 (fun W => W.cell? ⟨w.heap.size, 0, none⟩ = some (.int .i64 p.object.1) ∧ W.cell? ⟨w.heap.size, 1, none⟩ = some (.int .i64 p.object.2) ∧ W.cell? ⟨w.heap.size, 2, none⟩ = some (.string p.key) ∧ W.cell? ⟨w.heap.size, 3, none⟩ = some (.int .i64 p.element.1) ∧ W.cell? ⟨w.heap.size, 4, none⟩ = some (.int .i64 p.element.2) ∧
      W.cell? ⟨w.heap.size + 1, 0, none⟩ = some (.int .i64 p.num) ∧ W.cell? ⟨w.heap.size + 1, 1, none⟩ = some (.int .i64 p.obj.1) ∧ W.cell? ⟨w.heap.size + 1, 2, none⟩ = some (.int .i64 p.obj.2)) (first | exact box53 HP0.out HV0.out | exact box53 HP3.out HV3.out | exact box53 HP2.out HV2.out | exact box53 HP1.out HV1.out)
    (first
      | (go_at_call 48; refine (HD.out _ HB.out.drew).mono ?_; rintro e w1 ⟨rfl, hb1⟩; have HP1 := hid (blk_keep HP0.out (Hid.out (below_drew_left hb1))); have HV1 := hid (blk_keep HV0.out (Hid.out (below_drew_left hb1))); have HB1 := hid (HB.out.drew.trans (hb1.mono HB.out.size)); clear hb1)
      | (go_at_call 92; refine (HG.out w1 HB1.out).mono ?_; rintro e w2 ⟨u, rfl, hu, hb2⟩; have HP2 := hid (blk_keep HP1.out hb2); have HV2 := hid (blk_keep HV1.out hb2); obtain ⟨ua, uc, rfl, _, _, _⟩ := owns_form hu; have HU := hid (show isIds w2 (.slice ua p.old.length uc) p.old from hu.ids); have HB2 := hid (HB1.out.trans (hb2.mono HB1.out.size)); clear hu hb2)
      | (go_at_call 91; refine (write_q (HI.out.keep HB2.out) hl p HP.out.1 HP.out.2.1 182 _ ?hch).mono ?_; (case hch => rw [HCH.out]; exact ⟨_, rfl, HU.out⟩); rintro e w3 ⟨rfl, F', hr3, hk3⟩; have HP3 := hid ((hk3.other _ (blk_lt HP2.out) (fun hF => by have := HF.out _ hF; omega)).trans HP2.out); have HV3 := hid ((hk3.other _ (blk_lt HV2.out) (fun hF => by have := HF.out _ hF; omega)).trans HV2.out); have HR3 := hid hr3; have HK3 := hid hk3; clear hr3 hk3))
  all_goals go_wp2
  all_goals go_end0
  all_goals exact ⟨⟨_, rfl⟩, F', HR3.out, HK3.out.before HB2.out⟩
end


end Go.Proofs.YtnkpogjiiohapaaGreatDoor

/-! PRepD: One copy of the program's room: setNumber, cut. -/
namespace Go.Proofs.YtnkpogjiiohapaaGreatDoor
open Go.RowKit
attribute [local go_sem ↓] Go.wp_at_zero Go.wp_at_succ
section
set_option maxRecDepth 1000000 in
set_option maxHeartbeats 4000000 in
theorem setNumber_q {w : World} {rb : Nat} {F : Nat → Prop} {N sp c : Nat} {S : List POp} (h : isRep w rb F N sp c S) (p : POp) (hk : p.kind = 3) (hob : p.obj = (0, 0)) (hpid : p.id = ((S.length : Int) + 1, (c : Int))) (hnx : Next (S.foldl doesP rootP) (topP S) p) :
    Calls Tryz.prog 47 #[.pointer (some ⟨rb, 0, none⟩), .agg #[.int .i64 p.object.1, .int .i64 p.object.2, .string p.key, .int .i64 p.element.1, .int .i64 p.element.2], .int .i64 p.num] w fun e w' => (S.length < 60 ∧ e = .returned (.int .i64 0) ∧ WroteRep F N sp c rb S w w' [p]) ∨ (¬ S.length < 60 ∧ e = .returned (.int .i64 8) ∧ Below w.heap.size w w') := by
  have HI := hid h
  obtain ⟨gh, hb, bE, bN, vo, vr, ops, rs, d, bo, be, D, h⟩ := h
  have HB := hid ((Below.refl w.heap.size w).alloc (Nat.le_refl _) (.cells #[.int .i64 p.object.1, .int .i64 p.object.2, .string p.key, .int .i64 p.element.1, .int .i64 p.element.2] 97))
  have HM := hid (mayMake_q (h.keep HB.out) 1 (by omega))
  have HG := hid (show ∀ W, Below w.heap.size w W → S.length < 60 → Calls Tryz.prog 62 #[.pointer (some ⟨rb, 0, none⟩), .agg #[.int .i64 p.object.1, .int .i64 p.object.2, .string p.key, .int .i64 p.element.1, .int .i64 p.element.2], .agg #[.int .i64 p.num, .int .i64 0, .int .i64 0]] W fun e w' => (∃ r, e = .returned r) ∧ WroteRep F N sp c rb S W w' [p] from fun W hb hl => by
    have := give_q (HI.out.keep hb) hl p hk hpid hnx
    rw [hob] at this
    exact this)
  clear h hob hpid hnx hk
  have HP0 := hid (blk_new w (.cells #[.int .i64 p.object.1, .int .i64 p.object.2, .string p.key, .int .i64 p.element.1, .int .i64 p.element.2] 97))
  go_enter Tryz.func47, Tryz.ntmps47
  go_wp2_with fail
  refine HM.out.mono ?_
  rintro e w1 ⟨rfl, hb1⟩
  obtain ⟨b0, b1, b2, b3, b4⟩ := blk5 (blk_keep HP0.out hb1)
  have HB1 := hid (HB.out.trans (hb1.mono HB.out.size)); clear hb1
  by_cases hl : S.length < 60
  · have hd : decide (S.length + 1 ≤ 60) = true := decide_eq_true (by omega)
    rw [hd]
    go_wp2_with fail
    refine (HG.out w1 HB1.out hl).mono ?_
    rintro e w2 ⟨⟨r, rfl⟩, F', hr2, hk2⟩
    have HR2 := hid hr2; have HK2 := hid hk2; clear hr2 hk2
    go_wp2
    go_ret
    exact .inl ⟨hl, rfl, F', HR2.out, HK2.out.before HB1.out⟩
  · have hd : decide (S.length + 1 ≤ 60) = false := decide_eq_false (by omega)
    rw [hd]
    go_wp2
    go_ret
    exact .inr ⟨hl, rfl, HB1.out⟩

set_option maxRecDepth 1000000 in
set_option maxHeartbeats 4000000 in
theorem repCut_q {w : World} {rb : Nat} {F : Nat → Prop} {N sp c : Nat} {S : List POp} (h : isRep w rb F N sp c S) (p : POp) (hk : p.kind = 4) (hpid : p.id = ((S.length : Int) + 1, (c : Int))) (hnx : Next (S.foldl doesP rootP) (topP S) p) :
    Calls Tryz.prog 65 #[.pointer (some ⟨rb, 0, none⟩), .agg #[.int .i64 p.object.1, .int .i64 p.object.2, .string p.key, .int .i64 p.element.1, .int .i64 p.element.2]] w fun e w' => (S.length < 60 ∧ e = .returned (.int .i64 0) ∧ WroteRep F N sp c rb S w w' [p]) ∨ (¬ S.length < 60 ∧ e = .returned (.int .i64 8) ∧ Below w.heap.size w w') := by
  have HF := hid h.lt
  have HI := hid h
  obtain ⟨gh, hb, bE, bN, vo, vr, ops, rs, d, bo, be, D, h⟩ := h
  have HB := hid ((Below.refl w.heap.size w).alloc (Nat.le_refl _) (.cells #[.int .i64 p.object.1, .int .i64 p.object.2, .string p.key, .int .i64 p.element.1, .int .i64 p.element.2] 97))
  have HM := hid (mayMake_q (h.keep HB.out) 1 (by omega))
  obtain ⟨h1, hold⟩ := next_old h.agree h.ok hnx (.inr hk)
  have HD := hid (fun W (hb : Below w.heap.size w W) => document_q (h.keep hb))
  have HG := hid (show ∀ W, Below w.heap.size w W → Calls Tryz.prog 92 #[.pointer (some ⟨d, 0, none⟩), .agg #[.int .i64 p.object.1, .int .i64 p.object.2, .string p.key, .int .i64 p.element.1, .int .i64 p.element.2]] W fun e w' => ∃ u, e = .returned u ∧ ownIds W.heap.size w' u p.old ∧ Below W.heap.size W w' from fun W hb => by
    have := givers_q (h.hist.q.keep hb) p.object.1 p.object.2 p.element.1 p.element.2 p.key h1
    rw [hold] at this
    exact this)
  clear h
  have HP := hid (And.intro hpid hnx); clear hpid hnx hold h1
  have hchg : chgOf p = .inr (.inr (.inr (p.object, p.key, p.element, p.old))) := by unfold chgOf; rw [hk]; simp
  have HCH := hid hchg; clear hchg hk
  have HP0 := hid (blk_new w (.cells #[.int .i64 p.object.1, .int .i64 p.object.2, .string p.key, .int .i64 p.element.1, .int .i64 p.element.2] 97))
  go_enter Tryz.func65, Tryz.ntmps65
  go_wp2_with fail
  refine HM.out.mono ?_
  rintro e w1 ⟨rfl, hb1⟩
  have HP1 := hid (blk_keep HP0.out hb1)
  have HB1 := hid (HB.out.trans (hb1.mono HB.out.size)); clear hb1
  by_cases hl : S.length < 60
  · have hd : decide (S.length + 1 ≤ 60) = true := decide_eq_true (by omega)
    rw [hd]
    go_wp2_with fail
    go_region_held3 (fun W => W.cell? ⟨w.heap.size, 0, none⟩ = some (.int .i64 p.object.1) ∧ W.cell? ⟨w.heap.size, 1, none⟩ = some (.int .i64 p.object.2) ∧ W.cell? ⟨w.heap.size, 2, none⟩ = some (.string p.key) ∧ W.cell? ⟨w.heap.size, 3, none⟩ = some (.int .i64 p.element.1) ∧ W.cell? ⟨w.heap.size, 4, none⟩ = some (.int .i64 p.element.2)) (first | exact blk5 HP1.out | exact blk5 HP4.out | exact blk5 HP3.out | exact blk5 HP2.out)
      (first
        | (go_at_call 48; refine (HD.out _ HB1.out.drew).mono ?_; rintro e w2 ⟨rfl, hb2⟩; have HP2 := hid (blk_keep HP1.out (Hid.out (below_drew_left hb2))); have HB2 := hid (HB1.out.drew.trans (hb2.mono HB1.out.size)); clear hb2)
        | (go_at_call 92; refine (HG.out w2 HB2.out).mono ?_; rintro e w3 ⟨u, rfl, hu, hb3⟩; have HP3 := hid (blk_keep HP2.out hb3); obtain ⟨ua, uc, rfl, _, _, _⟩ := owns_form hu; have HU := hid (show isIds w3 (.slice ua p.old.length uc) p.old from hu.ids); have HB3 := hid (HB2.out.trans (hb3.mono HB2.out.size)); clear hu hb3)
        | (go_at_call 91; refine (write_q (HI.out.keep HB3.out) hl p HP.out.1 HP.out.2 184 _ ?hch).mono ?_; (case hch => rw [HCH.out]; exact ⟨_, rfl, HU.out⟩); rintro e w4 ⟨rfl, F', hr4, hk4⟩; have HP4 := hid ((hk4.other _ (blk_lt HP3.out) (fun hF => by have := HF.out _ hF; omega)).trans HP3.out); have HR4 := hid hr4; have HK4 := hid hk4; clear hr4 hk4))
    all_goals go_wp2
    all_goals go_ret
    all_goals exact .inl ⟨hl, rfl, F', HR4.out, HK4.out.before HB3.out⟩
  · have hd : decide (S.length + 1 ≤ 60) = false := decide_eq_false (by omega)
    rw [hd]
    go_wp2
    go_ret
    exact .inr ⟨hl, rfl, HB1.out⟩
end

end Go.Proofs.YtnkpogjiiohapaaGreatDoor

/-! PRepE: One copy of the program's room: its elements; layAt. -/
namespace Go.Proofs.YtnkpogjiiohapaaGreatDoor
open Go.RowKit
attribute [local go_sem ↓] Go.wp_at_zero Go.wp_at_succ

theorem ObjAg.seen {els : List (PId × CQEl)} {x : PId} {o : PObj} {ob : CQObj} (h : ObjAg els x o ob) (hl : o.list = true) : (o.ss.map PSlot.id).filter (seenEl els) = pseen o := by
  unfold pseen
  rw [List.filter_map]
  congr 1
  apply List.filter_congr
  intro s hs
  obtain ⟨_, _, e, he, _, hp⟩ := h.elems hl s hs
  simp only [Function.comp, seenEl, he]
  rw [hp.length_eq, List.length_map]
theorem set2both {w : World} {g : Nat} {a b u v : Value} {t : TypeId} (h : w.heap[g]? = some (.cells #[a, b] t (0, 0))) : ((w.setCell ⟨g, 0, none⟩ u).setCell ⟨g, 1, none⟩ v).heap[g]? = some (.cells #[u, v] t (0, 0)) := by
  have h1 := setRow (i := 1) (u := v) (setRow (i := 0) (u := u) h)
  simpa using h1
section
theorem RepAt.elements {w : World} {rb : Nat} {F : Nat → Prop} {N sp c : Nat} {S : List POp} {gh hb bE bN : Nat} {vo vr : Value} {ops : List MOp} {rs : List Nat} {d bo be : Nat} {D : QDoc} (h : RepAt w rb F N sp c S gh hb bE bN vo vr ops rs d bo be D) {x : PId} {o : PObj} (ho : objOf (S.foldl doesP rootP) x = some o) (hl : o.list = true) (W : World) (hb : Below w.heap.size w W) :
    Calls Tryz.prog 57 #[.pointer (some ⟨d, 0, none⟩), .agg #[.int .i64 x.1, .int .i64 x.2]] W fun e w' => ∃ u, e = .returned u ∧ ownIds W.heap.size w' u (pseen o) ∧ Below W.heap.size W w' := by
  obtain ⟨ob, hob, hag⟩ := h.agree.o1 x o ho
  have hlen : (o.ss.map PSlot.id).length ≤ 10000 := by
    rw [List.length_map]
    have h1 := h.ok.cnt o (objOf_mem ho)
    have h2 := h.len
    omega
  have := elements_q (h.hist.q.keep hb) x.1 x.2 hob (hag.list.trans hl) (hag.chain hl) hlen
  rw [hag.seen hl] at this
  exact this
end

set_option maxRecDepth 1000000 in
set_option maxHeartbeats 4000000 in
theorem layAt_q {w : World} {rb : Nat} {F : Nat → Prop} {N sp c : Nat} {S : List POp} (h : isRep w rb F N sp c S) (hl : S.length < 60) {x : PId} {o : PObj} (ho : objOf (S.foldl doesP rootP) x = some o) (hol : o.list = true) (i : Int) {b : PId} (hi : behindP (pseen o) i = some b) :
    Calls Tryz.prog 61 #[.pointer (some ⟨rb, 0, none⟩), .agg #[.int .i64 x.1, .int .i64 x.2], .int .i64 i] w fun e w' => e = .returned (.agg #[.int .i64 ((S.length : Int) + 1), .int .i64 c]) ∧ WroteRep F N sp c rb S w w' [opLay ((S.length : Int) + 1) c x b] := by
  have HF := hid h.lt
  have HI := hid h
  obtain ⟨gh, hb, bE, bN, vo, vr, ops, rs, d, bo, be, D, h⟩ := h
  have HB := hid (((((Below.refl w.heap.size w).alloc (Nat.le_refl _) (.cells #[.int .i64 x.1, .int .i64 x.2] 36)).alloc (by simp <;> omega) (.cells #[.int .i64 0, .int .i64 0] 36)).alloc (by simp <;> omega) (.cells #[.int .i64 0, .int .i64 0] 36)))
  have HD := hid (fun W (hb : Below w.heap.size w W) => document_q (h.keep hb))
  have HE := hid (h.elements ho hol)
  have hbin : b = (0, 0) ∨ b ∈ o.ss.map PSlot.id := (behind_in hi).imp id pseen_in
  have HN := hid (show Next (S.foldl doesP rootP) (topP S) (opLay ((S.length : Int) + 1) c x b) from next_lay _ _ (by rw [h.top]; omega) ho hol hbin)
  have hpl : (pseen o).length ≤ 60 := by
    have h1 := h.ok.cnt o (objOf_mem ho)
    have h2 := h.len
    have h3 : (pseen o).length ≤ o.ss.length := by unfold pseen; rw [List.length_map]; exact List.length_filter_le _ _
    omega
  clear h ho hol hbin
  unfold behindP at hi
  have hi0 : ¬ (i < 0 ∨ i > (pseen o).length) := fun hh => by rw [if_pos hh] at hi; cases hi
  rw [if_neg hi0] at hi
  have HX0 := hid (show (((w.alloc (.cells #[.int .i64 x.1, .int .i64 x.2] 36)).alloc (.cells #[.int .i64 0, .int .i64 0] 36)).alloc (.cells #[.int .i64 0, .int .i64 0] 36)).heap[w.heap.size]? = some (.cells #[.int .i64 x.1, .int .i64 x.2] 36 (0, 0)) from (alloc_old_r _ _ (by simp; omega)).trans ((alloc_old_r _ _ (by simp)).trans (blk_new w _)))
  have HX1 := hid (show (((w.alloc (.cells #[.int .i64 x.1, .int .i64 x.2] 36)).alloc (.cells #[.int .i64 0, .int .i64 0] 36)).alloc (.cells #[.int .i64 0, .int .i64 0] 36)).heap[w.heap.size + 1]? = some (.cells #[.int .i64 0, .int .i64 0] 36 (0, 0)) from (alloc_old_r _ _ (by simp)).trans (by
    have := blk_new (w.alloc (.cells #[.int .i64 x.1, .int .i64 x.2] 36)) (.cells #[.int .i64 0, .int .i64 0] 36)
    rw [show (w.alloc (.cells #[.int .i64 x.1, .int .i64 x.2] 36)).heap.size = w.heap.size + 1 by simp] at this
    exact this))
  have HX2 := hid (show (((w.alloc (.cells #[.int .i64 x.1, .int .i64 x.2] 36)).alloc (.cells #[.int .i64 0, .int .i64 0] 36)).alloc (.cells #[.int .i64 0, .int .i64 0] 36)).heap[w.heap.size + 1 + 1]? = some (.cells #[.int .i64 0, .int .i64 0] 36 (0, 0)) from (by
    have := blk_new ((w.alloc (.cells #[.int .i64 x.1, .int .i64 x.2] 36)).alloc (.cells #[.int .i64 0, .int .i64 0] 36)) (.cells #[.int .i64 0, .int .i64 0] 36)
    rw [show ((w.alloc (.cells #[.int .i64 x.1, .int .i64 x.2] 36)).alloc (.cells #[.int .i64 0, .int .i64 0] 36)).heap.size = w.heap.size + 1 + 1 by simp] at this
    exact this))
  have HNF := hid (show ∀ k, w.heap.size ≤ k → ¬ F k from fun k hk hF => by have := HF.out k hF; omega)
  by_cases hz : i = 0
  · subst hz
    rw [if_pos rfl] at hi
    cases hi
    go_enter Tryz.func61, Tryz.ntmps61
    go_wp2_with fail
    refine (write_q (HI.out.keep HB.out) hl _ rfl HN.out 179 _ rfl).mono ?_
    rintro e w3 ⟨rfl, F', hr3, hk3⟩
    have hb1 := (hk3.other _ (blk_lt HX1.out) (HNF.out _ (by omega))).trans HX1.out
    obtain ⟨r0, r1⟩ := blk2 hb1
    have rf := blk_fz hb1
    have rl := blk_lt hb1
    have HR3 := hid hr3; have HK3 := hid hk3
    clear hr3 hk3 hb1
    go_wp2
    refine bodyPost_ret (v := .agg #[.int .i64 ((S.length : Int) + 1), .int .i64 c]) (by simp [results, Tryz.results61, go_sem, r0, r1]) rfl ?_
    have hnF' : ¬ F' (w.heap.size + 1) := fun hF => by
      rcases HK3.out.sub _ hF with h | h
      · exact HNF.out _ (by omega) h
      · simp at h; omega
    exact ⟨rfl, F', (HR3.out.set _ hnF').set _ hnF', ((HK3.out.before HB.out).setNew (by omega) _).setNew (by omega) _⟩
  · rw [if_neg hz] at hi
    obtain ⟨j, rfl⟩ : ∃ j : Nat, i = (j : Int) + 1 := ⟨(i - 1).toNat, by omega⟩
    rw [show ((j : Int) + 1 - 1).toNat = j by omega] at hi
    obtain ⟨hj, hbj⟩ := List.getElem?_eq_some_iff.1 hi
    have hj0 : (0 : Int) ≤ (j : Int) := Int.natCast_nonneg _
    have hj1 : (j : Int) < ((pseen o).length : Int) := by omega
    have HBJ := hid hbj; clear hi hbj
    have hjs : (j : Int) + 1 - 1 = (j : Int) := by omega
    have hjw : IntKind.i64.wrap (j : Int) = (j : Int) := Go.IntWalk.i64_in _ (by omega)
    have hjl : j < (pseen o).length := hj
    obtain ⟨x0, x1⟩ := blk2 HX0.out
    go_enter Tryz.func61, Tryz.ntmps61
    go_wp2_with fail
    go_region_with (first
      | (go_at_call 48; refine (HD.out _ HB.out.drew).mono ?_; rintro e w1 ⟨rfl, hb1⟩; have hb1' := Hid.out (below_drew_left hb1); have HY0 := hid (blk_keep HX0.out hb1'); have HY1 := hid (blk_keep HX1.out hb1'); have HY2 := hid (blk_keep HX2.out hb1'); replace x0 := (blk2 HY0.out).1; replace x1 := (blk2 HY0.out).2; have HB1 := hid (HB.out.drew.trans (hb1.mono HB.out.size)); clear hb1 hb1')
      | (go_at_call 57; refine (HE.out w1 HB1.out).mono ?_; rintro e w2 ⟨u, rfl, hu, hb2⟩; obtain ⟨ua, uc, rfl, hul, hum, huf⟩ := owns_form hu; obtain ⟨gu, rfl⟩ := huf j hj; clear huf; unfold maxLen at hum; obtain ⟨u0, u1⟩ := isIds.cells hu.ids rfl j hj; rw [HBJ.out] at u0 u1; have HZ0 := hid (blk_keep HY0.out hb2); have HZ1 := hid (blk_keep HY1.out hb2); have HZ2 := hid (blk_keep HY2.out hb2); have z0 := (blk2 HZ2.out).1; have z1 := (blk2 HZ2.out).2; have zf := blk_fz HZ2.out; replace x0 := (blk2 HZ0.out).1; replace x1 := (blk2 HZ0.out).2; have HB2 := hid (HB1.out.trans (hb2.mono HB1.out.size)); have HGU := hid (World.ownsRow.lt hu gu rfl).1; clear hu hb2))
    all_goals (
      generalize hW : (w2.setCell ⟨w.heap.size + 1 + 1, 0, none⟩ (.int .i64 b.1)).setCell ⟨w.heap.size + 1 + 1, 1, none⟩ (.int .i64 b.2) = w3
      have HQ2 := hid (show w3.heap[w.heap.size + 1 + 1]? = some (.cells #[.int .i64 b.1, .int .i64 b.2] 36 (0, 0)) by rw [← hW]; exact set2both HZ2.out)
      have HQ1 := hid (show w3.heap[w.heap.size + 1]? = some (.cells #[.int .i64 0, .int .i64 0] 36 (0, 0)) by rw [← hW, setCell_other (by omega), setCell_other (by omega)]; exact HZ1.out)
      have HQ0 := hid (show w3.heap[w.heap.size]? = some (.cells #[.int .i64 x.1, .int .i64 x.2] 36 (0, 0)) by rw [← hW, setCell_other (by omega), setCell_other (by omega)]; exact HZ0.out)
      have HB3 := hid (show Below w.heap.size w w3 by rw [← hW]; exact (HB2.out.setCell (show w.heap.size ≤ w.heap.size + 1 + 1 by omega) _).setCell (show w.heap.size ≤ w.heap.size + 1 + 1 by omega) _)
      clear hW
      replace x0 := (blk2 HQ0.out).1
      replace x1 := (blk2 HQ0.out).2
      replace z0 := (blk2 HQ2.out).1
      replace z1 := (blk2 HQ2.out).2
      go_wp2_with fail
      refine (write_q (HI.out.keep HB3.out) hl _ rfl HN.out 179 _ rfl).mono ?_
      rintro e w4 ⟨rfl, F', hr3, hk3⟩
      have hb1 := (hk3.other _ (blk_lt HQ1.out) (HNF.out _ (by omega))).trans HQ1.out
      obtain ⟨r0, r1⟩ := blk2 hb1
      have rf := blk_fz hb1
      have rl := blk_lt hb1
      have HR3 := hid hr3
      have HK3 := hid hk3
      have hq1 := blk_lt HQ1.out
      clear hr3 hk3 hb1 x0 x1 z0 z1 zf
      go_wp2
      refine bodyPost_ret (v := .agg #[.int .i64 ((S.length : Int) + 1), .int .i64 c]) (by simp [results, Tryz.results61, go_sem, r0, r1]) rfl ?_
      have hnF' : ¬ F' (w.heap.size + 1) := fun hF => by
        rcases HK3.out.sub _ hF with h | h
        · exact HNF.out _ (by omega) h
        · omega
      exact ⟨rfl, F', (HR3.out.set _ hnF').set _ hnF', ((HK3.out.before HB3.out).setNew (by omega) _).setNew (by omega) _⟩)

end Go.Proofs.YtnkpogjiiohapaaGreatDoor
