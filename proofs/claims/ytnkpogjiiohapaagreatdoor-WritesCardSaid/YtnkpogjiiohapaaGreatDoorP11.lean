/- Our own text (PNewC, PNewD, PRoomJ, PTextA, PLawA). -/
import Derived.Deep.DeepCutAuto
import Derived.Deep.RegionLaw
import Derived.Test.YtnkpogjiiohapaaGreatDoorShelf
import Derived.Lib.AppendIntMem
import Derived.Deep.RegionHeld3
import Derived.Deep.DrawnRows
import Derived.Test.YtnkpogjiiohapaaGreatDoorP10
import Derived.Test.YtnkpogjiiohapaaGreatDoorR01
set_option linter.unusedSimpArgs false
set_option linter.unusedVariables false

/-! PNewC: newReplica: a copy that has done nothing. -/
namespace Go.Proofs.YtnkpogjiiohapaaGreatDoor
open Go.RowKit
attribute [local go_sem ↓] Go.wp_at_zero Go.wp_at_succ

theorem hRow_zero (N c : Nat) : hRow N c 0 = zrow N := by
  have h1 : (zrow N).toList = List.replicate N (Value.int .i64 0) := by
    unfold zrow
    have := toList_madeCells_one (.int .i64 0) (N * 1)
    rw [Nat.mul_one] at this ⊢
    exact this
  apply Array.ext'
  rw [h1]
  unfold hRow
  apply List.ext_getElem
  · simp
  · intro i h2 h3
    simp
theorem blk_at {w : World} {o : Obj} {k : Nat} (h : k = w.heap.size) : (w.alloc o).heap[k]? = some o := by rw [h]; exact blk_new w o
theorem alloc_ne {w : World} {o : Obj} {k : Nat} (h : k ≠ w.heap.size) : (w.alloc o).heap[k]? = w.heap[k]? := by
  by_cases hk : k < w.heap.size
  · exact alloc_old_r _ _ hk
  · have h1 : w.heap[k]? = none := by simp; omega
    have h2 : (w.alloc o).heap[k]? = none := by simp; omega
    rw [h1, h2]

theorem below_then {w V w1 : World} (hb : Below V.heap.size V w1) (h : Below w.heap.size w V) : Below w.heap.size w w1 := h.trans (hb.mono h.size)
def intsV (x : Nat × Nat) : Value := .slice (some ⟨x.1, 0, none⟩) x.2 x.2
theorem isQ.rootK {w w' : World} {d bo be : Nat} (h : isQ w d bo be rootQ.1 rootQ.2) (hk : ∀ k, (k = d ∨ k = bo ∨ k = be) → w'.heap[k]? = w.heap[k]?) : isQ w' d bo be rootQ.1 rootQ.2 := by
  obtain ⟨es, clk, hmo⟩ := h.ho
  obtain ⟨es2, clk2, hme⟩ := h.he
  refine ⟨by rw [hk d (.inl rfl)]; exact h.hd, ⟨es, clk, hmo.blockK (hk bo (.inr (.inl rfl)))⟩, ⟨es2, clk2, hme.blockK (hk be (.inr (.inr rfl)))⟩, fun p hp => ?_, fun p hp => by cases hp⟩
  simp [rootQ] at hp
  subst hp
  exact ⟨.inl ⟨rfl, rfl⟩, fun q hq => by cases hq⟩
theorem root_own {bo be : Nat} {R : Nat → Prop} (h1 : bo ≠ be) (h2 : ¬ R bo) (h3 : ¬ R be) : QOwn bo be R rootQ.1 rootQ.2 := by
  refine ⟨h1, h2, h3, fun p hp b hb => ?_, fun p hp k hk b hb => ?_, fun p hp => by cases hp⟩
  · simp [rootQ] at hp
    subst hp
    cases hb
  · simp [rootQ] at hp
    subst hp
    cases hk
/-- What newReplica has made ahead of its loop. -/
structure NewRep (w wc : World) (N sp c : Nat) (p : Value) (rb gh hb rr d0 d bo be bE bN : Nat) : Prop where
  p : p = .pointer (some ⟨rb, 0, none⟩)
  blk : wc.heap[rb]? = some (.cells #[.int .i64 c, .int .i64 0, .slice (some ⟨gh, 0, none⟩) N N, .pointer (some ⟨hb, 0, none⟩), .map (some bE), .map (some bN)] 109 (0, 0))
  heard : wc.heap[gh]? = some (.cells (zrow N) 3 (0, 0))
  hist : wc.heap[hb]? = some (.cells #[.int .i64 sp, .int .i64 0, .slice none 0 0, .slice (some ⟨rr, 0, none⟩) 1 1, .pointer (some ⟨d, 0, none⟩)] 204 (0, 0))
  rem : wc.heap[rr]? = some (.cells #[.pointer (some ⟨d0, 0, none⟩)] 101 (0, 0))
  q : isQ wc d bo be rootQ.1 rootQ.2
  new : wc.heap[bN]? = some (.map #[] 0)
  ge : w.heap.size ≤ rb ∧ w.heap.size ≤ gh ∧ w.heap.size ≤ hb ∧ w.heap.size ≤ rr ∧ w.heap.size ≤ d ∧ w.heap.size ≤ bo ∧ w.heap.size ≤ be ∧ w.heap.size ≤ bN
  ne : bo ≠ be ∧ bN ≠ bo ∧ bN ≠ be
  below : Below w.heap.size w wc

set_option maxRecDepth 1000000 in
set_option maxHeartbeats 8000000 in
theorem newReplica_q (c N sp : Nat) (hc : c < N) (hN : N ≤ 4) (h1 : 1 ≤ sp) (h2 : sp ≤ 50) (w : World) :
    Calls Tryz.prog 72 #[.int .i64 c, .int .i64 N, .int .i64 sp] w fun e w' => (∃ rb, e = .returned (.pointer (some ⟨rb, 0, none⟩)) ∧ isRep w' rb (fun k => w.heap.size ≤ k ∧ k < w'.heap.size) N sp c []) ∧ Below w.heap.size w w' := by
  have hmi := run_mkInts N hN
  have hm1 := mk_map 106
  have hm2 := mk_map 107
  have HNW := hid (histNew_q (sp : Int))
  go_enter Tryz.func72, Tryz.ntmps72
  go_wp2_with fail
  go_cut [7, 11, 13, 14, 15] (fun p s h m1 m2 wc => ∃ rb gh hb rr d0 d bo be bE bN, s = .slice (some ⟨gh, 0, none⟩) N N ∧ h = .pointer (some ⟨hb, 0, none⟩) ∧ m1 = .map (some bE) ∧ m2 = .map (some bN) ∧ NewRep w wc N sp c p rb gh hb rr d0 d bo be bE bN)
  case first =>
    go_region_with (first | (go_at_call 128; refine (HNW.out _).mono ?_; rintro e w1 ⟨⟨hb, rr, d0, d, bo, be, rfl, hx1, hx2, hq, g1, g2, g3, g4, g5, g6, g7⟩, hb1⟩; have HBW := hid (below_then (w := w) hb1 (by go_grown)); (try simp at g1 g2 g3 g4 g5); have l1 := blk_lt hx1; have l2 := blk_lt hx2; have l3 := blk_lt hq.hd; have l4 : bo < w1.heap.size := (by obtain ⟨es, clk, hm⟩ := hq.ho; exact hm.lt); have l5 : be < w1.heap.size := (by obtain ⟨es, clk, hm⟩ := hq.he; exact hm.lt); have HX1 := hid hx1; have HX2 := hid hx2; have HQ := hid hq; have HB1 := hid hb1; have hz := hb1.size; (try simp at hz); clear hx1 hx2 hq hb1))
    all_goals (go_wp2_with fail; go_meet)
    all_goals refine ⟨_, _, hb, rr, d0, d, bo, be, _, _, rfl, rfl, rfl, rfl, rfl, ?_, ?_, ?_, ?_, HQ.out.keep (by go_grown), ?_, ⟨by omega, by omega, by omega, by omega, by omega, by omega, by omega, by omega⟩, ⟨g6, by omega, by omega⟩, HBW.out.trans (Below.mono (by go_grown : Below w1.heap.size w1 _) (by omega))⟩
    all_goals repeat' (first
      | exact HX1.out
      | exact HX2.out
      | exact blk_at (by first | rfl | omega | (simp; done) | (simp; omega))
      | (refine (alloc_ne (by first | omega | (simp; done) | (simp; omega))).trans ?_)
      | (refine (HB1.out.block _ (by first | omega | (simp; done) | (simp; omega))).trans ?_))
  case rest =>
    obtain ⟨rb, gh, hb, rr, d0, d, bo, be, bE, bN, rfl, rfl, rfl, rfl, hnr⟩ := hcut
    have hp := hnr.p
    subst hp
    have HR := hid hnr
    have c5 : wc.cell? ⟨rb, 5, none⟩ = some (.map (some bN)) := by simp [World.cell?, hnr.blk]
    clear hnr hm1 hm2
    have HM0 := hid (show isMap numV intsV wc bN [] #[] 0 from ⟨HR.out.new, rfl, List.nodup_nil, fun e he => by cases he⟩)
    have hrl := blk_lt HR.out.blk
    go_wp2_with fail
    go_loopw [19] (fun i wr => ∃ k : Nat, k ≤ N ∧ i = .int .i64 k ∧ (∃ m es clk, isMap numV intsV wr bN m es clk) ∧ Turned (fun k => k = bN) wc wr) (fun i _ => N - (intOf i).toNat)
    case atStart => exact ⟨0, Nat.zero_le _, rfl, ⟨_, _, _, HM0.out⟩, Turned.of_below (Below.refl _ _)⟩
    case round =>
      obtain ⟨k, hk, rfl, ⟨m, es, clk, hm⟩, ht⟩ := hrel
      have HM := hid hm; have HT := hid ht; clear hm ht
      have d5 : wr.cell? ⟨rb, 5, none⟩ = some (.map (some bN)) := HT.out.cell (fun e => by have h1 := HR.out.blk; rw [e, HR.out.new] at h1; cases h1) c5
      have hrl2 : rb < wr.heap.size := Nat.lt_of_lt_of_le hrl HT.out.size
      by_cases hlt : k < N
      · by_cases hkc : k = c
        · subst hkc
          go_wp2
          go_roundw
          case rel => exact ⟨k + 1, by omega, by go_num, ⟨m, es, clk, HM.out⟩, HT.out⟩
          case measure => simp [intOf]; omega
        · have hne : ¬ ((k : Int) = (c : Int)) := by omega
          have HMA := hid (HM.out.keep ((Below.refl wr.heap.size wr).alloc (Nat.le_refl _) (.cells (zrow N) 3)).drew)
          obtain ⟨es', clk', hrun, hm'⟩ := run_putI intKey HMA.out Tryz.underlying107 (k : Int) (wr.heap.size, N)
          simp only [numV, intsV] at hrun
          have HM' := hid hm'; clear hm'
          have hmi2 := hmi
          go_wp2_with fail
          go_region
          all_goals go_wp2
          all_goals go_roundw
          all_goals first
            | exact ⟨k + 1, by omega, by go_num, ⟨_, _, _, HM'.out⟩, (HT.out.trans (Turned.of_below ((Below.refl wr.heap.size wr).alloc (Nat.le_refl _) (.cells (zrow N) 3)).drew)).trans (Turned.put _ rfl)⟩
            | (simp [intOf]; omega)
      · go_wp2
        go_ret
        have hkeep : ∀ k o, wc.heap[k]? = some o → k ≠ bN → wr.heap[k]? = some o := fun k o hk hne => (HT.out.other k (blk_lt hk) hne).trans hk
        have hcell : ∀ k c t f, wc.heap[k]? = some (.cells c t f) → k ≠ bN := fun k c t f hk e => by rw [e, HR.out.new] at hk; cases hk
        have hge := HR.out.ge
        have hX := hkeep _ _ HR.out.blk (hcell _ _ _ _ HR.out.blk)
        have hG := hkeep _ _ HR.out.heard (hcell _ _ _ _ HR.out.heard)
        have hH := hkeep _ _ HR.out.hist (hcell _ _ _ _ HR.out.hist)
        have hRR := hkeep _ _ HR.out.rem (hcell _ _ _ _ HR.out.rem)
        have hQ := HR.out.q.rootK (w' := wr) (fun k hk => by
          obtain ⟨es1, clk1, hmo⟩ := HR.out.q.ho
          obtain ⟨es2, clk2, hme⟩ := HR.out.q.he
          rcases hk with rfl | rfl | rfl
          · exact HT.out.other _ (blk_lt HR.out.q.hd) (hcell _ _ _ _ HR.out.q.hd)
          · exact HT.out.other _ hmo.lt (Ne.symm HR.out.ne.2.1)
          · exact HT.out.other _ hme.lt (Ne.symm HR.out.ne.2.2))
        have hbl : Below w.heap.size w wr := ⟨HT.out.os.trans HR.out.below.os, HT.out.tape.trans HR.out.below.tape, HT.out.output.trans HR.out.below.output, Nat.le_trans HR.out.below.size HT.out.size, fun k hk => (HT.out.other k (Nat.lt_of_lt_of_le hk HR.out.below.size) (by omega)).trans (HR.out.below.block k hk)⟩
        have lq1 := blk_lt hQ.hd
        have lq2 : bo < wr.heap.size := by obtain ⟨es, clk, hm⟩ := hQ.ho; exact hm.lt
        have lq3 : be < wr.heap.size := by obtain ⟨es, clk, hm⟩ := hQ.he; exact hm.lt
        refine ⟨⟨rb, rfl, gh, hb, bE, bN, .slice none 0 0, .slice (some ⟨rr, 0, none⟩) 1 1, [], [d0], d, bo, be, rootQ, hX, by rw [List.length_nil, hRow_zero]; exact hG, ⟨hH, World.ownsRow_nil _ _ _ _, ?_, by simp, h1, h2, by simp, hQ, ?_, QNd.root⟩, hc, hN, rfl, fun p hp => (by cases hp), rfl, by simp, Agree.root, RefOk.start, List.Pairwise.nil, fun p hp => (by simp [rootQ] at hp; subst hp; simp), ⟨hge.1, blk_lt hX⟩, ⟨hge.2.1, blk_lt hG⟩, ⟨hge.2.2.1, blk_lt hH⟩, fun k hk => (by cases hk), fun k hk => (by cases hk; exact ⟨hge.2.2.2.1, blk_lt hRR⟩), ⟨hge.2.2.2.2.1, lq1⟩, ⟨hge.2.2.2.2.2.1, lq2⟩, ⟨hge.2.2.2.2.2.2.1, lq3⟩, fun k hk => hk.2⟩, hbl⟩
        · exact ⟨by simp [ptrC], .inr ⟨rr, 1, _, rfl, Nat.zero_le _, hRR, by simp, by unfold maxLen; simp, by simp, by simp [ptrC]⟩⟩
        · exact root_own HR.out.ne.1 (fun h => h.2.1 rfl) (fun h => h.2.2 rfl)

end Go.Proofs.YtnkpogjiiohapaaGreatDoor

/-! PNewD: The program's New. -/
namespace Go.Proofs.YtnkpogjiiohapaaGreatDoor
open Go.RowKit
attribute [local go_sem ↓] Go.wp_at_zero Go.wp_at_succ

structure NewPr (w wr : World) (N sp r bl : Nat) (vC : Value) (l : List Nat) (Fc : Nat → Nat → Prop) : Prop where
  blk : wr.heap[r]? = some (.cells #[vC, .map (some bl)] 119 (0, 0))
  row : wr.ownsRow 0 92 1 vC l.length (l.flatMap ptrC)
  reps : ∀ c (hc : c < l.length), isRep wr l[c] (Fc c) N sp c []
  new : ∀ c, c < l.length → ∀ j, Fc c j → w.heap.size ≤ j
  dis : ∀ c c', c < l.length → c' < l.length → c ≠ c' → ∀ k, Fc c k → ¬ Fc c' k
  nr : ∀ c, c < l.length → ¬ Fc c r
  nC : ∀ c, c < l.length → ∀ g, vC.ownBlock = some g → ¬ Fc c g
  rge : w.heap.size ≤ r
  cge : ∀ g, vC.ownBlock = some g → w.heap.size ≤ g
  below : Below w.heap.size w wr

/-- ONE COPY MORE. -/
theorem NewPr.step {w wr w2 w3 : World} {N sp r bl : Nat} {vC vC' : Value} {l : List Nat} {Fc : Nat → Nat → Prop} (h : NewPr w wr N sp r bl vC l Fc) {rb : Nat} (hb2 : Below wr.heap.size wr w2) (hr2 : isRep w2 rb (fun k => wr.heap.size ≤ k ∧ k < w2.heap.size) N sp l.length []) (o : Obj)
    (ho3 : w3.ownsRow 0 92 1 vC' (l.length + 1) ((l ++ [rb]).flatMap ptrC)) (hg3 : (w2.alloc o).grownBy w3 vC.ownBlock) (hn3 : newOr (w2.alloc o) vC vC') :
    NewPr w (w3.setCell ⟨r, 0, none⟩ vC') N sp r bl vC' (l ++ [rb]) (fun c => if c = l.length then fun k => wr.heap.size ≤ k ∧ k < w2.heap.size else Fc c) := by
  have hrl := blk_lt h.blk
  have hz2 := hb2.size
  have hrC : vC.ownBlock ≠ some r := fun e => by
    obtain ⟨cur, hc⟩ := own_type h.row e
    exact absurd (cells_type hc h.blk) (by decide)
  have hb3 : ∀ k, k < w2.heap.size → some k ≠ vC.ownBlock → w3.heap[k]? = w2.heap[k]? := fun k hk hne => (hg3.block k (by simp; omega) hne).trans (alloc_old_r _ _ hk)
  have hC' : ∀ g, vC'.ownBlock = some g → g < w2.heap.size → vC.ownBlock = some g := fun g hg hl => by
    rcases hn3 with hn | hn
    · rw [← hn]; exact hg
    · have := hn g hg; simp at this; omega
  have hr3 : w3.heap[r]? = some (.cells #[vC, .map (some bl)] 119 (0, 0)) := (hb3 r (by omega) (Ne.symm hrC)).trans ((hb2.block r hrl).trans h.blk)
  have hrC' : vC'.ownBlock ≠ some r := fun e => by
    obtain ⟨cur, hc⟩ := own_type ho3 e
    exact absurd (cells_type hc hr3) (by decide)
  have hlen : (l ++ [rb]).length = l.length + 1 := by simp
  have hsz : w2.heap.size ≤ (w3.setCell ⟨r, 0, none⟩ vC').heap.size := by have := hg3.size; simp [World.setCell] at this ⊢; omega
  have hCl : ∀ g, vC.ownBlock = some g → g < wr.heap.size := fun g hg => (World.ownsRow.lt h.row g hg).2
  refine ⟨?_, ?_, ?_, ?_, ?_, ?_, ?_, h.rge, ?_, ?_⟩
  · have := setRow (i := 0) (u := vC') hr3
    simpa using this
  · rw [hlen]; exact row_other ho3 hrC' _
  · intro c hc
    rw [hlen] at hc
    by_cases e : c = l.length
    · subst e
      simp only [if_true, List.getElem_concat_length]
      refine hr2.keepF hsz fun k hk => (setCell_other (by omega)).trans (hb3 k hk.2 (fun e => ?_))
      have := hCl k e.symm
      omega
    · have hcl : c < l.length := by omega
      simp only [e, if_false]
      rw [List.getElem_append_left hcl]
      refine ((h.reps c hcl).keep hb2).keepF hsz fun k hk => (setCell_other (show k ≠ r from fun e => h.nr c hcl (e ▸ hk))).trans (hb3 k (Nat.lt_of_lt_of_le ((h.reps c hcl).lt k hk) hz2) (fun e => h.nC c hcl k e.symm hk))
  · intro c hc j hj
    by_cases e : c = l.length
    · subst e
      simp only [if_true] at hj
      exact Nat.le_trans h.below.size hj.1
    · simp only [e, if_false] at hj
      exact h.new c (by rw [hlen] at hc; omega) j hj
  · intro c c' hc hc' hne k hk hk'
    rw [hlen] at hc hc'
    by_cases e : c = l.length
    · subst e
      have e' : ¬ c' = l.length := fun e => hne e.symm
      simp only [if_true] at hk
      simp only [e', if_false] at hk'
      have := (h.reps c' (by omega)).lt k hk'
      omega
    · simp only [e, if_false] at hk
      by_cases e' : c' = l.length
      · subst e'
        simp only [if_true] at hk'
        have := (h.reps c (by omega)).lt k hk
        omega
      · simp only [e', if_false] at hk'
        exact h.dis c c' (by omega) (by omega) hne k hk hk'
  · intro c hc hF
    rw [hlen] at hc
    by_cases e : c = l.length
    · subst e
      simp only [if_true] at hF
      omega
    · simp only [e, if_false] at hF
      exact h.nr c (by omega) hF
  · intro c hc g hg hF
    rw [hlen] at hc
    by_cases e : c = l.length
    · subst e
      simp only [if_true] at hF
      have := hCl g (hC' g hg hF.2)
      omega
    · simp only [e, if_false] at hF
      have hl := (h.reps c (by omega)).lt g hF
      exact h.nC c (by omega) g (hC' g hg (by omega)) hF
  · intro g hg
    by_cases hl : g < w2.heap.size
    · exact h.cge g (hC' g hg hl)
    · have := h.below.size; omega
  · refine ⟨hg3.os.trans (hb2.os.trans h.below.os), hg3.tape.trans (hb2.tape.trans h.below.tape), hg3.output.trans (hb2.output.trans h.below.output), Nat.le_trans (Nat.le_trans h.below.size hz2) hsz, fun k hk => ?_⟩
    have hws := h.below.size
    have hrg := h.rge
    rw [setCell_other (by omega), hb3 k (by omega) (fun e => by have := h.cge k e.symm; omega), hb2.block k (by omega), h.below.block k hk]

theorem range_flat (l : List Nat) : l.flatMap ptrC = (List.range l.length).flatMap fun c => ptrC (l.getD c 0) := by
  have : l = (List.range l.length).map fun c => l.getD c 0 := by
    apply List.ext_getElem
    · simp
    · intro i h1 h2
      simp [h1]
  conv => lhs; rw [this]
  rw [List.flatMap_map]

theorem NewPr.pr {w wr : World} {N sp r bl : Nat} {vC : Value} {l : List Nat} {Fc : Nat → Nat → Prop} (h : NewPr w wr N sp r bl vC l Fc) (hl : l.length = N) (h1 : 1 ≤ N) (hN : N ≤ 4) : isPr wr r (fun k => w.heap.size ≤ k ∧ k < wr.heap.size) N sp (fun _ => []) := by
  obtain ⟨a, cC, e, hc1, hc2, hf⟩ := owns_form h.row
  obtain ⟨gC, e2⟩ := hf 0 (by omega)
  subst e2
  subst e
  subst hl
  refine ⟨gC, cC, bl, fun c => l.getD c 0, Fc, h.blk, by rw [← range_flat]; exact h.row, hN, fun c hc => ?_, fun c hc k hk => ⟨h.new c hc k hk, (h.reps c hc).lt k hk⟩, h.dis, h.nr, fun c hc => h.nC c hc gC rfl, ⟨h.rge, blk_lt h.blk⟩, ⟨h.cge gC rfl, (World.ownsRow.lt h.row gC rfl).2⟩, fun k hk => hk.2⟩
  have := h.reps c hc
  rw [List.getD_eq_getElem?_getD, List.getElem?_eq_getElem hc]
  exact this

set_option maxRecDepth 1000000 in
set_option maxHeartbeats 1000000 in
theorem progNew_no (n s : Int) (h : ¬ (1 ≤ n ∧ n ≤ 4 ∧ 1 ≤ s ∧ s ≤ 50)) (w : World) :
    Calls Tryz.prog 37 #[.int .i64 n, .int .i64 s] w fun e w' => e = .returned (.tuple #[.pointer none, .int .i64 1]) ∧ w' = w := by
  by_cases h1 : n < 1
  · clear h
    go_enter Tryz.func37, Tryz.ntmps37
    go_wp2
    go_ret2
    exact ⟨rfl, rfl⟩
  · by_cases h2 : 4 < n
    · clear h
      go_enter Tryz.func37, Tryz.ntmps37
      go_wp2
      go_ret2
      exact ⟨rfl, rfl⟩
    · by_cases h3 : s < 1
      · clear h
        go_enter Tryz.func37, Tryz.ntmps37
        go_wp2
        go_ret2
        exact ⟨rfl, rfl⟩
      · have h4 : 50 < s := by omega
        clear h
        go_enter Tryz.func37, Tryz.ntmps37
        go_wp2
        go_ret2
        exact ⟨rfl, rfl⟩

set_option maxRecDepth 1000000 in
set_option maxHeartbeats 4000000 in
theorem progNew_q (N sp : Nat) (h1 : 1 ≤ N) (hN : N ≤ 4) (h3 : 1 ≤ sp) (h4 : sp ≤ 50) (w : World) :
    Calls Tryz.prog 37 #[.int .i64 N, .int .i64 sp] w fun e w' => Below w.heap.size w w' ∧ ∃ r, e = .returned (.tuple #[.pointer (some ⟨r, 0, none⟩), .int .i64 0]) ∧ isPr w' r (fun k => w.heap.size ≤ k ∧ k < w'.heap.size) N sp (fun _ => []) := by
  have HL := hid (newLinks_q N hN w)
  go_enter Tryz.func37, Tryz.ntmps37
  go_wp2_with fail
  refine HL.out.mono ?_
  rintro e w1 ⟨⟨bl, rfl, hb0, hbl⟩, hb1⟩
  have HB1 := hid hb1; clear hb1
  have hz1 := HB1.out.size
  go_wp2_with fail
  go_loopw [27] (fun i wr => ∃ vC l Fc, l.length ≤ N ∧ i = .int .i64 (l.length : Int) ∧ NewPr w wr N sp w1.heap.size bl vC l Fc) (fun i _ => N - (intOf i).toNat)
  case atStart =>
    refine ⟨.slice none 0 0, [], fun _ _ => False, Nat.zero_le _, rfl, blk_new w1 _, World.ownsRow_nil _ _ _ _, fun c hc => (by cases hc), fun c hc => (by cases hc), fun c c' hc => (by cases hc), fun c hc => (by cases hc), fun c hc => (by cases hc), hz1, fun g hg => (by cases hg), HB1.out.alloc hz1 _⟩
  case round =>
    obtain ⟨vC, l, Fc, hl, rfl, hnp⟩ := hrel
    by_cases hlt : l.length < N
    · have HR := hid (fun W (hb : Below wr.heap.size wr W) => newReplica_q l.length N sp hlt hN h3 h4 W)
      obtain ⟨a, cC, rfl, hc1, hc2, hf⟩ := owns_form hnp.row
      clear hf
      unfold maxLen at hc2
      obtain ⟨c0, c1⟩ := blk2 hnp.blk
      have hrl := blk_lt hnp.blk
      have hne := World.new_ne wr ⟨w1.heap.size, 0, none⟩ c0
      have HNP := hid hnp; clear hnp
      have HNR := hid (show some w1.heap.size ≠ (Value.slice a l.length cC).ownBlock from fun e => by
        obtain ⟨cur, hc⟩ := own_type HNP.out.row e.symm
        exact absurd (cells_type hc HNP.out.blk) (by decide))
      have HBD := hid (show Below wr.heap.size wr wr.drew from (Below.refl _ wr).drew)
      go_wp2_with fail
      go_region_law (first
        | (go_simp; go_at_call 72; refine (HR.out _ HBD.out).mono ?_; rintro e w3 ⟨⟨rb, rfl, hr3⟩, hb3⟩; have hb3' := Hid.out (below_drew_left hb3); clear hb3; replace c0 := keep hb3' c0; have hz3 := hb3'.size; have hb3l : w1.heap.size < w3.heap.size := (by omega); have hnw3 := World.new_ne w3 ⟨w1.heap.size, 0, none⟩ c0; have HX3 := hid (blk_keep HNP.out.blk hb3'); have HO3 := hid (owns_keep HNP.out.row hb3'); have HB3 := hid hb3'; have HR3 := hid hr3; clear hb3' hr3; have HBA := hid (show Below w3.heap.size w3 (w3.alloc (.cells #[.pointer (some ⟨rb, 0, none⟩)] 92)) from (Below.refl _ w3).alloc (Nat.le_refl _) _); dsimp only)
        | (refine step_app ptrC 1 8 116 92 (.pointer none) (by kernel_rfl) Tryz.underlying116 rfl (by omega) (fun _ => rfl) (by rfl) (.tmp 34) (.tmp 39) (by rfl) 0 (.slice a l.length cC) l (by rfl) (owns_keep HO3.out HBA.out) w3.heap.size 1 rb (by rfl) (cells_ptr (blk1 (blk_new w3 _))) (wf_ptr rb) (by omega) (by unfold maxLen; omega) (Nat.zero_le _) ?_; intro v4 w4 ho4 hg4 hn4; have HO4 := hid ho4; have HG4 := hid hg4; have HN4 := hid hn4; have hbl4 : w4.heap[w1.heap.size]? = w3.heap[w1.heap.size]? := ((hg4.block w1.heap.size (by simp; omega) (HNR.out)).trans (alloc_old_r _ _ hb3l)); have HX4 := hid (hbl4.trans HX3.out); clear hbl4 ho4 hg4 hn4; obtain ⟨a4, n4c, rfl, hl4, hc4, hf4⟩ := owns_form HO4.out; clear hl4 hc4 hf4; replace c0 := (blk2 HX4.out).1; have hfz4 := blk_fz HX4.out 0))
      all_goals go_wp2
      all_goals go_roundw
      all_goals first
        | (simp [intOf]; omega)
        | exact ⟨_, l ++ [rb], _, by simp; omega, by simp, HNP.out.step HB3.out HR3.out _ HO4.out HG4.out HN4.out⟩
        | trace_state
    · have HNP := hid hnp; clear hnp
      go_wp2
      go_ret2
      exact ⟨HNP.out.below, w1.heap.size, rfl, HNP.out.pr (by omega) h1 hN⟩

end Go.Proofs.YtnkpogjiiohapaaGreatDoor

/-! PRoomJ: The program's room: no such copy. -/
namespace Go.Proofs.YtnkpogjiiohapaaGreatDoor
open Go.RowKit
attribute [local go_sem ↓] Go.wp_at_zero Go.wp_at_succ

section
set_option maxRecDepth 1000000 in
set_option maxHeartbeats 1000000 in
theorem inObject_no {w : World} {r : Nat} {F : Nat → Prop} {N sp : Nat} {P : Nat → List POp} {gC cC bl : Nat} {rbs : Nat → Nat} {Fc : Nat → Nat → Prop} (h : PrAt w r F N sp P gC cC bl rbs Fc) (c : Int) (hc : ¬ (0 ≤ c ∧ c < N)) (x1 x2 : Int) (lst : Bool) :
    Calls Tryz.prog 56 #[.pointer (some ⟨r, 0, none⟩), .int .i64 c, .agg #[.int .i64 x1, .int .i64 x2], .bool lst] w fun e w' => Below w.heap.size w w' ∧ e = .returned (.tuple #[.pointer none, .int .i64 2]) := by
  have HB := hid ((Below.refl w.heap.size w).alloc (Nat.le_refl _) (.cells #[.int .i64 x1, .int .i64 x2] 36))
  have HC := hid (inCopy_no (h.keep HB.out) c hc)
  clear h hc
  go_enter Tryz.func56, Tryz.ntmps56
  go_wp2_with fail
  refine HC.out.mono ?_
  rintro e w0 ⟨rfl, hw0⟩
  subst hw0
  go_wp2
  go_ret2
  exact ⟨HB.out, rfl⟩

set_option maxRecDepth 1000000 in
set_option maxHeartbeats 1000000 in
theorem atKey_no {w : World} {r : Nat} {F : Nat → Prop} {N sp : Nat} {P : Nat → List POp} {gC cC bl : Nat} {rbs : Nat → Nat} {Fc : Nat → Nat → Prop} (h : PrAt w r F N sp P gC cC bl rbs Fc) (c : Int) (hc : ¬ (0 ≤ c ∧ c < N)) (x1 x2 : Int) (key : ByteArray) :
    Calls Tryz.prog 46 #[.pointer (some ⟨r, 0, none⟩), .int .i64 c, .agg #[.int .i64 x1, .int .i64 x2], .string key] w fun e w' => Below w.heap.size w w' ∧ e = .returned (.tuple #[.pointer none, .agg #[.int .i64 0, .int .i64 0, .string ⟨#[]⟩, .int .i64 0, .int .i64 0], .int .i64 2]) := by
  have HB := hid (((Below.refl w.heap.size w).alloc (Nat.le_refl _) (.cells #[.int .i64 x1, .int .i64 x2] 36)).alloc (by simp) (.cells #[.int .i64 0, .int .i64 0, .string ⟨#[]⟩, .int .i64 0, .int .i64 0] 97))
  have HY0 := hid (show ((w.alloc (.cells #[.int .i64 x1, .int .i64 x2] 36)).alloc (.cells #[.int .i64 0, .int .i64 0, .string ⟨#[]⟩, .int .i64 0, .int .i64 0] 97)).heap[w.heap.size + 1]? = some (.cells #[.int .i64 0, .int .i64 0, .string ⟨#[]⟩, .int .i64 0, .int .i64 0] 97 (0, 0)) from blk_at (by simp))
  have HIO := hid (inObject_no (h.keep HB.out) c hc x1 x2 false)
  clear h hc
  go_enter Tryz.func46, Tryz.ntmps46
  go_wp2_with fail
  refine HIO.out.mono ?_
  rintro e w1 ⟨hb1, rfl⟩
  have HY1 := hid (blk_keep HY0.out hb1)
  have HB1 := hid (HB.out.trans (hb1.mono HB.out.size)); clear hb1
  obtain ⟨y0, y1, y2, y3, y4⟩ := blk5 HY1.out
  have yf := blk_fz HY1.out
  have yl := blk_lt HY1.out
  go_wp2
  refine bodyPost_ret (v := .tuple #[.pointer none, .agg #[.int .i64 0, .int .i64 0, .string ⟨#[]⟩, .int .i64 0, .int .i64 0], .int .i64 2]) (by simp [results, Tryz.results46, go_sem, y0, y1, y2, y3, y4]) rfl ?_
  exact ⟨below5 HB1.out (by omega) _ _ _ _ _, rfl⟩

set_option maxRecDepth 1000000 in
set_option maxHeartbeats 1000000 in
theorem atElement_no {w : World} {r : Nat} {F : Nat → Prop} {N sp : Nat} {P : Nat → List POp} {gC cC bl : Nat} {rbs : Nat → Nat} {Fc : Nat → Nat → Prop} (h : PrAt w r F N sp P gC cC bl rbs Fc) (c : Int) (hc : ¬ (0 ≤ c ∧ c < N)) (x1 x2 i : Int) :
    Calls Tryz.prog 64 #[.pointer (some ⟨r, 0, none⟩), .int .i64 c, .agg #[.int .i64 x1, .int .i64 x2], .int .i64 i] w fun e w' => Below w.heap.size w w' ∧ e = .returned (.tuple #[.pointer none, .agg #[.int .i64 0, .int .i64 0, .string ⟨#[]⟩, .int .i64 0, .int .i64 0], .int .i64 2]) := by
  have HB := hid (((Below.refl w.heap.size w).alloc (Nat.le_refl _) (.cells #[.int .i64 x1, .int .i64 x2] 36)).alloc (by simp) (.cells #[.int .i64 0, .int .i64 0, .string ⟨#[]⟩, .int .i64 0, .int .i64 0] 97))
  have HY0 := hid (show ((w.alloc (.cells #[.int .i64 x1, .int .i64 x2] 36)).alloc (.cells #[.int .i64 0, .int .i64 0, .string ⟨#[]⟩, .int .i64 0, .int .i64 0] 97)).heap[w.heap.size + 1]? = some (.cells #[.int .i64 0, .int .i64 0, .string ⟨#[]⟩, .int .i64 0, .int .i64 0] 97 (0, 0)) from blk_at (by simp))
  have HIO := hid (inObject_no (h.keep HB.out) c hc x1 x2 true)
  clear h hc
  go_enter Tryz.func64, Tryz.ntmps64
  go_wp2_with fail
  refine HIO.out.mono ?_
  rintro e w1 ⟨hb1, rfl⟩
  have HY1 := hid (blk_keep HY0.out hb1)
  have HB1 := hid (HB.out.trans (hb1.mono HB.out.size)); clear hb1
  obtain ⟨y0, y1, y2, y3, y4⟩ := blk5 HY1.out
  have yf := blk_fz HY1.out
  have yl := blk_lt HY1.out
  go_wp2
  refine bodyPost_ret (v := .tuple #[.pointer none, .agg #[.int .i64 0, .int .i64 0, .string ⟨#[]⟩, .int .i64 0, .int .i64 0], .int .i64 2]) (by simp [results, Tryz.results64, go_sem, y0, y1, y2, y3, y4]) rfl ?_
  exact ⟨below5 HB1.out (by omega) _ _ _ _ _, rfl⟩

set_option maxRecDepth 1000000 in
set_option maxHeartbeats 1000000 in
theorem atGap_no {w : World} {r : Nat} {F : Nat → Prop} {N sp : Nat} {P : Nat → List POp} {gC cC bl : Nat} {rbs : Nat → Nat} {Fc : Nat → Nat → Prop} (h : PrAt w r F N sp P gC cC bl rbs Fc) (c : Int) (hc : ¬ (0 ≤ c ∧ c < N)) (x1 x2 i : Int) :
    Calls Tryz.prog 59 #[.pointer (some ⟨r, 0, none⟩), .int .i64 c, .agg #[.int .i64 x1, .int .i64 x2], .int .i64 i] w fun e w' => Below w.heap.size w w' ∧ e = .returned (.tuple #[.pointer none, .int .i64 2]) := by
  have HB := hid ((Below.refl w.heap.size w).alloc (Nat.le_refl _) (.cells #[.int .i64 x1, .int .i64 x2] 36))
  have HIO := hid (inObject_no (h.keep HB.out) c hc x1 x2 true)
  clear h hc
  go_enter Tryz.func59, Tryz.ntmps59
  go_wp2_with fail
  refine HIO.out.mono ?_
  rintro e w1 ⟨hb1, rfl⟩
  have HB1 := hid (HB.out.trans (hb1.mono HB.out.size)); clear hb1
  go_wp2
  go_ret2
  exact ⟨HB1.out, rfl⟩
end

section
set_option maxRecDepth 1000000 in
set_option maxHeartbeats 1000000 in
theorem prog_put_no {w : World} {r : Nat} {F : Nat → Prop} {N sp : Nat} {P : Nat → List POp} (h : isPr w r F N sp P) (c : Int) (hc : ¬ (0 ≤ c ∧ c < N)) (x1 x2 n : Int) (key : ByteArray) :
    Calls Tryz.prog 23 #[.pointer (some ⟨r, 0, none⟩), .int .i64 c, .agg #[.int .i64 x1, .int .i64 x2], .string key, .int .i64 n] w fun e w' => e = .returned (.int .i64 2) ∧ LeftPr F N sp P r w w' := by
  obtain ⟨gC, cC, bl, rbs, Fc, h⟩ := h
  have HB := hid ((Below.refl w.heap.size w).alloc (Nat.le_refl _) (.cells #[.int .i64 x1, .int .i64 x2] 36))
  have HA := hid (atKey_no (h.keep HB.out) c hc x1 x2 key)
  have HH := hid h; clear h hc
  go_enter Tryz.func23, Tryz.ntmps23
  go_wp2_with fail
  refine HA.out.mono ?_
  rintro e w1 ⟨hb1, rfl⟩
  have HB1 := hid (HB.out.trans (hb1.mono HB.out.size)); clear hb1
  have hz1 := HB1.out.size
  go_wp2
  go_ret
  exact ⟨rfl, HH.out.left (HB1.out.alloc hz1 _)⟩

set_option maxRecDepth 1000000 in
set_option maxHeartbeats 1000000 in
theorem prog_cut_no {w : World} {r : Nat} {F : Nat → Prop} {N sp : Nat} {P : Nat → List POp} (h : isPr w r F N sp P) (c : Int) (hc : ¬ (0 ≤ c ∧ c < N)) (x1 x2 : Int) (key : ByteArray) :
    Calls Tryz.prog 78 #[.pointer (some ⟨r, 0, none⟩), .int .i64 c, .agg #[.int .i64 x1, .int .i64 x2], .string key] w fun e w' => e = .returned (.int .i64 2) ∧ LeftPr F N sp P r w w' := by
  obtain ⟨gC, cC, bl, rbs, Fc, h⟩ := h
  have HB := hid ((Below.refl w.heap.size w).alloc (Nat.le_refl _) (.cells #[.int .i64 x1, .int .i64 x2] 36))
  have HA := hid (atKey_no (h.keep HB.out) c hc x1 x2 key)
  have HH := hid h; clear h hc
  go_enter Tryz.func78, Tryz.ntmps78
  go_wp2_with fail
  refine HA.out.mono ?_
  rintro e w1 ⟨hb1, rfl⟩
  have HB1 := hid (HB.out.trans (hb1.mono HB.out.size)); clear hb1
  have hz1 := HB1.out.size
  go_wp2
  go_ret
  exact ⟨rfl, HH.out.left (HB1.out.alloc hz1 _)⟩

set_option maxRecDepth 1000000 in
set_option maxHeartbeats 1000000 in
theorem prog_setAt_no {w : World} {r : Nat} {F : Nat → Prop} {N sp : Nat} {P : Nat → List POp} (h : isPr w r F N sp P) (c : Int) (hc : ¬ (0 ≤ c ∧ c < N)) (x1 x2 i n : Int) :
    Calls Tryz.prog 33 #[.pointer (some ⟨r, 0, none⟩), .int .i64 c, .agg #[.int .i64 x1, .int .i64 x2], .int .i64 i, .int .i64 n] w fun e w' => e = .returned (.int .i64 2) ∧ LeftPr F N sp P r w w' := by
  obtain ⟨gC, cC, bl, rbs, Fc, h⟩ := h
  have HB := hid ((Below.refl w.heap.size w).alloc (Nat.le_refl _) (.cells #[.int .i64 x1, .int .i64 x2] 36))
  have HA := hid (atElement_no (h.keep HB.out) c hc x1 x2 i)
  have HH := hid h; clear h hc
  go_enter Tryz.func33, Tryz.ntmps33
  go_wp2_with fail
  refine HA.out.mono ?_
  rintro e w1 ⟨hb1, rfl⟩
  have HB1 := hid (HB.out.trans (hb1.mono HB.out.size)); clear hb1
  have hz1 := HB1.out.size
  go_wp2
  go_ret
  exact ⟨rfl, HH.out.left (HB1.out.alloc hz1 _)⟩

set_option maxRecDepth 1000000 in
set_option maxHeartbeats 1000000 in
theorem prog_cutAt_no {w : World} {r : Nat} {F : Nat → Prop} {N sp : Nat} {P : Nat → List POp} (h : isPr w r F N sp P) (c : Int) (hc : ¬ (0 ≤ c ∧ c < N)) (x1 x2 i : Int) :
    Calls Tryz.prog 34 #[.pointer (some ⟨r, 0, none⟩), .int .i64 c, .agg #[.int .i64 x1, .int .i64 x2], .int .i64 i] w fun e w' => e = .returned (.int .i64 2) ∧ LeftPr F N sp P r w w' := by
  obtain ⟨gC, cC, bl, rbs, Fc, h⟩ := h
  have HB := hid ((Below.refl w.heap.size w).alloc (Nat.le_refl _) (.cells #[.int .i64 x1, .int .i64 x2] 36))
  have HA := hid (atElement_no (h.keep HB.out) c hc x1 x2 i)
  have HH := hid h; clear h hc
  go_enter Tryz.func34, Tryz.ntmps34
  go_wp2_with fail
  refine HA.out.mono ?_
  rintro e w1 ⟨hb1, rfl⟩
  have HB1 := hid (HB.out.trans (hb1.mono HB.out.size)); clear hb1
  have hz1 := HB1.out.size
  go_wp2
  go_ret
  exact ⟨rfl, HH.out.left (HB1.out.alloc hz1 _)⟩

set_option maxRecDepth 1000000 in
set_option maxHeartbeats 1000000 in
theorem prog_nest_no {w : World} {r : Nat} {F : Nat → Prop} {N sp : Nat} {P : Nat → List POp} (h : isPr w r F N sp P) (c : Int) (hc : ¬ (0 ≤ c ∧ c < N)) (x1 x2 : Int) (key : ByteArray) (lst : Bool) :
    Calls Tryz.prog 38 #[.pointer (some ⟨r, 0, none⟩), .int .i64 c, .agg #[.int .i64 x1, .int .i64 x2], .string key, .bool lst] w fun e w' => e = .returned (.tuple #[.agg #[.int .i64 0, .int .i64 0], .int .i64 2]) ∧ LeftPr F N sp P r w w' := by
  obtain ⟨gC, cC, bl, rbs, Fc, h⟩ := h
  have HB := hid (((Below.refl w.heap.size w).alloc (Nat.le_refl _) (.cells #[.int .i64 x1, .int .i64 x2] 36)).alloc (by simp) (.cells #[.int .i64 0, .int .i64 0] 36))
  have HY0 := hid (show ((w.alloc (.cells #[.int .i64 x1, .int .i64 x2] 36)).alloc (.cells #[.int .i64 0, .int .i64 0] 36)).heap[w.heap.size + 1]? = some (.cells #[.int .i64 0, .int .i64 0] 36 (0, 0)) from blk_at (by simp))
  have HA := hid (atKey_no (h.keep HB.out) c hc x1 x2 key)
  have HH := hid h; clear h hc
  go_enter Tryz.func38, Tryz.ntmps38
  go_wp2_with fail
  refine HA.out.mono ?_
  rintro e w1 ⟨hb1, rfl⟩
  have HY1 := hid (blk_keep HY0.out hb1)
  have HB1 := hid (HB.out.trans (hb1.mono HB.out.size)); clear hb1
  have hz1 := HB1.out.size
  obtain ⟨y0, y1⟩ := blk2 HY1.out
  have yf := blk_fz HY1.out
  have hyl := blk_lt HY1.out
  have hny := World.new_ne w1 ⟨w.heap.size + 1, 0, none⟩ y0
  obtain ⟨z0, z1⟩ := res01 HY1.out (.int .i64 0) (.int .i64 0) (.cells #[.int .i64 0, .int .i64 0, .string ⟨#[]⟩, .int .i64 0, .int .i64 0] 97)
  go_wp2
  refine bodyPost_ret (v := .tuple #[.agg #[.int .i64 0, .int .i64 0], .int .i64 2]) (by simp [results, Tryz.results38, go_sem, z0, z1]) rfl ?_
  exact ⟨rfl, HH.out.left (((HB1.out.setCell (show w.heap.size ≤ w.heap.size + 1 by omega) _).setCell (show w.heap.size ≤ w.heap.size + 1 by omega) _).alloc (by simp [World.setCell]; omega) _)⟩

set_option maxRecDepth 1000000 in
set_option maxHeartbeats 1000000 in
theorem prog_insert_no {w : World} {r : Nat} {F : Nat → Prop} {N sp : Nat} {P : Nat → List POp} (h : isPr w r F N sp P) (c : Int) (hc : ¬ (0 ≤ c ∧ c < N)) (x1 x2 i n : Int) :
    Calls Tryz.prog 32 #[.pointer (some ⟨r, 0, none⟩), .int .i64 c, .agg #[.int .i64 x1, .int .i64 x2], .int .i64 i, .int .i64 n] w fun e w' => e = .returned (.tuple #[.agg #[.int .i64 0, .int .i64 0], .int .i64 2]) ∧ LeftPr F N sp P r w w' := by
  obtain ⟨gC, cC, bl, rbs, Fc, h⟩ := h
  have HB := hid (((Below.refl w.heap.size w).alloc (Nat.le_refl _) (.cells #[.int .i64 x1, .int .i64 x2] 36)).alloc (by simp) (.cells #[.int .i64 0, .int .i64 0] 36))
  have HY0 := hid (show ((w.alloc (.cells #[.int .i64 x1, .int .i64 x2] 36)).alloc (.cells #[.int .i64 0, .int .i64 0] 36)).heap[w.heap.size + 1]? = some (.cells #[.int .i64 0, .int .i64 0] 36 (0, 0)) from blk_at (by simp))
  have HA := hid (atGap_no (h.keep HB.out) c hc x1 x2 i)
  have HH := hid h; clear h hc
  go_enter Tryz.func32, Tryz.ntmps32
  go_wp2_with fail
  refine HA.out.mono ?_
  rintro e w1 ⟨hb1, rfl⟩
  have HY1 := hid (blk_keep HY0.out hb1)
  have HB1 := hid (HB.out.trans (hb1.mono HB.out.size)); clear hb1
  have hz1 := HB1.out.size
  obtain ⟨y0, y1⟩ := blk2 HY1.out
  have yf := blk_fz HY1.out
  have hyl := blk_lt HY1.out
  have hny := World.new_ne w1 ⟨w.heap.size + 1, 0, none⟩ y0
  go_wp2
  refine bodyPost_ret (v := .tuple #[.agg #[.int .i64 0, .int .i64 0], .int .i64 2]) (by simp [results, Tryz.results32, go_sem, y0, y1]) rfl ?_
  exact ⟨rfl, HH.out.left ((HB1.out.setCell (show w.heap.size ≤ w.heap.size + 1 by omega) _).setCell (show w.heap.size ≤ w.heap.size + 1 by omega) _)⟩

set_option maxRecDepth 1000000 in
set_option maxHeartbeats 1000000 in
theorem prog_nestAt_no {w : World} {r : Nat} {F : Nat → Prop} {N sp : Nat} {P : Nat → List POp} (h : isPr w r F N sp P) (c : Int) (hc : ¬ (0 ≤ c ∧ c < N)) (x1 x2 i : Int) (lst : Bool) :
    Calls Tryz.prog 99 #[.pointer (some ⟨r, 0, none⟩), .int .i64 c, .agg #[.int .i64 x1, .int .i64 x2], .int .i64 i, .bool lst] w fun e w' => e = .returned (.tuple #[.agg #[.int .i64 0, .int .i64 0], .int .i64 2]) ∧ LeftPr F N sp P r w w' := by
  obtain ⟨gC, cC, bl, rbs, Fc, h⟩ := h
  have HB := hid (((Below.refl w.heap.size w).alloc (Nat.le_refl _) (.cells #[.int .i64 x1, .int .i64 x2] 36)).alloc (by simp) (.cells #[.int .i64 0, .int .i64 0] 36))
  have HY0 := hid (show ((w.alloc (.cells #[.int .i64 x1, .int .i64 x2] 36)).alloc (.cells #[.int .i64 0, .int .i64 0] 36)).heap[w.heap.size + 1]? = some (.cells #[.int .i64 0, .int .i64 0] 36 (0, 0)) from blk_at (by simp))
  have HA := hid (atGap_no (h.keep HB.out) c hc x1 x2 i)
  have HH := hid h; clear h hc
  go_enter Tryz.func99, Tryz.ntmps99
  go_wp2_with fail
  refine HA.out.mono ?_
  rintro e w1 ⟨hb1, rfl⟩
  have HY1 := hid (blk_keep HY0.out hb1)
  have HB1 := hid (HB.out.trans (hb1.mono HB.out.size)); clear hb1
  have hz1 := HB1.out.size
  obtain ⟨y0, y1⟩ := blk2 HY1.out
  have yf := blk_fz HY1.out
  have hyl := blk_lt HY1.out
  have hny := World.new_ne w1 ⟨w.heap.size + 1, 0, none⟩ y0
  go_wp2
  refine bodyPost_ret (v := .tuple #[.agg #[.int .i64 0, .int .i64 0], .int .i64 2]) (by simp [results, Tryz.results99, go_sem, y0, y1]) rfl ?_
  exact ⟨rfl, HH.out.left ((HB1.out.setCell (show w.heap.size ≤ w.heap.size + 1 by omega) _).setCell (show w.heap.size ≤ w.heap.size + 1 by omega) _)⟩

set_option maxRecDepth 1000000 in
set_option maxHeartbeats 1000000 in
theorem prog_elements_no {w : World} {r : Nat} {F : Nat → Prop} {N sp : Nat} {P : Nat → List POp} (h : isPr w r F N sp P) (c : Int) (hc : ¬ (0 ≤ c ∧ c < N)) (x1 x2 : Int) :
    Calls Tryz.prog 29 #[.pointer (some ⟨r, 0, none⟩), .int .i64 c, .agg #[.int .i64 x1, .int .i64 x2]] w fun e w' => e = .returned (.tuple #[.slice none 0 0, .int .i64 2]) ∧ LeftPr F N sp P r w w' := by
  obtain ⟨gC, cC, bl, rbs, Fc, h⟩ := h
  have HB := hid ((Below.refl w.heap.size w).alloc (Nat.le_refl _) (.cells #[.int .i64 x1, .int .i64 x2] 36))
  have HA := hid (inObject_no (h.keep HB.out) c hc x1 x2 true)
  have HH := hid h; clear h hc
  go_enter Tryz.func29, Tryz.ntmps29
  go_wp2_with fail
  refine HA.out.mono ?_
  rintro e w1 ⟨hb1, rfl⟩
  have HB1 := hid (HB.out.trans (hb1.mono HB.out.size)); clear hb1
  go_wp2
  go_ret2
  exact ⟨rfl, HH.out.left HB1.out⟩

set_option maxRecDepth 1000000 in
set_option maxHeartbeats 1000000 in
theorem prog_values_no {w : World} {r : Nat} {F : Nat → Prop} {N sp : Nat} {P : Nat → List POp} (h : isPr w r F N sp P) (c : Int) (hc : ¬ (0 ≤ c ∧ c < N)) (x1 x2 : Int) (key : ByteArray) :
    Calls Tryz.prog 24 #[.pointer (some ⟨r, 0, none⟩), .int .i64 c, .agg #[.int .i64 x1, .int .i64 x2], .string key] w fun e w' => e = .returned (.tuple #[.slice none 0 0, .int .i64 2]) ∧ LeftPr F N sp P r w w' := by
  obtain ⟨gC, cC, bl, rbs, Fc, h⟩ := h
  have HB := hid ((Below.refl w.heap.size w).alloc (Nat.le_refl _) (.cells #[.int .i64 x1, .int .i64 x2] 36))
  have HA := hid (atKey_no (h.keep HB.out) c hc x1 x2 key)
  have HH := hid h; clear h hc
  go_enter Tryz.func24, Tryz.ntmps24
  go_wp2_with fail
  refine HA.out.mono ?_
  rintro e w1 ⟨hb1, rfl⟩
  have HB1 := hid (HB.out.trans (hb1.mono HB.out.size)); clear hb1
  have hz1 := HB1.out.size
  go_wp2
  go_ret2
  exact ⟨rfl, HH.out.left (HB1.out.alloc hz1 _)⟩

set_option maxRecDepth 1000000 in
set_option maxHeartbeats 1000000 in
theorem prog_show_no {w : World} {r : Nat} {F : Nat → Prop} {N sp : Nat} {P : Nat → List POp} (h : isPr w r F N sp P) (c : Int) (hc : ¬ (0 ≤ c ∧ c < N)) :
    Calls Tryz.prog 28 #[.pointer (some ⟨r, 0, none⟩), .int .i64 c] w fun e w' => e = .returned (.tuple #[.string ⟨#[]⟩, .int .i64 2]) ∧ LeftPr F N sp P r w w' := by
  obtain ⟨gC, cC, bl, rbs, Fc, h⟩ := h
  have HA := hid (inCopy_no h c hc)
  have HH := hid h; clear h hc
  go_enter Tryz.func28, Tryz.ntmps28
  go_wp2_with fail
  refine HA.out.mono ?_
  rintro e w1 ⟨rfl, hw⟩
  subst hw
  go_wp2
  go_ret2
  exact ⟨rfl, HH.out.left (Below.refl _ _)⟩
end

end Go.Proofs.YtnkpogjiiohapaaGreatDoor

/-! PTextA: Numbers as text, texts joined, keys sorted: the library's contracts on our rows. -/
namespace Go.Proofs.YtnkpogjiiohapaaGreatDoor
open Go.RowKit

/-- The table of powers lies where the library looks it up. -/
def Pow (w : World) : Prop := Lib.TabIs Tryz.prog w "internal/strconv.uint64pow10" .u64 Lib.pow10Tab
theorem Pow.keep {w w' : World} (h : Pow w) (hb : Below w.heap.size w w') : Pow w' := Lib.tabBelow_of_tabIs h w' hb

theorem itoa_q (n : Int) (hn : intOk n) {w : World} (h : Pow w) : Calls Tryz.prog 206 #[.int .i64 n] w fun e w' => e = .returned (.string (numText n)) ∧ Below w.heap.size w w' :=
  (Tryz.strconv_Itoa n hn.1 hn.2 w h).mono fun e w' hh => by
    obtain ⟨h1, k, os, h2⟩ := hh
    exact ⟨h1, by rw [h2]; exact Lib.below_grow _ w (Nat.le_refl _) k os⟩

theorem join_data (sep : ByteArray) (l : List ByteArray) : (⟨(Lib.join (l.map (·.data.toList)) sep.data.toList).toArray⟩ : ByteArray) = joinB sep l := by
  cases l with
  | nil => rfl
  | cons x l =>
    apply ByteArray.ext
    apply Array.toList_inj.1
    simp only [List.map_cons, Lib.join_cons, joinB]
    have : ∀ (l : List ByteArray) (a : ByteArray), (l.foldl (fun s y => (s ++ sep) ++ y) a).data.toList = a.data.toList ++ Lib.joinTail sep.data.toList (l.map (·.data.toList)) := by
      intro l
      induction l with
      | nil => intro a; simp [Lib.joinTail]
      | cons y l ih =>
        intro a
        rw [List.foldl_cons, ih]
        simp [Lib.joinTail, ByteArray.data_append, List.append_assoc]
    rw [this]

theorem strC_len (l : List ByteArray) : (l.flatMap strC).length = l.length := by unfold strC; rw [← List.map_eq_flatMap]; simp
theorem strs_cells {B : Nat} {w : World} {g cap : Nat} {l : List ByteArray} (h : ownStrs B w (.slice (some ⟨g, 0, none⟩) l.length cap) l) (j : Nat) (x : ByteArray) (hx : l[j]? = some x) : w.cell? ⟨g, 0 + j, none⟩ = some (.string x) := by
  obtain ⟨hj, rfl⟩ := List.getElem?_eq_some_iff.1 hx
  have h1 := World.ownsRow.cellAt h j (by omega)
  rw [Nat.zero_add, h1]
  have : l.flatMap strC = l.map Value.string := by unfold strC; exact List.map_eq_flatMap.symm
  rw [this]
  simp [hj]
theorem join_q {B : Nat} {w : World} {v : Value} {l : List ByteArray} (h : ownStrs B w v l) (sep : ByteArray) (hl : l.length ≤ 10000) (hs : (joinB sep l).size ≤ 140737488355328) :
    Calls Tryz.prog 168 #[v, .string sep] w fun e w' => e = .returned (.string (joinB sep l)) ∧ Below w.heap.size w w' := by
  obtain ⟨a, c, rfl, hlc, hcm, hf⟩ := owns_form h
  cases l with
  | nil => exact (Tryz.strings_Join_none a c sep w).mono fun e w' hh => ⟨hh.1, by rw [hh.2]; exact Below.refl _ _⟩
  | cons x l =>
    obtain ⟨g, rfl⟩ := hf 0 (by simp)
    have hd := join_data sep (x :: l)
    have hz : (Lib.join ((x :: l).map (·.data.toList)) sep.data.toList).length ≤ 140737488355328 := by
      have := congrArg (fun z : ByteArray => z.data.size) hd
      simp only [List.size_toArray] at this
      rw [this]; exact hs
    have := Tryz.strings_Join g 0 c (x :: l) sep w (strs_cells h) (World.ownsRow.lt h g rfl).2 (by omega) hlc hz
    rw [hd] at this
    exact this

/-- The keys in their order. -/
def srtB (l : List ByteArray) : List ByteArray := ((l.map (·.data.toList)).mergeSort fun x y => decide (x ≤ y)).map fun x => ⟨x.toArray⟩
theorem srtB_len (l : List ByteArray) : (srtB l).length = l.length := by unfold srtB; simp
theorem back_id (l : List ByteArray) : (l.map (·.data.toList)).map (fun x => (⟨x.toArray⟩ : ByteArray)) = l := by
  rw [List.map_map]
  refine (List.map_congr_left (g := id) fun a _ => ?_).trans (List.map_id l)
  rfl
theorem le_trans_b (a b c : List UInt8) : decide (a ≤ b) = true → decide (b ≤ c) = true → decide (a ≤ c) = true := fun h1 h2 => by
  simp only [decide_eq_true_eq] at *
  exact List.le_trans h1 h2
theorem le_total_b (a b : List UInt8) : (decide (a ≤ b) || decide (b ≤ a)) = true := by
  simp only [Bool.or_eq_true, decide_eq_true_eq]
  exact List.le_total a b
theorem srtB_perm (l : List ByteArray) : (srtB l).Perm l := by
  unfold srtB
  have := (List.mergeSort_perm (l.map (·.data.toList)) (fun x y => decide (x ≤ y))).map (fun x => (⟨x.toArray⟩ : ByteArray))
  rw [back_id] at this
  exact this
theorem srtB_sorted (l : List ByteArray) : (srtB l).Pairwise fun a b => a.data.toList ≤ b.data.toList := by
  unfold srtB
  rw [List.pairwise_map]
  refine (List.pairwise_mergeSort (le := fun x y => decide (x ≤ y)) le_trans_b le_total_b (l.map (·.data.toList))).imp fun {a b} h => ?_
  simpa using h
theorem bytes_anti {a b : ByteArray} (h1 : a.data.toList ≤ b.data.toList) (h2 : b.data.toList ≤ a.data.toList) : a = b := by
  apply ByteArray.ext
  apply Array.toList_inj.1
  exact List.le_antisymm h1 h2
theorem srtB_eq {l m : List ByteArray} (hp : l.Perm m) (hs : m.Pairwise fun a b => a.data.toList ≤ b.data.toList) : srtB l = m :=
  List.Perm.eq_of_pairwise (le := fun a b => a.data.toList ≤ b.data.toList) (fun a b _ _ h1 h2 => bytes_anti h1 h2) (srtB_sorted l) hs ((srtB_perm l).trans hp)
theorem srtB_cong (l m : List ByteArray) (hp : l.Perm m) : srtB l = srtB m := srtB_eq (hp.trans (srtB_perm m).symm) (srtB_sorted m)
theorem less_le : ∀ (a b : List UInt8), Op.bytesLess b a = false → a ≤ b
  | [], b, _ => List.nil_le b
  | x :: a, [], h => by simp [Op.bytesLess] at h
  | x :: a, y :: b, h => by
    simp [Op.bytesLess, UInt8.lt_iff_toNat_lt, UInt8.le_iff_toNat_le] at h
    rw [List.cons_le_cons_iff]
    by_cases e : x = y
    · subst e
      exact .inr ⟨rfl, less_le a b (h.2 rfl)⟩
    · refine .inl ?_
      rw [UInt8.lt_iff_toNat_lt]
      have : x.toNat ≠ y.toNat := fun h' => e (UInt8.toNat_inj.1 h')
      omega

theorem sort_q (B : Nat) (W : World) (v : Value) (l : List ByteArray) (h : ownStrs B W v l) (hl : l.length ≤ 10000) :
    Calls Tryz.prog 188 #[v] W fun e W' => (∃ r, e = .returned r) ∧ ownStrs B W' v (srtB l) ∧ W.grownBy W' v.ownBlock := by
  obtain ⟨a, c, e, hlc, hcm, hf⟩ := owns_form h
  cases l with
  | nil =>
    subst e
    refine (Tryz.slices_Sort_string_none a c W).mono fun e W' hh => ?_
    obtain ⟨h1, rfl⟩ := hh
    have hnil : srtB [] = [] := by simp [srtB]
    exact ⟨⟨_, h1⟩, by rw [hnil]; exact h, rfl, rfl, rfl, Nat.le_refl _, fun _ _ _ => rfl⟩
  | cons x l =>
    obtain ⟨g, rfl⟩ := hf 0 (by simp)
    subst e
    rcases h.2 with ⟨h1, _⟩ | ⟨g', cap, cur, e, hb, hg, hnc, hcm', hcs, htake⟩
    · cases h1
    · cases e
      have hlen : ((x :: l).map (·.data.toList)).length = (x :: l).length := by simp
      have hH : Go.Sort.Holds encStr W g 0 ((x :: l).map (·.data.toList)).toArray := fun j hj => by
        have hj' : j < (x :: l).length := by simpa using hj
        refine ⟨?_, by simp [World.frozen?, hg]⟩
        rw [strs_cells h j (x :: l)[j] (by simp [hj'])]
        rw [getElem!_pos _ j hj]
        simp only [List.getElem_toArray, List.getElem_map]
      have hc := Tryz.slices_Sort_string g 0 c ((x :: l).map (·.data.toList)) W hH (blk_lt hg) (by rw [hlen]; omega)
      rw [hlen] at hc
      refine hc.mono fun e W' hh => ?_
      obtain ⟨h1, n, os, rfl⟩ := hh
      generalize hd : (((x :: l).map (·.data.toList)).mergeSort fun x y => decide (x ≤ y)) = d
      have hdl : d.length = (x :: l).length := by rw [← hd]; simp
      have hsr : srtB (x :: l) = d.map fun x => ⟨x.toArray⟩ := by unfold srtB; rw [hd]
      have hgl := blk_lt hg
      have hblk : (Go.Sort.grow (Go.Sort.putRow encStr (Go.Sort.ahead W n) g 0 d.toArray) os).heap[g]? = some (.cells (Go.Sort.putCells encStr 0 d.toArray cur) 9 (0, 0)) := by
        obtain ⟨_, hge⟩ := Array.getElem?_eq_some_iff.1 hg
        simp [Go.Sort.grow, Go.Sort.putRow, Go.Sort.mapBlock, Go.Sort.ahead, Array.getElem?_append, Array.getElem_modify, hge, Go.Sort.onCells, hgl]
      refine ⟨⟨_, h1⟩, ⟨?_, .inr ⟨g, c, _, ?_, hb, hblk, ?_, hcm', ?_, ?_⟩⟩, rfl, rfl, rfl, ?_, ?_⟩
      · rw [strC_len]; simp
      · rw [srtB_len]
      · rw [srtB_len]; exact hnc
      · simp only [Go.Sort.putCells, Array.size_mapIdx]; exact hcs
      · rw [srtB_len, hsr]
        apply List.ext_getElem?
        intro i
        have hcl : (x :: l).length ≤ cur.size := by omega
        by_cases hi : i < (x :: l).length
        · have h2 : i < cur.size := by omega
          have h3 : i < d.length := by omega
          rw [List.getElem?_take_of_lt (by omega)]
          simp only [Go.Sort.putCells]
          have hfm : ((d.map fun x => (⟨x.toArray⟩ : ByteArray)).flatMap strC) = d.map encStr := by
            unfold strC
            rw [← List.map_eq_flatMap, List.map_map]
            rfl
          rw [hfm]
          simp [h2, h3]
        · have h4 : ((d.map fun x => (⟨x.toArray⟩ : ByteArray)).flatMap strC).length = (x :: l).length := by rw [strC_len, List.length_map, hdl]
          rw [List.getElem?_eq_none (by rw [List.length_take]; omega), List.getElem?_eq_none (by omega)]
      · simp [Go.Sort.grow, Go.Sort.putRow, Go.Sort.mapBlock, Go.Sort.ahead]
      · intro k hk hne
        have hkg : g ≠ k := fun e => hne (by rw [← e]; rfl)
        simp [Go.Sort.grow, Go.Sort.putRow, Go.Sort.mapBlock, Go.Sort.ahead, Array.getElem?_append, Array.getElem_modify, hkg, hk]

end Go.Proofs.YtnkpogjiiohapaaGreatDoor

/-! PLawA: The law's small functions: pick, sameIds, sameValues. -/
namespace Go.Proofs.YtnkpogjiiohapaaGreatDoor
open Go.RowKit
attribute [local go_sem ↓] Go.wp_at_zero Go.wp_at_succ

def pickN (c : Int) (n : Nat) : Nat := (if c < 0 then -(c + 1) else c).toNat % n
theorem pickN_lt (c : Int) {n : Nat} (h : 0 < n) : pickN c n < n := Nat.mod_lt _ h

set_option maxRecDepth 1000000 in
theorem pick_q (c : Int) (n : Nat) (h1 : -9223372036854775808 ≤ c) (h2 : c ≤ 9223372036854775807) (hn : 0 < n) (hm : n ≤ 9223372036854775807) (w : World) :
    Calls Tryz.prog 67 #[.int .i64 c, .int .i64 n] w fun e w' => e = .returned (.int .i64 (pickN c n)) ∧ w' = w := by
  unfold pickN
  by_cases h : c < 0
  · rw [if_pos h]
    go_enter Tryz.func67, Tryz.ntmps67
    go_wp2
    go_ret
    refine ⟨?_, rfl⟩
    simp
    rw [← Int.neg_tmod, Int.tmod_eq_emod_of_nonneg (by omega)]
    have : max (-(c + 1)) 0 = -(c + 1) := by omega
    rw [this]
  · rw [if_neg h]
    go_enter Tryz.func67, Tryz.ntmps67
    go_wp2
    go_ret
    refine ⟨?_, rfl⟩
    have : max c 0 = c := by omega
    simp [this]

set_option maxRecDepth 1000000 in
set_option maxHeartbeats 800000 in
theorem sameIds_q {w : World} {a b : Value} {l : List PId} (ha : isIds w a l) (hb : isIds w b l) :
    Calls Tryz.prog 105 #[a, b] w fun e w' => e = .returned (.bool true) ∧ Below w.heap.size w w' := by
  obtain ⟨aa, ac, rfl, hal, ham, haf⟩ := owns_form ha
  obtain ⟨ba, bc, rfl, hbl, hbm, hbf⟩ := owns_form hb
  unfold maxLen at ham hbm
  have HA := hid ha; clear ha
  have HB := hid hb; clear hb
  have HAF := hid haf; clear haf
  have HBF := hid hbf; clear hbf
  go_enter Tryz.func105, Tryz.ntmps105
  go_wp2
  go_loopw [5] (fun i wr => ∃ k : Nat, k ≤ l.length ∧ i = .int .i64 k ∧ Below w.heap.size w wr) (fun i _ => l.length - (intOf i).toNat)
  case atStart => exact ⟨0, Nat.zero_le _, rfl, Below.refl _ _⟩
  case round =>
    obtain ⟨k, hk, rfl, hbel⟩ := hrel
    by_cases hlt : k < l.length
    · obtain ⟨g, rfl⟩ := HAF.out k hlt
      obtain ⟨g', rfl⟩ := HBF.out k hlt
      obtain ⟨c0, c1⟩ := isIds.cells HA.out (by simp) k hlt
      obtain ⟨d0, d1⟩ := isIds.cells HB.out (by simp) k hlt
      replace c0 := keep hbel c0
      replace c1 := keep hbel c1
      replace d0 := keep hbel d0
      replace d1 := keep hbel d1
      have heq := run_idNe
      have hne : (!idEq l[k].1 l[k].2 l[k].1 l[k].2) = false := by simp [idEq]
      go_wp2
      go_region
      all_goals go_wp2
      all_goals go_roundw
      case rel => exact ⟨k + 1, by omega, by go_num, hbel.drew⟩
      case measure => simp [intOf]; omega
    · go_wp2
      go_ret
      exact ⟨rfl, hbel⟩

def isVals3 (w : World) (v : Value) (l : List PVal) : Prop := w.ownsRow 0 57 3 v l.length (l.flatMap valC)
theorem ownVals.vals {B : Nat} {w : World} {v : Value} {l : List PVal} (h : ownVals B w v l) : isVals3 w v l := owns_mono h (Nat.zero_le _)
theorem isVals3.cells {w : World} {g n cap : Nat} {l : List PVal} (h : isVals3 w (.slice (some ⟨g, 0, none⟩) n cap) l) (hn : n = l.length) (i : Nat) (hi : i < l.length) :
    w.cell? ⟨g, i * 3, none⟩ = some (.int .i64 l[i].1) ∧ w.cell? ⟨g, i * 3 + 1, none⟩ = some (.int .i64 l[i].2.1) ∧ w.cell? ⟨g, i * 3 + 2, none⟩ = some (.int .i64 l[i].2.2) := by
  subst hn
  have hc := fun j (hj : j < 3) => World.ownsRow.cellAt h (i * 3 + j) (by omega)
  have hf : ∀ (l : List PVal) (k : Nat) (hk : k < l.length) (j : Nat), j < 3 → (l.flatMap valC)[k * 3 + j]? = (valC l[k])[j]? := by
    intro l
    induction l with
    | nil => intro k hk; simp at hk
    | cons x l ih =>
      intro k hk j hj
      cases k with
      | zero => rw [List.flatMap_cons, List.getElem?_append_left (by simp [valC]; omega)]; simp
      | succ k =>
        rw [List.flatMap_cons, List.getElem?_append_right (by simp [valC]; omega), show (valC x).length = 3 from rfl, show (k + 1) * 3 + j - 3 = k * 3 + j by omega]
        exact ih k (by simpa using hk) j hj
  refine ⟨?_, ?_, ?_⟩
  · have := (hc 0 (by omega)).trans (hf l i hi 0 (by omega)); simpa [valC] using this
  · have := (hc 1 (by omega)).trans (hf l i hi 1 (by omega)); simpa [valC] using this
  · have := (hc 2 (by omega)).trans (hf l i hi 2 (by omega)); simpa [valC] using this
def valEq (a b c d e f : Int) : Bool := decide (a = d ∧ b = e ∧ c = f)
theorem run_valNe (a b c d e f : Int) (W : World) : (binOp .neq 57 (.agg #[.int .i64 a, .int .i64 b, .int .i64 c]) (.agg #[.int .i64 d, .int .i64 e, .int .i64 f])).run Tryz.prog W = .ok (.bool (!valEq a b c d e f)) W := by
  go_simp
  unfold valEq
  by_cases h1 : a = d <;> by_cases h2 : b = e <;> by_cases h3 : c = f <;> simp [h1, h2, h3]

set_option maxRecDepth 1000000 in
set_option maxHeartbeats 800000 in
theorem sameValues_q {w : World} {a b : Value} {l : List PVal} (ha : isVals3 w a l) (hb : isVals3 w b l) :
    Calls Tryz.prog 108 #[a, b] w fun e w' => e = .returned (.bool true) ∧ Below w.heap.size w w' := by
  obtain ⟨aa, ac, rfl, hal, ham, haf⟩ := owns_form ha
  obtain ⟨ba, bc, rfl, hbl, hbm, hbf⟩ := owns_form hb
  unfold maxLen at ham hbm
  have HA := hid ha; clear ha
  have HB := hid hb; clear hb
  have HAF := hid haf; clear haf
  have HBF := hid hbf; clear hbf
  go_enter Tryz.func108, Tryz.ntmps108
  go_wp2
  go_loopw [5] (fun i wr => ∃ k : Nat, k ≤ l.length ∧ i = .int .i64 k ∧ Below w.heap.size w wr) (fun i _ => l.length - (intOf i).toNat)
  case atStart => exact ⟨0, Nat.zero_le _, rfl, Below.refl _ _⟩
  case round =>
    obtain ⟨k, hk, rfl, hbel⟩ := hrel
    by_cases hlt : k < l.length
    · obtain ⟨g, rfl⟩ := HAF.out k hlt
      obtain ⟨g', rfl⟩ := HBF.out k hlt
      obtain ⟨c0, c1, c2⟩ := isVals3.cells HA.out (by simp) k hlt
      obtain ⟨d0, d1, d2⟩ := isVals3.cells HB.out (by simp) k hlt
      replace c0 := keep hbel c0
      replace c1 := keep hbel c1
      replace c2 := keep hbel c2
      replace d0 := keep hbel d0
      replace d1 := keep hbel d1
      replace d2 := keep hbel d2
      have heq := run_valNe
      have hne : (!valEq l[k].1 l[k].2.1 l[k].2.2 l[k].1 l[k].2.1 l[k].2.2) = false := by simp [valEq]
      go_wp2
      go_region
      all_goals go_wp2
      all_goals go_roundw
      case rel => exact ⟨k + 1, by omega, by go_num, hbel.drew⟩
      case measure => simp [intOf]; omega
    · go_wp2
      go_ret
      exact ⟨rfl, hbel⟩

end Go.Proofs.YtnkpogjiiohapaaGreatDoor
