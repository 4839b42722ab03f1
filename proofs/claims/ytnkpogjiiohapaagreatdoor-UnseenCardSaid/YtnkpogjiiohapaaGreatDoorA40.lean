/- Our own text (QLawH, QLawI, QLawL). -/
import Derived.Test.YtnkpogjiiohapaaGreatDoorA39
set_option linter.unusedSimpArgs false
set_option linter.unusedVariables false

/-! QLawH: quirekeep: what happens on links, each as a step. -/
namespace Go.Proofs.YtnkpogjiiohapaaGreatDoor
open Go.RowKit

theorem toN_lt (s : Stp) {N : Nat} (h : 0 < N) : toN s N < N := Nat.mod_lt _ h
theorem toN_ne (s : Stp) {N : Nat} (h : 2 ≤ N) : pickN s.c N ≠ toN s N := by
  have h1 := pickN_lt s.c (show 0 < N by omega)
  have h2 := pickN_lt s.d (show 0 < N - 1 by omega)
  unfold toN
  generalize pickN s.c N = a at *
  generalize pickN s.d (N - 1) = b at *
  by_cases hl : a + 1 + b < N
  · rw [Nat.mod_eq_of_lt hl]; omega
  · rw [Nat.mod_eq_sub_mod (by omega), Nat.mod_eq_of_lt (by omega)]; omega
theorem askS_went (N : Nat) (M : Nat → List MOp) (s : RoomS) (c d : Nat) : Went N M s none M (askS N s c d) := by
  refine Went.same ?_ ?_ <;> (unfold askS; split <;> rfl)
theorem loseS_went (N : Nat) (M : Nat → List MOp) (s : RoomS) (c d : Nat) : Went N M s none M (loseS s c d) := by
  refine Went.same ?_ ?_ <;> (unfold loseS; split <;> rfl)
theorem laterS_went (N : Nat) (M : Nat → List MOp) (s : RoomS) (c d : Nat) : Went N M s none M (laterS s c d) := by
  refine Went.same ?_ ?_ <;> (unfold laterS; split <;> rfl)
theorem againS_went (N : Nat) (M : Nat → List MOp) (s : RoomS) (c d : Nat) : Went N M s none M (againS s c d) := by
  refine Went.same ?_ ?_ <;> (unfold againS; split <;> first | rfl | (split <;> rfl))
theorem deliver_went {N : Nat} {M : Nat → List MOp} {s s' : RoomS} {c d : Nat} (h : DeliverTo N s c d s') : Went N M s (some d) M s' := by
  unfold DeliverTo at h
  cases e : s.ms c d with
  | nil => rw [e] at h; rw [h]; exact Went.refl ..
  | cons m ms =>
    rw [e] at h
    cases m with
    | inl l =>
      obtain ⟨ls, _, _, rfl⟩ := h
      exact Went.same rfl rfl
    | inr xs =>
      obtain ⟨early', _, rfl⟩ := h
      refine ⟨fun c _ => ⟨[], (List.append_nil _).symm⟩, fun e _ y hy => ?_, fun e _ hne => ?_⟩
      · unfold hearS copyS
        by_cases he : e = d
        · subst he
          simp only [upd_same]
          exact (insAll_perm _ _).mem_iff.2 (List.mem_append_right _ hy)
        · simp only [upd_ne _ _ he]
          exact hy
      · have he : e ≠ d := fun h => hne (by rw [h])
        exact ⟨upd_ne _ _ he, upd_ne _ _ he⟩
section
/-- What a delivery leaves. -/
def delS (Z : Nat → Prop) (tb : Nat) (w' : World) (r N sp : Nat) (ls : PId) (M : Nat → List MOp) (s : RoomS) (c d : Nat) : Prop := ∃ s', DeliverTo N s c d s' ∧ invS Z tb w' r N sp ls M s'
theorem invS.ask {Z : Nat → Prop} {tb : Nat} {w : World} {r N sp : Nat} {ls : PId} {M : Nat → List MOp} {s : RoomS} {c d : Nat} (hc : c < N) (hd : d < N) (hcd : c ≠ d) (h : invS Z tb w r N sp ls M s) : Calls Tryz.prog 27 #[.pointer (some ⟨r, 0, none⟩), .int .i64 c, .int .i64 d] w fun e w' => (∃ v, e = .returned v) ∧ invS Z tb w' r N sp ls M (askS N s c d) ∧ Zept Z w w' := by
  obtain ⟨F, I, x, h⟩ := h
  refine (ask_any h.d.m hc hd hcd).mono ?_
  rintro e w' ⟨rfl, hto⟩
  exact ⟨⟨_, rfl⟩, h.goTo hto (h.d.ok.ask hc hd hcd)⟩
theorem invS.deliver {Z : Nat → Prop} {tb : Nat} {w : World} {r N sp : Nat} {ls : PId} {M : Nat → List MOp} {s : RoomS} {c d : Nat} (hc : c < N) (hd : d < N) (hcd : c ≠ d) (h : invS Z tb w r N sp ls M s) : Calls Tryz.prog 39 #[.pointer (some ⟨r, 0, none⟩), .int .i64 c, .int .i64 d] w fun e w' => (∃ v, e = .returned v) ∧ delS Z tb w' r N sp ls M s c d ∧ Zept Z w w' := by
  obtain ⟨F, I, x, h⟩ := h
  refine (deliver_any h.d.m h.d.ok hc hd hcd).mono ?_
  rintro e w' ⟨he, s', hs', hto⟩
  obtain ⟨h1, h2⟩ := h.goTo hto (h.d.ok.deliver hc hd hcd hs')
  exact ⟨⟨_, he⟩, ⟨s', hs', h1⟩, h2⟩
/-- The same, and what it answers: 12 where nothing waits. -/
theorem invS.deliverE {Z : Nat → Prop} {tb : Nat} {w : World} {r N sp : Nat} {ls : PId} {M : Nat → List MOp} {s : RoomS} {c d : Nat} (hc : c < N) (hd : d < N) (hcd : c ≠ d) (h : invS Z tb w r N sp ls M s) : Calls Tryz.prog 39 #[.pointer (some ⟨r, 0, none⟩), .int .i64 c, .int .i64 d] w fun e w' => e = .returned (.int .i64 (if s.ms c d = [] then 12 else 0)) ∧ delS Z tb w' r N sp ls M s c d ∧ Zept Z w w' := by
  obtain ⟨F, I, x, h⟩ := h
  refine (deliver_any h.d.m h.d.ok hc hd hcd).mono ?_
  rintro e w' ⟨he, s', hs', hto⟩
  obtain ⟨h1, h2⟩ := h.goTo hto (h.d.ok.deliver hc hd hcd hs')
  exact ⟨he, ⟨s', hs', h1⟩, h2⟩
theorem QInv.ask {Z : Nat → Prop} {tb : Nat} {w : World} {r N sp : Nat} {ls : PId} {M : Nat → List MOp} {s : RoomS} {c d : Nat} (hc : c < N) (hd : d < N) (hcd : c ≠ d) (h : QInv Z tb w r N sp ls M s) : Calls Tryz.prog 27 #[.pointer (some ⟨r, 0, none⟩), .int .i64 c, .int .i64 d] w fun e w' => isStep Z tb r N sp ls M s none w e w' := by
  refine (h.i.ask hc hd hcd).mono ?_
  rintro e w' ⟨he, hi, hb⟩
  exact ⟨he, h.step (askS_went ..) ⟨hi, hb⟩⟩
theorem QInv.deliver {Z : Nat → Prop} {tb : Nat} {w : World} {r N sp : Nat} {ls : PId} {M : Nat → List MOp} {s : RoomS} {c d : Nat} (hc : c < N) (hd : d < N) (hcd : c ≠ d) (h : QInv Z tb w r N sp ls M s) : Calls Tryz.prog 39 #[.pointer (some ⟨r, 0, none⟩), .int .i64 c, .int .i64 d] w fun e w' => isStep Z tb r N sp ls M s (some d) w e w' := by
  refine (h.i.deliver hc hd hcd).mono ?_
  rintro e w' ⟨he, ⟨s', hs', hi⟩, hb⟩
  exact ⟨he, h.step (deliver_went hs') ⟨hi, hb⟩⟩
theorem QInv.lose {Z : Nat → Prop} {tb : Nat} {w : World} {r N sp : Nat} {ls : PId} {M : Nat → List MOp} {s : RoomS} {c d : Nat} (hc : c < N) (hd : d < N) (hcd : c ≠ d) (h : QInv Z tb w r N sp ls M s) : Calls Tryz.prog 41 #[.pointer (some ⟨r, 0, none⟩), .int .i64 c, .int .i64 d] w fun e w' => isStep Z tb r N sp ls M s none w e w' := by
  obtain ⟨F, I, x, hr⟩ := h.i
  refine (lose_any hr.d.m hc hd hcd).mono ?_
  rintro e w' ⟨he, hto⟩
  exact ⟨he, h.step (loseS_went ..) (hr.goTo hto (hr.d.ok.lose hc hd hcd))⟩
theorem QInv.later {Z : Nat → Prop} {tb : Nat} {w : World} {r N sp : Nat} {ls : PId} {M : Nat → List MOp} {s : RoomS} {c d : Nat} (hc : c < N) (hd : d < N) (hcd : c ≠ d) (h : QInv Z tb w r N sp ls M s) : Calls Tryz.prog 43 #[.pointer (some ⟨r, 0, none⟩), .int .i64 c, .int .i64 d] w fun e w' => isStep Z tb r N sp ls M s none w e w' := by
  obtain ⟨F, I, x, hr⟩ := h.i
  refine (later_any hr.d.m hc hd hcd).mono ?_
  rintro e w' ⟨he, hto⟩
  exact ⟨he, h.step (laterS_went ..) (hr.goTo hto (hr.d.ok.later hc hd hcd))⟩
theorem QInv.again {Z : Nat → Prop} {tb : Nat} {w : World} {r N sp : Nat} {ls : PId} {M : Nat → List MOp} {s : RoomS} {c d : Nat} (hc : c < N) (hd : d < N) (hcd : c ≠ d) (h : QInv Z tb w r N sp ls M s) : Calls Tryz.prog 42 #[.pointer (some ⟨r, 0, none⟩), .int .i64 c, .int .i64 d] w fun e w' => isStep Z tb r N sp ls M s none w e w' := by
  obtain ⟨F, I, x, hr⟩ := h.i
  refine (again_any hr.d.m hc hd hcd).mono ?_
  rintro e w' ⟨he, hto⟩
  exact ⟨he, h.step (againS_went ..) (hr.goTo hto (hr.d.ok.again hc hd hcd))⟩
end

end Go.Proofs.YtnkpogjiiohapaaGreatDoor

/-! QLawI: quirekeep: does. -/
namespace Go.Proofs.YtnkpogjiiohapaaGreatDoor
open Go.RowKit
attribute [local go_sem ↓] Go.wp_at_zero Go.wp_at_succ

/-- Which copy a step may change. -/
def mayN (p : Stp) (N : Nat) : Option Nat := if pickN (p.k.tdiv 8) 12 ≤ 4 then some (pickN p.c N) else if pickN (p.k.tdiv 8) 12 = 7 ∨ pickN (p.k.tdiv 8) 12 = 8 then some (toN p N) else none
theorem mayN_w {p : Stp} {N : Nat} (h : pickN (p.k.tdiv 8) 12 ≤ 4) : mayN p N = some (pickN p.c N) := if_pos h
theorem mayN_d {p : Stp} {N : Nat} (h : ¬ pickN (p.k.tdiv 8) 12 ≤ 4 ∧ (pickN (p.k.tdiv 8) 12 = 7 ∨ pickN (p.k.tdiv 8) 12 = 8)) : mayN p N = some (toN p N) := by unfold mayN; rw [if_neg h.1, if_pos h.2]
theorem mayN_n {p : Stp} {N : Nat} (h : ¬ pickN (p.k.tdiv 8) 12 ≤ 4 ∧ ¬ (pickN (p.k.tdiv 8) 12 = 7 ∨ pickN (p.k.tdiv 8) 12 = 8)) : mayN p N = none := by unfold mayN; rw [if_neg h.1, if_neg h.2]
theorem quo8 {k : Int} (h : intOk k) : intOk (k.tdiv 8) := by
  unfold intOk at *
  by_cases hk : 0 ≤ k
  · rw [Int.tdiv_eq_ediv_of_nonneg hk]
    omega
  · have h1 : k.tdiv 8 = -((-k) / 8) := by
      rw [← Int.tdiv_eq_ediv_of_nonneg (show 0 ≤ -k by omega), Int.neg_tdiv, Int.neg_neg]
    rw [h1]
    omega

set_option maxRecDepth 1000000 in
set_option maxHeartbeats 8000000 in
theorem does_g {Z : Nat → Prop} {tb : Nat} {w : World} {r N sp : Nat} {ls : PId} {M : Nat → List MOp} {s : RoomS} (h : QInv Z tb w r N sp ls M s) (h2 : 2 ≤ N) (p : Stp) (hp : p.ok) :
    Calls Tryz.prog 15 #[.pointer (some ⟨tb, 0, none⟩), .agg #[.int .i64 p.k, .int .i64 p.c, .int .i64 p.d, .int .i64 p.a, .int .i64 p.n]] w fun e w' => isStep Z tb r N sp ls M s (mayN p N) w e w' := by
  have h4 := h.i.hN
  have HB := hid ((Below.refl w.heap.size w).alloc (Nat.le_refl _) (.cells #[.int .i64 p.k, .int .i64 p.c, .int .i64 p.d, .int .i64 p.a, .int .i64 p.n] 32))
  have HX0 := hid (blk_new w (.cells #[.int .i64 p.k, .int .i64 p.c, .int .i64 p.d, .int .i64 p.a, .int .i64 p.n] 32))
  have HT0 := hid (h.i.tab.keep HB.out)
  have HL := hid (fun W (hb : Below w.heap.size w W) => link_g (h.i.tab.keep hb) h2 h4 p hp)
  have HQ := hid (fun W => (show Calls Tryz.prog 20 #[.int .i64 (p.k.tdiv 8), .int .i64 12] W _ from pick_g (p.k.tdiv 8) (quo8 hp.1) 12 (by omega) (by omega) W))
  have hc := pickN_lt p.c (show 0 < N by omega)
  have hd := toN_lt p (show 0 < N by omega)
  have hcd := toN_ne p h2
  have HWR := hid (fun W (hb : Below w.heap.size w W) => write_g (h.keep hb) h2 p hp)
  have HAS := hid (fun W (hb : Below w.heap.size w W) => QInv.ask hc hd hcd (h.keep hb))
  have HDE := hid (fun W (hb : Below w.heap.size w W) => QInv.deliver hc hd hcd (h.keep hb))
  have HLO := hid (fun W (hb : Below w.heap.size w W) => QInv.lose hc hd hcd (h.keep hb))
  have HAG := hid (fun W (hb : Below w.heap.size w W) => QInv.again hc hd hcd (h.keep hb))
  have HLA := hid (fun W (hb : Below w.heap.size w W) => QInv.later hc hd hcd (h.keep hb))
  have HH := hid h
  have hq8 := quo8 hp.1
  have hw8 : IntKind.i64.wrap (p.k.tdiv 8) = p.k.tdiv 8 := Go.IntWalk.i64_in _ (by unfold intOk at hq8; omega)
  clear h hp hq8
  obtain ⟨x0, x1, x2, x3, x4⟩ := stpCells HX0.out
  have hxl := blk_lt HX0.out
  go_enter Tryz.func15, Tryz.ntmps15
  go_wp2_with fail
  refine (HL.out _ HB.out).mono ?_
  rintro e w1 ⟨rfl, hb1⟩
  have HT1 := hid (HT0.out.keep hb1)
  have HX1 := hid (blk_keep HX0.out hb1)
  have HB1 := hid (HB.out.trans (hb1.mono HB.out.size)); clear hb1 x0 x1 x2 x3 x4 hxl
  obtain ⟨x0, x1, x2, x3, x4⟩ := stpCells HX1.out
  have hxl := blk_lt HX1.out
  go_wp2_with fail
  refine (HQ.out _).mono ?_
  rintro e w2 ⟨rfl, hb2⟩
  have HT2 := hid (HT1.out.keep hb2)
  have HX2 := hid (blk_keep HX1.out hb2)
  have HB2 := hid (HB1.out.trans (hb2.mono HB1.out.size)); clear hb2 x0 x1 x2 x3 x4 hxl
  have hkl := pickN_lt (p.k.tdiv 8) (show 0 < 12 by omega)
  obtain ⟨x0, x1, x2, x3, x4⟩ := stpCells HX2.out
  have hxl := blk_lt HX2.out
  obtain ⟨_, t1, _, _⟩ := HT2.out.cells
  have htl := blk_lt HT2.out
  have hk : pickN (p.k.tdiv 8) 12 = 0 ∨ pickN (p.k.tdiv 8) 12 = 1 ∨ pickN (p.k.tdiv 8) 12 = 2 ∨ pickN (p.k.tdiv 8) 12 = 3 ∨ pickN (p.k.tdiv 8) 12 = 4 ∨ pickN (p.k.tdiv 8) 12 = 5 ∨ pickN (p.k.tdiv 8) 12 = 6 ∨ pickN (p.k.tdiv 8) 12 = 7 ∨ pickN (p.k.tdiv 8) 12 = 8 ∨ pickN (p.k.tdiv 8) 12 = 9 ∨ pickN (p.k.tdiv 8) 12 = 10 ∨ pickN (p.k.tdiv 8) 12 = 11 := by omega
  rcases hk with hk | hk | hk | hk | hk | hk | hk | hk | hk | hk | hk | hk
  all_goals have HK := hid hk
  all_goals (rw [hk]; clear hk hkl; go_wp2_with fail)
  all_goals first
    | refine (HWR.out w2 HB2.out).mono ?_
    | refine (HAS.out w2 HB2.out).mono ?_
    | refine (HDE.out w2 HB2.out).mono ?_
    | refine (HLO.out w2 HB2.out).mono ?_
    | refine (HAG.out w2 HB2.out).mono ?_
    | refine (HLA.out w2 HB2.out).mono ?_
  all_goals (
    rintro e w3 hs3
    have HS3 := hid (isStep.before HH.out HB2.out hs3)
    clear hs3
    obtain ⟨⟨ev, rfl⟩, _⟩ := HS3.out
    go_wp2
    go_end0
    exact (show _ ∧ _ from ⟨⟨_, rfl⟩, by first
      | (rw [mayN_w (by rw [HK.out]; decide)]; exact HS3.out.2)
      | (rw [mayN_d (by rw [HK.out]; decide)]; exact HS3.out.2)
      | (rw [mayN_n (by rw [HK.out]; decide)]; exact HS3.out.2)⟩))

end Go.Proofs.YtnkpogjiiohapaaGreatDoor

/-! QLawL: Plain: how a room is laid: what an answer brings, what it makes of the copy that asked. -/
namespace Go.Proofs.YtnkpogjiiohapaaGreatDoor

theorem mem_beyTo {known has : Nat → Int} {N : Nat} {c : Nat} {j : Int} (hc : c < N) (h1 : known c < j) (h2 : j ≤ has c) : ((c : Int), j) ∈ beyTo known has N := by
  unfold beyTo plsOf
  refine List.mem_flatMap.2 ⟨c, List.mem_range.2 hc, List.mem_map.2 ⟨(j - known c - 1).toNat, List.mem_range.2 (by omega), ?_⟩⟩
  rw [show known c + 1 + (((j - known c - 1).toNat : Nat) : Int) = j by omega]
theorem beyTo_one {known has : Nat → Int} : ∀ n : Nat, (∀ i, i < n + 1 → i ≠ 0 → has i = known i) → (beyTo known has (n + 1)).length = (has 0 - known 0).toNat
  | 0, _ => by rw [beyTo_succ, List.length_append, plsOf_len]; simp [beyTo]
  | n + 1, h => by
    rw [beyTo_succ, List.length_append, plsOf_len, beyTo_one n fun i hi h0 => h i (by omega) h0, h (n + 1) (by omega) (by omega)]
    omega
theorem takeWhile_all {α : Type} {p : α → Bool} : ∀ l : List α, (∀ x ∈ l, p x = true) → l.takeWhile p = l
  | [], _ => rfl
  | x :: l, h => by
    rw [List.takeWhile_cons_of_pos (h x List.mem_cons_self), takeWhile_all l fun y hy => h y (List.mem_cons_of_mem _ hy)]
/-- Few operations come in one message. -/
theorem bats_all {ls : List MOp} {known has : Nat → Int} {N : Nat} (h1 : (beyTo known has N).length ≤ 8) (h0 : (beyTo known has N).length ≠ 0) (hin : ∀ y ∈ ls, plOf y ∈ beyTo known has N) : (batsOf ls known has N).map (batOf ls) = [.inr ls] := by
  unfold batsOf
  have hr : List.range (min (chunks (beyTo known has N).length) 3) = [0] := by
    have : min (chunks (beyTo known has N).length) 3 = 1 := by unfold chunks; omega
    rw [this]; rfl
  have hp : partOf (beyTo known has N) 0 = beyTo known has N := by
    unfold partOf
    rw [Nat.mul_zero, List.drop_zero]
    exact List.take_of_length_le h1
  have hc : cutIn ls (beyTo known has N) = ls.length := by
    unfold cutIn
    rw [takeWhile_all ls fun y hy => decide_eq_true (hin y hy)]
  rw [hr]
  simp [ansTo, hp, hc, batOf]
theorem early_look {has : Nat → Int} {p : PId} : ∀ (xs : List MOp) (m : List (PId × MOp)), (lookI p m ≠ none ∨ ∃ y ∈ xs, plOf y = p ∧ has y.op.id.2.toNat < y.op.nth) → lookI p (earlyAll has m xs) ≠ none
  | [], m, h => h.elim id fun ⟨_, hy, _⟩ => by cases hy
  | x :: xs, m, h => by
    show lookI p (earlyAll has (if has x.op.id.2.toNat < x.op.nth then putI (plOf x) x m else m) xs) ≠ none
    refine early_look xs _ ?_
    rcases h with h | ⟨y, hy, e, hl⟩
    · left
      split
      · rw [look_put]
        split
        · simp
        · exact h
      · exact h
    · rcases List.mem_cons.1 hy with rfl | hy
      · left
        rw [if_pos hl, look_put, if_pos e.symm]
        simp
      · exact .inr ⟨y, hy, e, hl⟩
/-- WHAT COMES WITHOUT A GAP IS HAD. -/
theorem heard_more {m : List (PId × MOp)} {has : Nat → Int} {N c : Nat} (hc : c < N) {n : Int} (hn : n ≤ has c + 61) (h : ∀ j : Int, has c < j → j ≤ n → lookI ((c : Int), j) m ≠ none) : n ≤ heardTo m has N c := by
  unfold heardTo
  rw [if_pos hc]
  by_cases hl : (runOf m (c : Int) (has c) 61).length < 61
  · have he := run_end m (c : Int) 61 (has c) hl
    rcases Int.lt_or_le (has c + ((runOf m (c : Int) (has c) 61).length : Int)) n with hlt | hle
    · exact absurd he (h _ (by omega) (by omega))
    · exact hle
  · omega

theorem msTo_ms (s : RoomS) (c d : Nat) (l : List Msg) (a b : Nat) : (msTo s c d l).ms a b = if a = c ∧ b = d then l else s.ms a b := by
  simp only [msTo]
  by_cases e1 : a = c
  · subst e1
    rw [upd_same]
    by_cases e2 : b = d
    · subst e2; rw [upd_same, if_pos ⟨rfl, rfl⟩]
    · rw [upd_ne _ _ e2, if_neg fun h => e2 h.2]
  · rw [upd_ne _ _ e1, if_neg fun h => e1 h.1]

theorem mindS_ms (s : RoomS) (d c : Nat) (f : Nat → Int) : (mindS s d c f).ms = s.ms := rfl
/-- A room that is being laid: the copies from k on have nothing. -/
structure LaidS (N : Nat) (M : Nat → List MOp) (s : RoomS) (k : Nat) : Prop where
  emp : ∀ a b, s.ms a b = []
  gn : ∀ e, s.gone e = []
  o0 : s.ops 0 = M 0
  m0 : (M 0).length = 2
  me : ∀ e, e < N → e ≠ 0 → M e = []
  rest : ∀ e, k ≤ e → e < N → ∀ i, i < N → s.has e i = 0
  done : ∀ e, e < k → e < N → s.ops e = M 0

theorem LaidS.step {N : Nat} {M : Nat → List MOp} {s s2 s3 : RoomS} {k : Nat} (ok : RoomOk N M s) (h : LaidS N M s k) (h1 : 1 ≤ k) (hk : k < N) (hd1 : DeliverTo N (askS N s k 0) k 0 s2) (hd2 : DeliverTo N s2 0 k s3) : LaidS N M s3 (k + 1) ∧ s3.ops k = M 0 := by
  have h0k : (0 : Nat) ≠ k := by omega
  have hk0 : k ≠ 0 := by omega
  have h0 : 0 < N := by omega
  have ok1 : RoomOk N M (askS N s k 0) := ok.ask hk h0 hk0
  have ok2 : RoomOk N M s2 := ok1.deliver hk h0 hk0 hd1
  have ok3 : RoomOk N M s3 := ok2.deliver h0 hk h0k hd2
  have e1 : askS N s k 0 = msTo s k 0 [.inl (hasL N (s.has k))] := by
    unfold askS msTo
    rw [h.emp k 0]
    rfl
  rw [e1] at hd1
  obtain ⟨l, hl⟩ : ∃ l, hasL N (s.has k) = l := ⟨_, rfl⟩
  have hrow : ∀ i, i < N → rowOf l i = 0 := fun i hi => by rw [← hl, rowOf_has hi]; exact h.rest k (Nat.le_refl _) hk i hi
  rw [hl] at hd1
  have e2 : (msTo s k 0 [.inl l]).ms k 0 = [.inl l] := by simp [msTo, upd_same]
  unfold DeliverTo at hd1
  rw [e2] at hd1
  obtain ⟨ls, hp, ha, rfl⟩ := hd1
  have hk0s : s.kept 0 = s.ops 0 := by rw [ok.spl 0 h0, h.gn 0, List.nil_append]
  replace hp : ls.Perm ((s.kept 0).filter (isBey (rowOf l))) := hp
  rw [hk0s] at hp
  have hown := ok.own 0 h0
  have hh0 : ∀ i, i < N → i ≠ 0 → s.has 0 i = 0 := fun i hi hi0 => by
    have := (ok.copy 0 h0).hasL i hi
    rw [h.me i hi hi0] at this
    simp at this
    omega
  have hm0 := h.m0
  have hall : ∀ y, y ∈ s.ops 0 → isBey (rowOf l) y = true := fun y hy => by
    obtain ⟨c, hc, hm⟩ := (ok.copy 0 h0).made hy
    obtain ⟨i, hi, e, a1, a2, a3⟩ := ok.made.at hc hm
    unfold isBey
    rw [show y.op.id.2.toNat = c by omega, hrow c hc]
    exact decide_eq_true (by omega)
  have hls : ∀ y, y ∈ ls ↔ y ∈ s.ops 0 := fun y => by
    rw [hp.mem_iff]
    exact ⟨fun hy => (List.mem_filter.1 hy).1, fun hy => List.mem_filter.2 ⟨hy, hall y hy⟩⟩
  have hin : ∀ y ∈ ls, plOf y ∈ beyTo (rowOf l) (s.has 0) N := fun y hy => by
    have hy' := (hls y).1 hy
    have hym := (ok.copy 0 h0).made hy'
    have hn := ((ok.copy 0 h0).mem ok.made hym).1 hy'
    obtain ⟨c, hc, hm⟩ := hym
    obtain ⟨i, hi, e, a1, a2, a3⟩ := ok.made.at hc hm
    have hcc : y.op.id.2.toNat = c := by omega
    rw [hcc] at hn
    unfold plOf
    rw [a1]
    exact mem_beyTo hc (by rw [hrow c hc]; omega) hn
  have hlen : (beyTo (rowOf l) (s.has 0) N).length = 2 := by
    obtain ⟨n, rfl⟩ : ∃ n, N = n + 1 := ⟨N - 1, by omega⟩
    rw [beyTo_one n fun i hi h0 => by rw [hrow i hi, hh0 i hi h0], hrow 0 h0]
    omega
  have hbat := bats_all (ls := ls) (known := rowOf l) (has := s.has 0) (N := N) (by omega) (by omega) hin
  have e3 : (msTo (msTo s k 0 [.inl l]) k 0 []).ms 0 k = [] := by
    simp only [msTo]
    rw [upd_ne _ _ h0k, upd_ne _ _ h0k]
    exact h.emp 0 k
  have e4 : sentM [] [(.inr ls : Msg)] = [.inr ls] := rfl
  have e5 : (msTo (mindS (msTo (msTo s k 0 [.inl l]) k 0 []) 0 k (rowOf l)) 0 k (sentM ((msTo (msTo s k 0 [.inl l]) k 0 []).ms 0 k) ((batsOf ls (rowOf l) ((msTo s k 0 [.inl l]).has 0) N).map (batOf ls)))) = msTo (mindS (msTo (msTo s k 0 [.inl l]) k 0 []) 0 k (rowOf l)) 0 k [.inr ls] := by
    rw [e3, show (msTo s k 0 [.inl l]).has 0 = s.has 0 from rfl, hbat, e4]
  rw [e5] at hd2 ok2
  have e6 : (msTo (mindS (msTo (msTo s k 0 [.inl l]) k 0 []) 0 k (rowOf l)) 0 k [.inr ls]).ms 0 k = [.inr ls] := by simp [msTo, upd_same]
  unfold DeliverTo at hd2
  rw [e6] at hd2
  obtain ⟨early', hC, rfl⟩ := hd2
  have hls2 : ∀ y ∈ ls, isMade N M y := fun y hy => (ok.copy 0 h0).made ((hls y).1 hy)
  have hE := (ok.wait hk hls2).1
  have hhas : ∀ i, i < N → (hearS N (msTo (msTo (mindS (msTo (msTo s k 0 [.inl l]) k 0 []) 0 k (rowOf l)) 0 k [.inr ls]) 0 k []) k ls early').has k i = heardTo (waitS s k ls) (s.has k) N i := fun i hi => by
    have := congrFun (heard_has (has := s.has k) hE N (Nat.le_refl _)) i
    rw [← this]
    simp only [hearS, copyS, upd_same]
    rfl
  have hge : (2 : Int) ≤ heardTo (waitS s k ls) (s.has k) N 0 := by
    have hz := h.rest k (Nat.le_refl _) hk 0 h0
    refine heard_more h0 (by omega) fun j hj1 hj2 => ?_
    unfold waitS
    refine early_look ls (s.early k) (.inr ?_)
    have hi : (j - 1).toNat < (M 0).length := by omega
    obtain ⟨a1, a2, a3⟩ := ok.made.id 0 h0 (j - 1).toNat hi
    have hmem : (M 0)[(j - 1).toNat] ∈ M 0 := List.getElem_mem _
    refine ⟨(M 0)[(j - 1).toNat], (hls _).2 (by rw [h.o0]; exact hmem), ?_, ?_⟩
    · unfold plOf
      rw [a1, a2, show (((j - 1).toNat : Nat) : Int) + 1 = j by omega]
    · rw [a1]
      show s.has k 0 < _
      rw [a2]
      omega
  have hk2 : ∀ i, i < N → (hearS N (msTo (msTo (mindS (msTo (msTo s k 0 [.inl l]) k 0 []) 0 k (rowOf l)) 0 k [.inr ls]) 0 k []) k ls early').has k i = s.has 0 i := fun i hi => by
    have hb := (ok3.copy k hk).hasL i hi
    rw [hhas i hi] at hb ⊢
    by_cases hi0 : i = 0
    · subst hi0
      omega
    · rw [h.me i hi hi0] at hb
      rw [hh0 i hi hi0]
      simp at hb
      omega
  have hsame : (hearS N (msTo (msTo (mindS (msTo (msTo s k 0 [.inl l]) k 0 []) 0 k (rowOf l)) 0 k [.inr ls]) 0 k []) k ls early').ops k = s.ops 0 := CopyOk.same (ok3.copy k hk) (ok.copy 0 h0) (ok3.asc k hk) (ok.asc 0 h0) hk2
  refine ⟨⟨fun a b => ?_, fun e => h.gn e, ?_, h.m0, h.me, fun e he1 he2 i hi => ?_, fun e he1 he2 => ?_⟩, hsame.trans h.o0⟩
  · have hab := h.emp a b
    show (msTo (msTo (mindS (msTo (msTo s k 0 [.inl l]) k 0 []) 0 k (rowOf l)) 0 k [.inr ls]) 0 k []).ms a b = []
    rw [msTo_ms, msTo_ms, mindS_ms, msTo_ms, msTo_ms, hab]
    by_cases e1 : a = 0 ∧ b = k
    · rw [if_pos e1]
    · rw [if_neg e1, if_neg e1]
      by_cases e2 : a = k ∧ b = 0
      · rw [if_pos e2]
      · rw [if_neg e2, if_neg e2]
  · simp only [hearS, copyS]
    rw [upd_ne _ _ h0k]
    exact h.o0
  · simp only [hearS, copyS]
    rw [upd_ne _ _ (show e ≠ k by omega)]
    exact h.rest e (by omega) he2 i hi
  · by_cases hek : e = k
    · subst hek
      exact hsame.trans h.o0
    · simp only [hearS, copyS]
      rw [upd_ne _ _ hek]
      exact h.done e (by omega) he2

end Go.Proofs.YtnkpogjiiohapaaGreatDoor
