/- Our own text (GFindA, GFindB, GFindC). -/
import Derived.Test.YtnkpogjiiohapaaGreatDoorA31
set_option linter.unusedSimpArgs false
set_option linter.unusedVariables false

/-! GFindA: The program's room in general: keys, places; which object. -/
namespace Go.Proofs.YtnkpogjiiohapaaGreatDoor
open Go.RowKit
attribute [local go_sem ↓] Go.wp_at_zero Go.wp_at_succ

set_option maxRecDepth 1000000 in
set_option maxHeartbeats 1000000 in
theorem isKey_q (s : ByteArray) (w : World) (hs : s.size ≤ maxLen) :
    Calls Tryz.prog 83 #[.string s] w fun e w' => e = .returned (.bool (keyOk s)) ∧ w' = w := by
  unfold maxLen at hs
  by_cases h0 : 0 < s.size
  · by_cases h4 : s.size ≤ 4
    · go_enter Tryz.func83, Tryz.ntmps83
      go_wp2
      go_loop [14] (fun i => ∃ k : Nat, k ≤ s.size ∧ i = .int .i64 k ∧ Hid (letters (s.data.toList.take k) = true)) (fun i => s.size - (intOf i).toNat)
      case atStart => exact ⟨0, Nat.zero_le _, rfl, rfl⟩
      case round =>
        obtain ⟨k, hk, rfl, hn⟩ := hrel
        by_cases hlt : k < s.size
        · by_cases h1 : (97 : Int) ≤ s[k].toNat
          · by_cases h2 : (s[k].toNat : Int) ≤ 122
            · have HX := hid (letters_yes hlt hn.out h1 h2)
              go_wp2
              go_round
              case rel => exact ⟨k + 1, by omega, by go_num, HX⟩
              case measure => simp [intOf]; omega
            · have HX : Hid _ := letters_no hlt (fun h => h2 h.2)
              go_wp2
              go_ret
              exact ⟨ret_bool HX.out.symm, rfl⟩
          · have HX : Hid _ := letters_no hlt (fun h => h1 h.1)
            go_wp2
            go_ret
            exact ⟨ret_bool HX.out.symm, rfl⟩
        · have e : letters s.data.toList = true := by
            have := hn.out; rwa [List.take_of_length_le (by simp; omega)] at this
          have HX := hid (show keyOk s = true by unfold keyOk; rw [e]; simp [h0, h4])
          clear e
          go_wp2
          go_ret
          exact ⟨ret_bool HX.out.symm, rfl⟩
    · have HX := hid (show keyOk s = false by unfold keyOk; simp [h4])
      go_enter Tryz.func83, Tryz.ntmps83
      go_wp2
      go_ret
      exact ⟨ret_bool HX.out.symm, rfl⟩
  · have HX := hid (show keyOk s = false by unfold keyOk; simp [h0])
    go_enter Tryz.func83, Tryz.ntmps83
    go_wp2
    go_ret
    exact ⟨ret_bool HX.out.symm, rfl⟩

set_option maxRecDepth 1000000 in
set_option maxHeartbeats 1000000 in
theorem keyOf_q (x1 x2 : Int) (key : ByteArray) (w : World) : Calls Tryz.prog 84 #[.agg #[.int .i64 x1, .int .i64 x2], .string key] w fun e w' => e = .returned (.agg #[.int .i64 x1, .int .i64 x2, .string key, .int .i64 0, .int .i64 0]) ∧ Below w.heap.size w w' := by
  have HB := hid (((Below.refl w.heap.size w).alloc (Nat.le_refl _) (.cells #[.int .i64 x1, .int .i64 x2] 36)).alloc (by simp) (.cells #[.int .i64 x1, .int .i64 x2, .string key, .int .i64 0, .int .i64 0] 97))
  go_enter Tryz.func84, Tryz.ntmps84
  go_wp2
  refine bodyPost_ret (v := .agg #[.int .i64 x1, .int .i64 x2, .string key, .int .i64 0, .int .i64 0]) (by simp [results, Tryz.results84, go_sem]) rfl ?_
  exact ⟨rfl, HB.out⟩

set_option maxRecDepth 1000000 in
set_option maxHeartbeats 1000000 in
theorem elementOf_q (x1 x2 y1 y2 : Int) (w : World) : Calls Tryz.prog 63 #[.agg #[.int .i64 x1, .int .i64 x2], .agg #[.int .i64 y1, .int .i64 y2]] w fun e w' => e = .returned (.agg #[.int .i64 x1, .int .i64 x2, .string ⟨#[]⟩, .int .i64 y1, .int .i64 y2]) ∧ Below w.heap.size w w' := by
  have HB := hid ((((Below.refl w.heap.size w).alloc (Nat.le_refl _) (.cells #[.int .i64 x1, .int .i64 x2] 36)).alloc (by simp) (.cells #[.int .i64 y1, .int .i64 y2] 36)).alloc (by simp; omega) (.cells #[.int .i64 x1, .int .i64 x2, .string ⟨#[]⟩, .int .i64 y1, .int .i64 y2] 97))
  go_enter Tryz.func63, Tryz.ntmps63
  go_wp2
  refine bodyPost_ret (v := .agg #[.int .i64 x1, .int .i64 x2, .string ⟨#[]⟩, .int .i64 y1, .int .i64 y2]) (by simp [results, Tryz.results63, go_sem]) rfl ?_
  exact ⟨rfl, HB.out⟩

theorem Agree.has {R : List PObj} {D : QDoc} (h : Agree R D) (x : PId) : (lookI x D.1).isSome = (objOf R x).isSome := by
  cases ho : objOf R x with
  | none => rw [h.o0 x ho]; rfl
  | some o => obtain ⟨ob, hob, _⟩ := h.o1 x o ho; rw [hob]; rfl
theorem Agree.lst {R : List PObj} {D : QDoc} (h : Agree R D) {x : PId} {o : PObj} (ho : objOf R x = some o) : qlist x D.1 = o.list := by
  obtain ⟨ob, hob, hag⟩ := h.o1 x o ho
  unfold qlist; rw [hob]; exact hag.list
/-- What inObject answers. -/
def InObj (R : List PObj) (x : PId) (lst : Bool) (rb : Nat) (e : Ending) : Prop :=
  (∃ m, (m = 3 ∨ m = 4) ∧ objP R x lst = .error m ∧ e = .returned (.tuple #[.pointer none, .int .i64 m])) ∨ ∃ o, objOf R x = some o ∧ o.list = lst ∧ e = .returned (.tuple #[.pointer (some ⟨rb, 0, none⟩), .int .i64 0])

section
set_option maxRecDepth 1000000 in
set_option maxHeartbeats 4000000 in
theorem inObject_any {w : World} {r : Nat} {F I : Nat → Prop} {N sp : Nat} {M : Nat → List MOp} {s : RoomS} {x : RoomX} (h : RoomD w r F I N sp M s x) (c : Nat) (hc : c < N) (x1 x2 : Int) (lst : Bool) :
    Calls Tryz.prog 56 #[.pointer (some ⟨r, 0, none⟩), .int .i64 c, .agg #[.int .i64 x1, .int .i64 x2], .bool lst] w fun e w' => Below w.heap.size w w' ∧ InObj (ROf (s.ops c)) (x1, x2) lst (x.rbs c) e := by
  have hrep := h.m.reps c hc
  have hagr := h.ag hc
  have HB := hid ((Below.refl w.heap.size w).alloc (Nat.le_refl _) (.cells #[.int .i64 x1, .int .i64 x2] 36))
  have HX0 := hid (blk_new w (.cells #[.int .i64 x1, .int .i64 x2] 36))
  have HC := hid (inCopy_any (h.m.keep HB.out) c hc)
  have HD := hid (fun W (hb : Below w.heap.size w W) => document_any (hrep.keep hb))
  have HH := hid (show ∀ W, Below w.heap.size w W → Calls Tryz.prog 89 #[.pointer (some ⟨(x.q c).d, 0, none⟩), .agg #[.int .i64 x1, .int .i64 x2]] W fun e w' => e = .returned (.bool (objOf (ROf (s.ops c)) (x1, x2)).isSome) ∧ Below W.heap.size W w' from fun W hb => by
    rw [← hagr.has]; exact has_q (hrep.hist.q.keep hb) x1 x2)
  have HL := hid (show ∀ o, objOf (ROf (s.ops c)) (x1, x2) = some o → ∀ W, Below w.heap.size w W → Calls Tryz.prog 90 #[.pointer (some ⟨(x.q c).d, 0, none⟩), .agg #[.int .i64 x1, .int .i64 x2]] W fun e w' => e = .returned (.bool o.list) ∧ Below W.heap.size W w' from fun o ho W hb => by
    rw [← hagr.lst ho]; exact isList_q (hrep.hist.q.keep hb) x1 x2)
  have hob := objP_of (ROf (s.ops c)) (x1, x2) lst
  clear hrep h
  generalize ROf (s.ops c) = R at *
  unfold InObj
  rcases hob with ⟨h1, h2⟩ | ⟨o, k, h1, h2, h3⟩
  · rw [h1] at HH
    have HE := hid (And.intro h1 h2); clear h1 h2 HL
    go_enter Tryz.func56, Tryz.ntmps56
    go_wp2_with fail
    refine HC.out.mono ?_
    rintro e w0 ⟨rfl, hw0⟩
    subst hw0
    go_wp2_with fail
    go_region_held3 (fun W => W.cell? ⟨w.heap.size, 0, none⟩ = some (.int .i64 x1) ∧ W.cell? ⟨w.heap.size, 1, none⟩ = some (.int .i64 x2)) (first | exact blk2 HX0.out | exact blk2 HX2.out | exact blk2 HX1.out)
      (first
        | (go_at_call 48; refine (HD.out _ HB.out.drew).mono ?_; rintro e w1 ⟨rfl, hb1⟩; have HX1 := hid (blk_keep HX0.out (Hid.out (below_drew_left hb1))); have HB1 := hid (HB.out.drew.trans (hb1.mono HB.out.size)); clear hb1)
        | (go_at_call 89; refine (HH.out w1 HB1.out).mono ?_; rintro e w2 ⟨rfl, hb2⟩; have HX2 := hid (blk_keep HX1.out hb2); have HB2 := hid (HB1.out.trans (hb2.mono HB1.out.size)); clear hb2))
    all_goals go_wp2
    all_goals go_ret2
    all_goals exact ⟨HB2.out, .inl ⟨3, .inl rfl, HE.out.2, rfl⟩⟩
  · rw [h1] at HH
    have HL2 := hid (HL.out o h1); clear HL
    have HE := hid (And.intro h1 h3); clear h1 h2 h3
    obtain ⟨ol, hol⟩ : ∃ ol, o.list = ol := ⟨_, rfl⟩
    rw [hol] at HL2
    have HOL := hid hol; clear hol
    have hend : (ol = lst ∧ objOf R (x1, x2) = some o ∧ o.list = lst) ∨ (ol ≠ lst ∧ objP R (x1, x2) lst = .error 4) := by
      by_cases e : ol = lst
      · exact .inl ⟨e, HE.out.1, HOL.out.trans e⟩
      · refine .inr ⟨e, ?_⟩
        rw [HE.out.2, if_neg (by rw [HOL.out]; exact e)]
    have HEN := hid hend; clear hend HE HOL
    cases ol <;> cases lst
    all_goals go_enter Tryz.func56, Tryz.ntmps56
    all_goals go_wp2_with fail
    all_goals refine HC.out.mono ?_
    all_goals rintro e w0 ⟨rfl, hw0⟩
    all_goals subst hw0
    all_goals go_wp2_with fail
    all_goals (go_region_held3 (fun W => W.cell? ⟨w.heap.size, 0, none⟩ = some (.int .i64 x1) ∧ W.cell? ⟨w.heap.size, 1, none⟩ = some (.int .i64 x2)) (first | exact blk2 HX0.out | exact blk2 HX2.out | exact blk2 HX1.out)
      (first
        | (go_at_call 48; refine (HD.out _ HB.out.drew).mono ?_; rintro e w1 ⟨rfl, hb1⟩; have HX1 := hid (blk_keep HX0.out (Hid.out (below_drew_left hb1))); have HB1 := hid (HB.out.drew.trans (hb1.mono HB.out.size)); clear hb1)
        | (go_at_call 89; refine (HH.out w1 HB1.out).mono ?_; rintro e w2 ⟨rfl, hb2⟩; have HX2 := hid (blk_keep HX1.out hb2); have HB2 := hid (HB1.out.trans (hb2.mono HB1.out.size)); clear hb2)))
    all_goals go_wp2_with fail
    all_goals (go_region_held3 (fun W => W.cell? ⟨w.heap.size, 0, none⟩ = some (.int .i64 x1) ∧ W.cell? ⟨w.heap.size, 1, none⟩ = some (.int .i64 x2)) (first | exact blk2 HX2.out | exact blk2 HX4.out | exact blk2 HX3.out)
      (first
        | (go_at_call 48; refine (HD.out _ HB2.out.drew).mono ?_; rintro e w3 ⟨rfl, hb3⟩; have HX3 := hid (blk_keep HX2.out (Hid.out (below_drew_left hb3))); have HB3 := hid (HB2.out.drew.trans (hb3.mono HB2.out.size)); clear hb3)
        | (go_at_call 90; refine (HL2.out w3 HB3.out).mono ?_; rintro e w4 ⟨rfl, hb4⟩; have HX4 := hid (blk_keep HX3.out hb4); have HB4 := hid (HB3.out.trans (hb4.mono HB3.out.size)); clear hb4)))
    all_goals go_wp2
    all_goals go_ret2
    all_goals (
      refine ⟨HB4.out, ?_⟩
      rcases HEN.out with ⟨e, he⟩ | ⟨e, he⟩
      · first
          | exact .inr ⟨o, he.1, he.2, rfl⟩
          | (exact absurd e (by decide))
      · first
          | exact .inl ⟨4, .inr rfl, he, rfl⟩
          | (exact absurd rfl e))
end

end Go.Proofs.YtnkpogjiiohapaaGreatDoor

/-! GFindB: The program's room in general: which place of a map. -/
namespace Go.Proofs.YtnkpogjiiohapaaGreatDoor
open Go.RowKit
attribute [local go_sem ↓] Go.wp_at_zero Go.wp_at_succ

theorem keyed_err {R : List PObj} {x : PId} {key : ByteArray} {m : Int} (h : objP R x false = .error m) : keyedP R x key = .error m := by unfold keyedP; rw [h]
theorem keyed_of {R : List PObj} {x : PId} {key : ByteArray} {o : PObj} (ho : objOf R x = some o) (hl : o.list = false) : keyedP R x key = if keyOk key then .ok (heldsAt o key (0, 0)) else .error 5 := by
  unfold keyedP
  rcases objP_of R x false with ⟨h1, _⟩ | ⟨o', k, h1, h2, h3⟩
  · rw [ho] at h1; cases h1
  · rw [ho] at h1
    cases h1
    rw [h3, if_pos hl]
    simp only [h2]
theorem elements_err {R : List PObj} {x : PId} {m : Int} (h : objP R x true = .error m) : elementsP R x = .error m := by unfold elementsP; rw [h]
theorem elements_of {R : List PObj} {x : PId} {o : PObj} (ho : objOf R x = some o) (hl : o.list = true) : elementsP R x = .ok (pseen o) := by
  unfold elementsP
  rcases objP_of R x true with ⟨h1, _⟩ | ⟨o', k, h1, h2, h3⟩
  · rw [ho] at h1; cases h1
  · rw [ho] at h1
    cases h1
    rw [h3, if_pos hl]
    simp only [h2]

theorem below5 {B : Nat} {w W : World} (h : Below B w W) {g : Nat} (hg : B ≤ g) (a b c d e : Value) : Below B w (((((W.setCell ⟨g, 0, none⟩ a).setCell ⟨g, 1, none⟩ b).setCell ⟨g, 2, none⟩ c).setCell ⟨g, 3, none⟩ d).setCell ⟨g, 4, none⟩ e) :=
  ((((h.setCell hg a).setCell hg b).setCell hg c).setCell hg d).setCell hg e
def AtKey (R : List PObj) (x : PId) (key : ByteArray) (rb : Nat) (e : Ending) : Prop :=
  (∃ m, (m = 3 ∨ m = 4 ∨ m = 5) ∧ keyedP R x key = .error m ∧ e = .returned (.tuple #[.pointer none, .agg #[.int .i64 0, .int .i64 0, .string ⟨#[]⟩, .int .i64 0, .int .i64 0], .int .i64 m])) ∨
  ∃ o, objOf R x = some o ∧ o.list = false ∧ keyOk key = true ∧ keyedP R x key = .ok (heldsAt o key (0, 0)) ∧ e = .returned (.tuple #[.pointer (some ⟨rb, 0, none⟩), .agg #[.int .i64 x.1, .int .i64 x.2, .string key, .int .i64 0, .int .i64 0], .int .i64 0])

section
set_option maxRecDepth 1000000 in
set_option maxHeartbeats 4000000 in
theorem atKey_any {w : World} {r : Nat} {F I : Nat → Prop} {N sp : Nat} {M : Nat → List MOp} {s : RoomS} {x : RoomX} (h : RoomD w r F I N sp M s x) (c : Nat) (hc : c < N) (x1 x2 : Int) (key : ByteArray) (hks : key.size ≤ maxLen) :
    Calls Tryz.prog 46 #[.pointer (some ⟨r, 0, none⟩), .int .i64 c, .agg #[.int .i64 x1, .int .i64 x2], .string key] w fun e w' => Below w.heap.size w w' ∧ AtKey (ROf (s.ops c)) (x1, x2) key (x.rbs c) e := by
  have HB := hid (((Below.refl w.heap.size w).alloc (Nat.le_refl _) (.cells #[.int .i64 x1, .int .i64 x2] 36)).alloc (by simp) (.cells #[.int .i64 0, .int .i64 0, .string ⟨#[]⟩, .int .i64 0, .int .i64 0] 97))
  have HX0 := hid (show ((w.alloc (.cells #[.int .i64 x1, .int .i64 x2] 36)).alloc (.cells #[.int .i64 0, .int .i64 0, .string ⟨#[]⟩, .int .i64 0, .int .i64 0] 97)).heap[w.heap.size]? = some (.cells #[.int .i64 x1, .int .i64 x2] 36 (0, 0)) from (alloc_old_r _ _ (by simp)).trans (blk_new w _))
  have HY0 := hid (show ((w.alloc (.cells #[.int .i64 x1, .int .i64 x2] 36)).alloc (.cells #[.int .i64 0, .int .i64 0, .string ⟨#[]⟩, .int .i64 0, .int .i64 0] 97)).heap[w.heap.size + 1]? = some (.cells #[.int .i64 0, .int .i64 0, .string ⟨#[]⟩, .int .i64 0, .int .i64 0] 97 (0, 0)) from (by
    have := blk_new (w.alloc (.cells #[.int .i64 x1, .int .i64 x2] 36)) (.cells #[.int .i64 0, .int .i64 0, .string ⟨#[]⟩, .int .i64 0, .int .i64 0] 97)
    rw [show (w.alloc (.cells #[.int .i64 x1, .int .i64 x2] 36)).heap.size = w.heap.size + 1 by simp] at this
    exact this))
  have HIO := hid (inObject_any (h.keep HB.out) c hc x1 x2 false)
  clear h
  generalize ROf (s.ops c) = R at *
  have HK := hid (fun W => isKey_q key W hks)
  go_enter Tryz.func46, Tryz.ntmps46
  go_wp2_with fail
  refine HIO.out.mono ?_
  rintro e w1 ⟨hb1, hio⟩
  have HX1 := hid (blk_keep HX0.out hb1)
  have HY1 := hid (blk_keep HY0.out hb1)
  have HB1 := hid (HB.out.trans (hb1.mono HB.out.size)); clear hb1
  obtain ⟨x0', x1'⟩ := blk2 HX1.out
  obtain ⟨y0, y1, y2, y3, y4⟩ := blk5 HY1.out
  have yf := blk_fz HY1.out
  have yl := blk_lt HY1.out
  rcases hio with ⟨m, hm, hp, rfl⟩ | ⟨o, ho, hol, rfl⟩
  · have HE := hid (keyed_err (key := key) hp); clear hp
    rcases hm with rfl | rfl
    all_goals go_wp2
    all_goals refine bodyPost_ret (v := .tuple #[.pointer none, .agg #[.int .i64 0, .int .i64 0, .string ⟨#[]⟩, .int .i64 0, .int .i64 0], .int .i64 _]) (by simp [results, Tryz.results46, go_sem, y0, y1, y2, y3, y4]; rfl) rfl ?_
    · exact ⟨below5 HB1.out (by omega) _ _ _ _ _, .inl ⟨3, .inl rfl, HE.out, rfl⟩⟩
    · exact ⟨below5 HB1.out (by omega) _ _ _ _ _, .inl ⟨4, .inr (.inl rfl), HE.out, rfl⟩⟩
  · have HE := hid (keyed_of (key := key) ho hol)
    have HO := hid (And.intro ho hol); clear ho hol
    go_wp2_with fail
    refine (HK.out _).mono ?_
    rintro e w2 ⟨rfl, hw2⟩
    subst hw2
    cases hko : keyOk key
    · have HE2 := hid (show keyedP R (x1, x2) key = .error 5 by rw [HE.out, hko]; simp)
      clear hko
      go_wp2
      refine bodyPost_ret (v := .tuple #[.pointer none, .agg #[.int .i64 0, .int .i64 0, .string ⟨#[]⟩, .int .i64 0, .int .i64 0], .int .i64 5]) (by simp [results, Tryz.results46, go_sem, y0, y1, y2, y3, y4]) rfl ?_
      exact ⟨below5 HB1.out (by omega) _ _ _ _ _, .inl ⟨5, .inr (.inr rfl), HE2.out, rfl⟩⟩
    · have HE2 := hid (show keyOk key = true ∧ keyedP R (x1, x2) key = .ok (heldsAt o key (0, 0)) from ⟨hko, by rw [HE.out, hko]; simp⟩)
      clear hko
      go_wp2_with fail
      refine (keyOf_q x1 x2 key _).mono ?_
      rintro e w3 ⟨rfl, hb3⟩
      have HY3 := hid (blk_keep HY1.out hb3)
      have HB3 := hid (HB1.out.trans (hb3.mono HB1.out.size)); clear hb3
      obtain ⟨z0, z1, z2, z3, z4⟩ := blk5 HY3.out
      have zf := blk_fz HY3.out
      have zl := blk_lt HY3.out
      go_wp2
      refine bodyPost_ret (v := .tuple #[.pointer (some ⟨x.rbs c, 0, none⟩), .agg #[.int .i64 x1, .int .i64 x2, .string key, .int .i64 0, .int .i64 0], .int .i64 0]) (by simp [results, Tryz.results46, go_sem, z0, z1, z2, z3, z4]) rfl ?_
      exact ⟨below5 HB3.out (by omega) _ _ _ _ _, .inr ⟨o, HO.out.1, HO.out.2, HE2.out.1, HE2.out.2, rfl⟩⟩
end

def AtGap (R : List PObj) (x : PId) (i : Int) (rb : Nat) (e : Ending) : Prop :=
  (∃ m, (m = 3 ∨ m = 4) ∧ elementsP R x = .error m ∧ e = .returned (.tuple #[.pointer none, .int .i64 m])) ∨
  ∃ o, objOf R x = some o ∧ o.list = true ∧ elementsP R x = .ok (pseen o) ∧ ((behindP (pseen o) i = none ∧ e = .returned (.tuple #[.pointer none, .int .i64 7])) ∨ ∃ b, behindP (pseen o) i = some b ∧ e = .returned (.tuple #[.pointer (some ⟨rb, 0, none⟩), .int .i64 0]))
def AtEl (R : List PObj) (x : PId) (i : Int) (rb : Nat) (e : Ending) : Prop :=
  (∃ m, (m = 3 ∨ m = 4) ∧ elementsP R x = .error m ∧ e = .returned (.tuple #[.pointer none, .agg #[.int .i64 0, .int .i64 0, .string ⟨#[]⟩, .int .i64 0, .int .i64 0], .int .i64 m])) ∨
  ∃ o, objOf R x = some o ∧ o.list = true ∧ elementsP R x = .ok (pseen o) ∧ (((i < 0 ∨ ((pseen o).length : Int) ≤ i) ∧ e = .returned (.tuple #[.pointer none, .agg #[.int .i64 0, .int .i64 0, .string ⟨#[]⟩, .int .i64 0, .int .i64 0], .int .i64 7])) ∨ (¬ (i < 0 ∨ ((pseen o).length : Int) ≤ i) ∧ ∃ y, (pseen o)[i.toNat]? = some y ∧ e = .returned (.tuple #[.pointer (some ⟨rb, 0, none⟩), .agg #[.int .i64 x.1, .int .i64 x.2, .string ⟨#[]⟩, .int .i64 y.1, .int .i64 y.2], .int .i64 0])))

end Go.Proofs.YtnkpogjiiohapaaGreatDoor

/-! GFindC: The program's room in general: which place of a list. -/
namespace Go.Proofs.YtnkpogjiiohapaaGreatDoor
open Go.RowKit
attribute [local go_sem ↓] Go.wp_at_zero Go.wp_at_succ

theorem behind_none {l : List PId} {i : Int} : behindP l i = none ↔ (i < 0 ∨ (l.length : Int) < i) := by
  unfold behindP
  by_cases h : i < 0 ∨ i > (l.length : Int)
  · rw [if_pos h]; exact ⟨fun _ => h, fun _ => rfl⟩
  · rw [if_neg h]
    constructor
    · intro h'
      split at h'
      · cases h'
      · rw [List.getElem?_eq_none_iff] at h'
        omega
    · intro h'; exact absurd h' h

section
set_option maxRecDepth 1000000 in
set_option maxHeartbeats 4000000 in
theorem atGap_any {w : World} {r : Nat} {F I : Nat → Prop} {N sp : Nat} {M : Nat → List MOp} {s : RoomS} {x : RoomX} (h : RoomD w r F I N sp M s x) (c : Nat) (hc : c < N) (x1 x2 i : Int) :
    Calls Tryz.prog 59 #[.pointer (some ⟨r, 0, none⟩), .int .i64 c, .agg #[.int .i64 x1, .int .i64 x2], .int .i64 i] w fun e w' => Below w.heap.size w w' ∧ AtGap (ROf (s.ops c)) (x1, x2) i (x.rbs c) e := by
  have hrep := h.m.reps c hc
  have hagr := h.ag hc
  have HB := hid ((Below.refl w.heap.size w).alloc (Nat.le_refl _) (.cells #[.int .i64 x1, .int .i64 x2] 36))
  have HX0 := hid (blk_new w (.cells #[.int .i64 x1, .int .i64 x2] 36))
  have HIO := hid (inObject_any (h.keep HB.out) c hc x1 x2 true)
  have HD := hid (fun W (hb : Below w.heap.size w W) => document_any (hrep.keep hb))
  have HEL := hid (fun o (ho : objOf (ROf (s.ops c)) (x1, x2) = some o) (hl : o.list = true) => hrep.elements hagr ho hl (Nat.le_trans (h.slots hc ho hl) (by omega)))
  have HLEN := hid (show ∀ o, objOf (ROf (s.ops c)) (x1, x2) = some o → o.list = true → (pseen o).length ≤ 300 from fun o ho hl => by
    have h1 := h.slots hc ho hl
    have h3 : (pseen o).length ≤ o.ss.length := by unfold pseen; rw [List.length_map]; exact List.length_filter_le _ _
    omega)
  clear h hrep hagr
  generalize ROf (s.ops c) = R at *
  by_cases hi0 : i < 0
  · have hdi : decide (i < 0) = true := decide_eq_true hi0
    go_enter Tryz.func59, Tryz.ntmps59
    go_wp2_with fail
    refine HIO.out.mono ?_
    rintro e w1 ⟨hb1, hio⟩
    have HX1 := hid (blk_keep HX0.out hb1)
    have HB1 := hid (HB.out.trans (hb1.mono HB.out.size)); clear hb1
    obtain ⟨x0', x1'⟩ := blk2 HX1.out
    rcases hio with ⟨m, hm, hp, rfl⟩ | ⟨o, ho, hol, rfl⟩
    · have HE := hid (elements_err hp); clear hp
      rcases hm with rfl | rfl
      · go_wp2
        go_ret2
        exact ⟨HB1.out, .inl ⟨3, .inl rfl, HE.out, rfl⟩⟩
      · go_wp2
        go_ret2
        exact ⟨HB1.out, .inl ⟨4, .inr rfl, HE.out, rfl⟩⟩
    · have HE := hid (And.intro ho (And.intro hol (elements_of ho hol))); clear ho hol
      go_wp2_with fail
      go_quiet (fail)
      go_wp2
      go_ret2
      exact ⟨below_drewN HB1.out _, .inr ⟨o, HE.out.1, HE.out.2.1, HE.out.2.2, .inl ⟨behind_none.2 (.inl hi0), rfl⟩⟩⟩
  · have hdi : decide (i < 0) = false := decide_eq_false hi0
    go_enter Tryz.func59, Tryz.ntmps59
    go_wp2_with fail
    refine HIO.out.mono ?_
    rintro e w1 ⟨hb1, hio⟩
    have HX1 := hid (blk_keep HX0.out hb1)
    have HB1 := hid (HB.out.trans (hb1.mono HB.out.size)); clear hb1
    obtain ⟨x0', x1'⟩ := blk2 HX1.out
    rcases hio with ⟨m, hm, hp, rfl⟩ | ⟨o, ho, hol, rfl⟩
    · have HE := hid (elements_err hp); clear hp
      rcases hm with rfl | rfl
      · go_wp2
        go_ret2
        exact ⟨HB1.out, .inl ⟨3, .inl rfl, HE.out, rfl⟩⟩
      · go_wp2
        go_ret2
        exact ⟨HB1.out, .inl ⟨4, .inr rfl, HE.out, rfl⟩⟩
    · have HE := hid (And.intro ho (And.intro hol (elements_of ho hol)))
      have HL2 := hid (HEL.out o ho hol)
      have hlen := HLEN.out o ho hol
      clear ho hol HEL HLEN
      have hcmp : (i > ((pseen o).length : Int)) ∨ ¬ (i > ((pseen o).length : Int)) := Classical.em _
      rcases hcmp with hgt | hle
      all_goals go_wp2_with fail
      all_goals (go_region_held3 (fun W => W.cell? ⟨w.heap.size, 0, none⟩ = some (.int .i64 x1) ∧ W.cell? ⟨w.heap.size, 1, none⟩ = some (.int .i64 x2)) (first | exact blk2 HX1.out | exact blk2 HX3.out | exact blk2 HX2.out)
        (first
          | (go_at_call 48; refine (HD.out _ HB1.out.drew).mono ?_; rintro e w2 ⟨rfl, hb2⟩; have HX2 := hid (blk_keep HX1.out (Hid.out (below_drew_left hb2))); have HB2 := hid (HB1.out.drew.trans (hb2.mono HB1.out.size)); clear hb2)
          | (go_at_call 57; refine (HL2.out w2 HB2.out).mono ?_; rintro e w3 ⟨u, rfl, hu, hb3⟩; obtain ⟨ua, uc, rfl, _, _, _⟩ := owns_form hu; have HX3 := hid (blk_keep HX2.out hb3); have HB3 := hid (HB2.out.trans (hb3.mono HB2.out.size)); clear hb3 hu)))
      · go_wp2
        go_ret2
        exact ⟨HB3.out, .inr ⟨o, HE.out.1, HE.out.2.1, HE.out.2.2, .inl ⟨behind_none.2 (.inr hgt), rfl⟩⟩⟩
      · have hds : decide (((pseen o).length : Int) < i) = false := decide_eq_false (by omega)
        go_wp2
        go_ret2
        refine ⟨HB3.out, .inr ⟨o, HE.out.1, HE.out.2.1, HE.out.2.2, .inr ?_⟩⟩
        cases hb : behindP (pseen o) i with
        | some b => exact ⟨b, rfl, rfl⟩
        | none => exfalso; have := behind_none.1 hb; omega

set_option maxRecDepth 1000000 in
set_option maxHeartbeats 4000000 in
theorem atElement_any {w : World} {r : Nat} {F I : Nat → Prop} {N sp : Nat} {M : Nat → List MOp} {s : RoomS} {x : RoomX} (h : RoomD w r F I N sp M s x) (c : Nat) (hc : c < N) (x1 x2 i : Int) :
    Calls Tryz.prog 64 #[.pointer (some ⟨r, 0, none⟩), .int .i64 c, .agg #[.int .i64 x1, .int .i64 x2], .int .i64 i] w fun e w' => Below w.heap.size w w' ∧ AtEl (ROf (s.ops c)) (x1, x2) i (x.rbs c) e := by
  have hrep := h.m.reps c hc
  have hagr := h.ag hc
  have HB := hid (((Below.refl w.heap.size w).alloc (Nat.le_refl _) (.cells #[.int .i64 x1, .int .i64 x2] 36)).alloc (by simp) (.cells #[.int .i64 0, .int .i64 0, .string ⟨#[]⟩, .int .i64 0, .int .i64 0] 97))
  have HX0 := hid (show ((w.alloc (.cells #[.int .i64 x1, .int .i64 x2] 36)).alloc (.cells #[.int .i64 0, .int .i64 0, .string ⟨#[]⟩, .int .i64 0, .int .i64 0] 97)).heap[w.heap.size]? = some (.cells #[.int .i64 x1, .int .i64 x2] 36 (0, 0)) from (alloc_old_r _ _ (by simp)).trans (blk_new w _))
  have HY0 := hid (show ((w.alloc (.cells #[.int .i64 x1, .int .i64 x2] 36)).alloc (.cells #[.int .i64 0, .int .i64 0, .string ⟨#[]⟩, .int .i64 0, .int .i64 0] 97)).heap[w.heap.size + 1]? = some (.cells #[.int .i64 0, .int .i64 0, .string ⟨#[]⟩, .int .i64 0, .int .i64 0] 97 (0, 0)) from (by
    have := blk_new (w.alloc (.cells #[.int .i64 x1, .int .i64 x2] 36)) (.cells #[.int .i64 0, .int .i64 0, .string ⟨#[]⟩, .int .i64 0, .int .i64 0] 97)
    rw [show (w.alloc (.cells #[.int .i64 x1, .int .i64 x2] 36)).heap.size = w.heap.size + 1 by simp] at this
    exact this))
  have HIO := hid (inObject_any (h.keep HB.out) c hc x1 x2 true)
  have HD := hid (fun W (hb : Below w.heap.size w W) => document_any (hrep.keep hb))
  have HEL := hid (fun o (ho : objOf (ROf (s.ops c)) (x1, x2) = some o) (hl : o.list = true) => hrep.elements hagr ho hl (Nat.le_trans (h.slots hc ho hl) (by omega)))
  have HLEN := hid (show ∀ o, objOf (ROf (s.ops c)) (x1, x2) = some o → o.list = true → (pseen o).length ≤ 300 from fun o ho hl => by
    have h1 := h.slots hc ho hl
    have h3 : (pseen o).length ≤ o.ss.length := by unfold pseen; rw [List.length_map]; exact List.length_filter_le _ _
    omega)
  clear h hrep hagr
  generalize ROf (s.ops c) = R at *
  go_enter Tryz.func64, Tryz.ntmps64
  go_wp2_with fail
  refine HIO.out.mono ?_
  rintro e w1 ⟨hb1, hio⟩
  have HX1 := hid (blk_keep HX0.out hb1)
  have HY1 := hid (blk_keep HY0.out hb1)
  have HB1 := hid (HB.out.trans (hb1.mono HB.out.size)); clear hb1
  obtain ⟨x0', x1'⟩ := blk2 HX1.out
  rcases hio with ⟨m, hm, hp, rfl⟩ | ⟨o, ho, hol, rfl⟩
  · have HE := hid (elements_err hp); clear hp
    obtain ⟨y0, y1, y2, y3, y4⟩ := blk5 HY1.out
    have yf := blk_fz HY1.out
    have yl := blk_lt HY1.out
    rcases hm with rfl | rfl
    · go_wp2
      refine bodyPost_ret (v := .tuple #[.pointer none, .agg #[.int .i64 0, .int .i64 0, .string ⟨#[]⟩, .int .i64 0, .int .i64 0], .int .i64 3]) (by simp [results, Tryz.results64, go_sem, y0, y1, y2, y3, y4]) rfl ?_
      exact ⟨below5 HB1.out (by omega) _ _ _ _ _, .inl ⟨3, .inl rfl, HE.out, rfl⟩⟩
    · go_wp2
      refine bodyPost_ret (v := .tuple #[.pointer none, .agg #[.int .i64 0, .int .i64 0, .string ⟨#[]⟩, .int .i64 0, .int .i64 0], .int .i64 4]) (by simp [results, Tryz.results64, go_sem, y0, y1, y2, y3, y4]) rfl ?_
      exact ⟨below5 HB1.out (by omega) _ _ _ _ _, .inl ⟨4, .inr rfl, HE.out, rfl⟩⟩
  · have HE := hid (And.intro ho (And.intro hol (elements_of ho hol)))
    have HL2 := hid (HEL.out o ho hol)
    have hlen := HLEN.out o ho hol
    clear ho hol HEL HLEN
    go_wp2_with fail
    go_region_held3 (fun W => W.cell? ⟨w.heap.size, 0, none⟩ = some (.int .i64 x1) ∧ W.cell? ⟨w.heap.size, 1, none⟩ = some (.int .i64 x2)) (first | exact blk2 HX1.out | exact blk2 HX3.out | exact blk2 HX2.out)
      (first
        | (go_at_call 48; refine (HD.out _ HB1.out.drew).mono ?_; rintro e w2 ⟨rfl, hb2⟩; have HX2 := hid (blk_keep HX1.out (Hid.out (below_drew_left hb2))); have HY2 := hid (blk_keep HY1.out (Hid.out (below_drew_left hb2))); have HB2 := hid (HB1.out.drew.trans (hb2.mono HB1.out.size)); clear hb2)
        | (go_at_call 57; refine (HL2.out w2 HB2.out).mono ?_; rintro e w3 ⟨u, rfl, hu, hb3⟩; obtain ⟨ua, uc, rfl, hul, hum, huf⟩ := owns_form hu; have HUF := hid huf; have HU := hid hu; have HX3 := hid (blk_keep HX2.out hb3); have HY3 := hid (blk_keep HY2.out hb3); have HB3 := hid (HB2.out.trans (hb3.mono HB2.out.size)); clear hb3 hu huf))
    unfold maxLen at hum
    obtain ⟨y0, y1, y2, y3, y4⟩ := blk5 HY3.out
    have yf := blk_fz HY3.out
    have yl := blk_lt HY3.out
    obtain ⟨z0, z1⟩ := blk2 HX3.out
    clear x0' x1'
    by_cases hi0 : i < 0
    · go_wp2
      refine bodyPost_ret (v := .tuple #[.pointer none, .agg #[.int .i64 0, .int .i64 0, .string ⟨#[]⟩, .int .i64 0, .int .i64 0], .int .i64 7]) (by simp [results, Tryz.results64, go_sem, y0, y1, y2, y3, y4]) rfl ?_
      exact ⟨below5 HB3.out (by omega) _ _ _ _ _, .inr ⟨o, HE.out.1, HE.out.2.1, HE.out.2.2, .inl ⟨.inl hi0, rfl⟩⟩⟩
    · by_cases hil : ((pseen o).length : Int) ≤ i
      · go_wp2
        refine bodyPost_ret (v := .tuple #[.pointer none, .agg #[.int .i64 0, .int .i64 0, .string ⟨#[]⟩, .int .i64 0, .int .i64 0], .int .i64 7]) (by simp [results, Tryz.results64, go_sem, y0, y1, y2, y3, y4]) rfl ?_
        exact ⟨below5 HB3.out (by omega) _ _ _ _ _, .inr ⟨o, HE.out.1, HE.out.2.1, HE.out.2.2, .inl ⟨.inr hil, rfl⟩⟩⟩
      · obtain ⟨j, rfl⟩ : ∃ j : Nat, i = (j : Int) := ⟨i.toNat, by omega⟩
        have hj : j < (pseen o).length := by omega
        obtain ⟨gu, rfl⟩ := HUF.out j hj
        obtain ⟨u0, u1⟩ := isIds.cells HU.out.ids rfl j hj
        have hj1 : (j : Int) < ((pseen o).length : Int) := by omega
        have HGL := hid (World.ownsRow.lt HU.out gu rfl)
        clear HUF
        go_wp2_with fail
        go_region_with
          (first | (go_at_call 63; refine (elementOf_q x1 x2 _ _ _).mono ?_; rintro e w4 ⟨rfl, hb4⟩; have hb4' := Hid.out (below_drew_left hb4); have HY4 := hid (blk_keep HY3.out hb4'); have HB4 := hid (HB3.out.trans (hb4'.mono HB3.out.size)); clear hb4 hb4'; replace y0 := (blk5 HY4.out).1; replace y1 := (blk5 HY4.out).2.1; replace y2 := (blk5 HY4.out).2.2.1; replace y3 := (blk5 HY4.out).2.2.2.1; replace y4 := (blk5 HY4.out).2.2.2.2; replace yf := blk_fz HY4.out; replace yl := blk_lt HY4.out))
        all_goals go_wp2
        all_goals refine bodyPost_ret (v := .tuple #[.pointer (some ⟨x.rbs c, 0, none⟩), .agg #[.int .i64 x1, .int .i64 x2, .string ⟨#[]⟩, .int .i64 (pseen o)[j].1, .int .i64 (pseen o)[j].2], .int .i64 0]) (by simp [results, Tryz.results64, go_sem, y0, y1, y2, y3, y4]) rfl ?_
        all_goals exact ⟨below5 HB4.out (by omega) _ _ _ _ _, .inr ⟨o, HE.out.1, HE.out.2.1, HE.out.2.2, .inr ⟨by omega, (pseen o)[j], by simp [hj], rfl⟩⟩⟩
end

end Go.Proofs.YtnkpogjiiohapaaGreatDoor
