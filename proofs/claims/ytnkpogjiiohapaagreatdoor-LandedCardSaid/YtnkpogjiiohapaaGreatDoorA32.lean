/- Our own text (GFindC, GWrA). -/
import Derived.Test.YtnkpogjiiohapaaGreatDoorA31
set_option linter.unusedSimpArgs false
set_option linter.unusedVariables false

/-! GFindC: The program's room in general: which place of a list. -/
namespace Go.Proofs.YtnkpogjiiohapaaGreatDoor
open Go.RowKit
attribute [local go_sem ↓] Go.wp_at_zero Go.wp_at_succ

theorem behind_none {l : List PId} {i : Int} : behindP l i = none ↔ (i < 0 ∨ (l.length : Int) < i) := by
  unfold behindP
  by_cases h : i < 0 ∨ i > (l.length : Int)
  · rw [if_pos h]; exact ⟨fun _ => h, fun _ => rfl⟩
  · rw [if_neg h]
    constructor
    · intro h'
      split at h'
      · cases h'
      · rw [List.getElem?_eq_none_iff] at h'
        omega
    · intro h'; exact absurd h' h

section
set_option maxRecDepth 1000000 in
set_option maxHeartbeats 4000000 in
theorem atGap_any {w : World} {r : Nat} {F I : Nat → Prop} {N sp : Nat} {M : Nat → List MOp} {s : RoomS} {x : RoomX} (h : RoomD w r F I N sp M s x) (c : Nat) (hc : c < N) (x1 x2 i : Int) :
    Calls Tryz.prog 59 #[.pointer (some ⟨r, 0, none⟩), .int .i64 c, .agg #[.int .i64 x1, .int .i64 x2], .int .i64 i] w fun e w' => Below w.heap.size w w' ∧ AtGap (ROf (s.ops c)) (x1, x2) i (x.rbs c) e := by
  have hrep := h.m.reps c hc
  have hagr := h.ag hc
  have HB := hid ((Below.refl w.heap.size w).alloc (Nat.le_refl _) (.cells #[.int .i64 x1, .int .i64 x2] 36))
  have HX0 := hid (blk_new w (.cells #[.int .i64 x1, .int .i64 x2] 36))
  have HIO := hid (inObject_any (h.keep HB.out) c hc x1 x2 true)
  have HD := hid (fun W (hb : Below w.heap.size w W) => document_any (hrep.keep hb))
  have HEL := hid (fun o (ho : objOf (ROf (s.ops c)) (x1, x2) = some o) (hl : o.list = true) => hrep.elements hagr ho hl (Nat.le_trans (h.slots hc ho hl) (by omega)))
  have HLEN := hid (show ∀ o, objOf (ROf (s.ops c)) (x1, x2) = some o → o.list = true → (pseen o).length ≤ 300 from fun o ho hl => by
    have h1 := h.slots hc ho hl
    have h3 : (pseen o).length ≤ o.ss.length := by unfold pseen; rw [List.length_map]; exact List.length_filter_le _ _
    omega)
  clear h hrep hagr
  generalize ROf (s.ops c) = R at *
  by_cases hi0 : i < 0
  · have hdi : decide (i < 0) = true := decide_eq_true hi0
    go_enter Tryz.func59, Tryz.ntmps59
    go_wp2_with fail
    refine HIO.out.mono ?_
    rintro e w1 ⟨hb1, hio⟩
    have HX1 := hid (blk_keep HX0.out hb1)
    have HB1 := hid (HB.out.trans (hb1.mono HB.out.size)); clear hb1
    obtain ⟨x0', x1'⟩ := blk2 HX1.out
    rcases hio with ⟨m, hm, hp, rfl⟩ | ⟨o, ho, hol, rfl⟩
    · have HE := hid (elements_err hp); clear hp
      rcases hm with rfl | rfl
      · go_wp2
        go_ret2
        exact ⟨HB1.out, .inl ⟨3, .inl rfl, HE.out, rfl⟩⟩
      · go_wp2
        go_ret2
        exact ⟨HB1.out, .inl ⟨4, .inr rfl, HE.out, rfl⟩⟩
    · have HE := hid (And.intro ho (And.intro hol (elements_of ho hol))); clear ho hol
      go_wp2_with fail
      go_quiet (fail)
      go_wp2
      go_ret2
      exact ⟨below_drewN HB1.out _, .inr ⟨o, HE.out.1, HE.out.2.1, HE.out.2.2, .inl ⟨behind_none.2 (.inl hi0), rfl⟩⟩⟩
  · have hdi : decide (i < 0) = false := decide_eq_false hi0
    go_enter Tryz.func59, Tryz.ntmps59
    go_wp2_with fail
    refine HIO.out.mono ?_
    rintro e w1 ⟨hb1, hio⟩
    have HX1 := hid (blk_keep HX0.out hb1)
    have HB1 := hid (HB.out.trans (hb1.mono HB.out.size)); clear hb1
    obtain ⟨x0', x1'⟩ := blk2 HX1.out
    rcases hio with ⟨m, hm, hp, rfl⟩ | ⟨o, ho, hol, rfl⟩
    · have HE := hid (elements_err hp); clear hp
      rcases hm with rfl | rfl
      · go_wp2
        go_ret2
        exact ⟨HB1.out, .inl ⟨3, .inl rfl, HE.out, rfl⟩⟩
      · go_wp2
        go_ret2
        exact ⟨HB1.out, .inl ⟨4, .inr rfl, HE.out, rfl⟩⟩
    · have HE := hid (And.intro ho (And.intro hol (elements_of ho hol)))
      have HL2 := hid (HEL.out o ho hol)
      have hlen := HLEN.out o ho hol
      clear ho hol HEL HLEN
      have hcmp : (i > ((pseen o).length : Int)) ∨ ¬ (i > ((pseen o).length : Int)) := Classical.em _
      rcases hcmp with hgt | hle
      all_goals go_wp2_with fail
      all_goals (go_region_held3 (fun W => W.cell? ⟨w.heap.size, 0, none⟩ = some (.int .i64 x1) ∧ W.cell? ⟨w.heap.size, 1, none⟩ = some (.int .i64 x2)) (first | exact blk2 HX1.out | exact blk2 HX3.out | exact blk2 HX2.out)
        (first
          | (go_at_call 48; refine (HD.out _ HB1.out.drew).mono ?_; rintro e w2 ⟨rfl, hb2⟩; have HX2 := hid (blk_keep HX1.out (Hid.out (below_drew_left hb2))); have HB2 := hid (HB1.out.drew.trans (hb2.mono HB1.out.size)); clear hb2)
          | (go_at_call 57; refine (HL2.out w2 HB2.out).mono ?_; rintro e w3 ⟨u, rfl, hu, hb3⟩; obtain ⟨ua, uc, rfl, _, _, _⟩ := owns_form hu; have HX3 := hid (blk_keep HX2.out hb3); have HB3 := hid (HB2.out.trans (hb3.mono HB2.out.size)); clear hb3 hu)))
      · go_wp2
        go_ret2
        exact ⟨HB3.out, .inr ⟨o, HE.out.1, HE.out.2.1, HE.out.2.2, .inl ⟨behind_none.2 (.inr hgt), rfl⟩⟩⟩
      · have hds : decide (((pseen o).length : Int) < i) = false := decide_eq_false (by omega)
        go_wp2
        go_ret2
        refine ⟨HB3.out, .inr ⟨o, HE.out.1, HE.out.2.1, HE.out.2.2, .inr ?_⟩⟩
        cases hb : behindP (pseen o) i with
        | some b => exact ⟨b, rfl, rfl⟩
        | none => exfalso; have := behind_none.1 hb; omega

set_option maxRecDepth 1000000 in
set_option maxHeartbeats 4000000 in
theorem atElement_any {w : World} {r : Nat} {F I : Nat → Prop} {N sp : Nat} {M : Nat → List MOp} {s : RoomS} {x : RoomX} (h : RoomD w r F I N sp M s x) (c : Nat) (hc : c < N) (x1 x2 i : Int) :
    Calls Tryz.prog 64 #[.pointer (some ⟨r, 0, none⟩), .int .i64 c, .agg #[.int .i64 x1, .int .i64 x2], .int .i64 i] w fun e w' => Below w.heap.size w w' ∧ AtEl (ROf (s.ops c)) (x1, x2) i (x.rbs c) e := by
  have hrep := h.m.reps c hc
  have hagr := h.ag hc
  have HB := hid (((Below.refl w.heap.size w).alloc (Nat.le_refl _) (.cells #[.int .i64 x1, .int .i64 x2] 36)).alloc (by simp) (.cells #[.int .i64 0, .int .i64 0, .string ⟨#[]⟩, .int .i64 0, .int .i64 0] 97))
  have HX0 := hid (show ((w.alloc (.cells #[.int .i64 x1, .int .i64 x2] 36)).alloc (.cells #[.int .i64 0, .int .i64 0, .string ⟨#[]⟩, .int .i64 0, .int .i64 0] 97)).heap[w.heap.size]? = some (.cells #[.int .i64 x1, .int .i64 x2] 36 (0, 0)) from (alloc_old_r _ _ (by simp)).trans (blk_new w _))
  have HY0 := hid (show ((w.alloc (.cells #[.int .i64 x1, .int .i64 x2] 36)).alloc (.cells #[.int .i64 0, .int .i64 0, .string ⟨#[]⟩, .int .i64 0, .int .i64 0] 97)).heap[w.heap.size + 1]? = some (.cells #[.int .i64 0, .int .i64 0, .string ⟨#[]⟩, .int .i64 0, .int .i64 0] 97 (0, 0)) from (by
    have := blk_new (w.alloc (.cells #[.int .i64 x1, .int .i64 x2] 36)) (.cells #[.int .i64 0, .int .i64 0, .string ⟨#[]⟩, .int .i64 0, .int .i64 0] 97)
    rw [show (w.alloc (.cells #[.int .i64 x1, .int .i64 x2] 36)).heap.size = w.heap.size + 1 by simp] at this
    exact this))
  have HIO := hid (inObject_any (h.keep HB.out) c hc x1 x2 true)
  have HD := hid (fun W (hb : Below w.heap.size w W) => document_any (hrep.keep hb))
  have HEL := hid (fun o (ho : objOf (ROf (s.ops c)) (x1, x2) = some o) (hl : o.list = true) => hrep.elements hagr ho hl (Nat.le_trans (h.slots hc ho hl) (by omega)))
  have HLEN := hid (show ∀ o, objOf (ROf (s.ops c)) (x1, x2) = some o → o.list = true → (pseen o).length ≤ 300 from fun o ho hl => by
    have h1 := h.slots hc ho hl
    have h3 : (pseen o).length ≤ o.ss.length := by unfold pseen; rw [List.length_map]; exact List.length_filter_le _ _
    omega)
  clear h hrep hagr
  generalize ROf (s.ops c) = R at *
  go_enter Tryz.func64, Tryz.ntmps64
  go_wp2_with fail
  refine HIO.out.mono ?_
  rintro e w1 ⟨hb1, hio⟩
  have HX1 := hid (blk_keep HX0.out hb1)
  have HY1 := hid (blk_keep HY0.out hb1)
  have HB1 := hid (HB.out.trans (hb1.mono HB.out.size)); clear hb1
  obtain ⟨x0', x1'⟩ := blk2 HX1.out
  rcases hio with ⟨m, hm, hp, rfl⟩ | ⟨o, ho, hol, rfl⟩
  · have HE := hid (elements_err hp); clear hp
    obtain ⟨y0, y1, y2, y3, y4⟩ := blk5 HY1.out
    have yf := blk_fz HY1.out
    have yl := blk_lt HY1.out
    rcases hm with rfl | rfl
    · go_wp2
      refine bodyPost_ret (v := .tuple #[.pointer none, .agg #[.int .i64 0, .int .i64 0, .string ⟨#[]⟩, .int .i64 0, .int .i64 0], .int .i64 3]) (by simp [results, Tryz.results64, go_sem, y0, y1, y2, y3, y4]) rfl ?_
      exact ⟨below5 HB1.out (by omega) _ _ _ _ _, .inl ⟨3, .inl rfl, HE.out, rfl⟩⟩
    · go_wp2
      refine bodyPost_ret (v := .tuple #[.pointer none, .agg #[.int .i64 0, .int .i64 0, .string ⟨#[]⟩, .int .i64 0, .int .i64 0], .int .i64 4]) (by simp [results, Tryz.results64, go_sem, y0, y1, y2, y3, y4]) rfl ?_
      exact ⟨below5 HB1.out (by omega) _ _ _ _ _, .inl ⟨4, .inr rfl, HE.out, rfl⟩⟩
  · have HE := hid (And.intro ho (And.intro hol (elements_of ho hol)))
    have HL2 := hid (HEL.out o ho hol)
    have hlen := HLEN.out o ho hol
    clear ho hol HEL HLEN
    go_wp2_with fail
    go_region_held3 (fun W => W.cell? ⟨w.heap.size, 0, none⟩ = some (.int .i64 x1) ∧ W.cell? ⟨w.heap.size, 1, none⟩ = some (.int .i64 x2)) (first | exact blk2 HX1.out | exact blk2 HX3.out | exact blk2 HX2.out)
      (first
        | (go_at_call 48; refine (HD.out _ HB1.out.drew).mono ?_; rintro e w2 ⟨rfl, hb2⟩; have HX2 := hid (blk_keep HX1.out (Hid.out (below_drew_left hb2))); have HY2 := hid (blk_keep HY1.out (Hid.out (below_drew_left hb2))); have HB2 := hid (HB1.out.drew.trans (hb2.mono HB1.out.size)); clear hb2)
        | (go_at_call 57; refine (HL2.out w2 HB2.out).mono ?_; rintro e w3 ⟨u, rfl, hu, hb3⟩; obtain ⟨ua, uc, rfl, hul, hum, huf⟩ := owns_form hu; have HUF := hid huf; have HU := hid hu; have HX3 := hid (blk_keep HX2.out hb3); have HY3 := hid (blk_keep HY2.out hb3); have HB3 := hid (HB2.out.trans (hb3.mono HB2.out.size)); clear hb3 hu huf))
    unfold maxLen at hum
    obtain ⟨y0, y1, y2, y3, y4⟩ := blk5 HY3.out
    have yf := blk_fz HY3.out
    have yl := blk_lt HY3.out
    obtain ⟨z0, z1⟩ := blk2 HX3.out
    clear x0' x1'
    by_cases hi0 : i < 0
    · go_wp2
      refine bodyPost_ret (v := .tuple #[.pointer none, .agg #[.int .i64 0, .int .i64 0, .string ⟨#[]⟩, .int .i64 0, .int .i64 0], .int .i64 7]) (by simp [results, Tryz.results64, go_sem, y0, y1, y2, y3, y4]) rfl ?_
      exact ⟨below5 HB3.out (by omega) _ _ _ _ _, .inr ⟨o, HE.out.1, HE.out.2.1, HE.out.2.2, .inl ⟨.inl hi0, rfl⟩⟩⟩
    · by_cases hil : ((pseen o).length : Int) ≤ i
      · go_wp2
        refine bodyPost_ret (v := .tuple #[.pointer none, .agg #[.int .i64 0, .int .i64 0, .string ⟨#[]⟩, .int .i64 0, .int .i64 0], .int .i64 7]) (by simp [results, Tryz.results64, go_sem, y0, y1, y2, y3, y4]) rfl ?_
        exact ⟨below5 HB3.out (by omega) _ _ _ _ _, .inr ⟨o, HE.out.1, HE.out.2.1, HE.out.2.2, .inl ⟨.inr hil, rfl⟩⟩⟩
      · obtain ⟨j, rfl⟩ : ∃ j : Nat, i = (j : Int) := ⟨i.toNat, by omega⟩
        have hj : j < (pseen o).length := by omega
        obtain ⟨gu, rfl⟩ := HUF.out j hj
        obtain ⟨u0, u1⟩ := isIds.cells HU.out.ids rfl j hj
        have hj1 : (j : Int) < ((pseen o).length : Int) := by omega
        have HGL := hid (World.ownsRow.lt HU.out gu rfl)
        clear HUF
        go_wp2_with fail
        go_region_with
          (first | (go_at_call 63; refine (elementOf_q x1 x2 _ _ _).mono ?_; rintro e w4 ⟨rfl, hb4⟩; have hb4' := Hid.out (below_drew_left hb4); have HY4 := hid (blk_keep HY3.out hb4'); have HB4 := hid (HB3.out.trans (hb4'.mono HB3.out.size)); clear hb4 hb4'; replace y0 := (blk5 HY4.out).1; replace y1 := (blk5 HY4.out).2.1; replace y2 := (blk5 HY4.out).2.2.1; replace y3 := (blk5 HY4.out).2.2.2.1; replace y4 := (blk5 HY4.out).2.2.2.2; replace yf := blk_fz HY4.out; replace yl := blk_lt HY4.out))
        all_goals go_wp2
        all_goals refine bodyPost_ret (v := .tuple #[.pointer (some ⟨x.rbs c, 0, none⟩), .agg #[.int .i64 x1, .int .i64 x2, .string ⟨#[]⟩, .int .i64 (pseen o)[j].1, .int .i64 (pseen o)[j].2], .int .i64 0]) (by simp [results, Tryz.results64, go_sem, y0, y1, y2, y3, y4]) rfl ?_
        all_goals exact ⟨below5 HB4.out (by omega) _ _ _ _ _, .inr ⟨o, HE.out.1, HE.out.2.1, HE.out.2.2, .inr ⟨by omega, (pseen o)[j], by simp [hj], rfl⟩⟩⟩
end

end Go.Proofs.YtnkpogjiiohapaaGreatDoor

/-! GWrA: The program's room in general: what writing leaves; Put, SetAt, CutAt. -/
namespace Go.Proofs.YtnkpogjiiohapaaGreatDoor
open Go.RowKit
attribute [local go_sem ↓] Go.wp_at_zero Go.wp_at_succ

def wroteS (s : RoomS) (c : Nat) (chg : QChg) (t : TypeId) (v : Value) : RoomS := copyS s c (s.gt c + 1) (upd (s.has c) c (s.has c c + 1)) (s.ops c ++ [newOp c (s.gt c) (s.has c) chg t v]) (s.early c)
/-- What a call leaves of a room. -/
def RoomDTo (r N sp : Nat) (F I : Nat → Prop) (w w' : World) (rbs : Nat → Nat) (M : Nat → List MOp) (s : RoomS) : Prop := ∃ F' I' x', RoomD w' r F' I' N sp M s x' ∧ x'.rbs = rbs ∧ Keeps F F' w w' ∧ IGo I I' w w'
def WroteD (r N sp : Nat) (F I : Nat → Prop) (w w' : World) (rbs : Nat → Nat) (M : Nat → List MOp) (s : RoomS) (c : Nat) (chg : QChg) : Prop := s.has c c < 60 ∧ ∃ t v, RoomDTo r N sp F I w w' rbs (addM M c (newOp c (s.gt c) (s.has c) chg t v)) (wroteS s c chg t v)

def PutD (r N sp : Nat) (F I : Nat → Prop) (M : Nat → List MOp) (s : RoomS) (x : RoomX) (c : Nat) (x1 x2 n : Int) (key : ByteArray) (w : World) (e : Ending) (w' : World) : Prop :=
      (∃ m, (keyedP (ROf (s.ops c)) (x1, x2) key = .error m ∨ (m = 8 ∧ ¬ s.has c c < 60)) ∧ e = .returned (.int .i64 m) ∧ RoomDTo r N sp F I w w' x.rbs M s) ∨
      (∃ o ss, objOf (ROf (s.ops c)) (x1, x2) = some o ∧ o.list = false ∧ keyOk key = true ∧ ss.Perm ((atPl (x.q c).D.1 (x.q c).D.2 (x1, x2) key (0, 0)).vs.map (·.1)) ∧ Asc ss ∧ e = .returned (.int .i64 0) ∧ WroteD r N sp F I w w' x.rbs M s c (.inr (.inr (.inl ((x1, x2), key, (0, 0), (n, (0, 0)), ss)))))
def SetAtD (r N sp : Nat) (F I : Nat → Prop) (M : Nat → List MOp) (s : RoomS) (x : RoomX) (c : Nat) (x1 x2 i n : Int) (w : World) (e : Ending) (w' : World) : Prop :=
      (∃ m, (elementsP (ROf (s.ops c)) (x1, x2) = .error m ∨ (m = 7 ∧ ∃ o, objOf (ROf (s.ops c)) (x1, x2) = some o ∧ o.list = true ∧ (i < 0 ∨ ((pseen o).length : Int) ≤ i)) ∨ ((m = 8 ∧ ¬ s.has c c < 60) ∧ ∃ o, objOf (ROf (s.ops c)) (x1, x2) = some o ∧ o.list = true ∧ ¬ (i < 0 ∨ ((pseen o).length : Int) ≤ i))) ∧ e = .returned (.int .i64 m) ∧ RoomDTo r N sp F I w w' x.rbs M s) ∨
      (∃ o y ss, objOf (ROf (s.ops c)) (x1, x2) = some o ∧ o.list = true ∧ ¬ (i < 0 ∨ ((pseen o).length : Int) ≤ i) ∧ (pseen o)[i.toNat]? = some y ∧ ss.Perm ((atPl (x.q c).D.1 (x.q c).D.2 (x1, x2) ⟨#[]⟩ y).vs.map (·.1)) ∧ Asc ss ∧ e = .returned (.int .i64 0) ∧ WroteD r N sp F I w w' x.rbs M s c (.inr (.inr (.inl ((x1, x2), ⟨#[]⟩, y, (n, (0, 0)), ss)))))
def CutAtD (r N sp : Nat) (F I : Nat → Prop) (M : Nat → List MOp) (s : RoomS) (x : RoomX) (c : Nat) (x1 x2 i : Int) (w : World) (e : Ending) (w' : World) : Prop :=
      (∃ m, (elementsP (ROf (s.ops c)) (x1, x2) = .error m ∨ (m = 7 ∧ ∃ o, objOf (ROf (s.ops c)) (x1, x2) = some o ∧ o.list = true ∧ (i < 0 ∨ ((pseen o).length : Int) ≤ i)) ∨ (m = 8 ∧ ¬ s.has c c < 60)) ∧ e = .returned (.int .i64 m) ∧ RoomDTo r N sp F I w w' x.rbs M s) ∨
      (∃ o y ss, objOf (ROf (s.ops c)) (x1, x2) = some o ∧ o.list = true ∧ ¬ (i < 0 ∨ ((pseen o).length : Int) ≤ i) ∧ (pseen o)[i.toNat]? = some y ∧ ss.Perm ((atPl (x.q c).D.1 (x.q c).D.2 (x1, x2) ⟨#[]⟩ y).vs.map (·.1)) ∧ Asc ss ∧ e = .returned (.int .i64 0) ∧ WroteD r N sp F I w w' x.rbs M s c (.inr (.inr (.inr ((x1, x2), ⟨#[]⟩, y, ss)))))

section
theorem RoomD.left {w : World} {r : Nat} {F I : Nat → Prop} {N sp : Nat} {M : Nat → List MOp} {s : RoomS} {x : RoomX} (h : RoomD w r F I N sp M s x) {w' : World} (hb : Below w.heap.size w w') : RoomDTo r N sp F I w w' x.rbs M s := ⟨F, I, x, h.keep hb, rfl, Keeps.of_below hb, fun k hk => ⟨hk, hb.block k (h.m.iI k hk)⟩, fun _ hk => .inl hk⟩
theorem RoomD.wroteTo {w : World} {r : Nat} {F I : Nat → Prop} {N sp : Nat} {M : Nat → List MOp} {s : RoomS} {x : RoomX} (h : RoomD w r F I N sp M s x) {W w' : World} (hb : Below w.heap.size w W) {c : Nat} (hc : c < N) (hl : s.has c c < 60) {chg : QChg} (hok : ChgOk (M c) chg) (hw : WroteM (x.Fc c) I N sp c (x.rbs c) (s.gt c) (s.has c) (s.ops c) (s.early c) (x.q c) W w' chg) : WroteD r N sp F I w w' x.rbs M s c chg := by
  obtain ⟨t, v, F', I', q', hr, hs, hk, hi1, hi2⟩ := hw
  have hW := h.m.keep hb
  obtain ⟨x', hR, hK, e1, _⟩ := hW.copyTo hc hr hk hi1 hi2 hs.1 hs.2.1
  have hown := h.ok.own c hc
  refine ⟨hl, t, v, _, I', x', ⟨hR, h.ok.wrote hc (by omega) chg t v, h.md.wrote hok⟩, e1, hK.before hb, fun k hk' => ⟨hi1 k hk', ?_⟩, fun k hk' => (hi2 k hk').imp id fun h => Nat.le_trans hb.size h⟩
  exact (hK.other k (Nat.lt_of_lt_of_le (h.m.iI k hk') hb.size) (h.m.nI k hk')).trans (hb.block k (h.m.iI k hk'))

set_option maxRecDepth 1000000 in
set_option maxHeartbeats 4000000 in
/-- PUT. -/
theorem gPut {w : World} {r : Nat} {F I : Nat → Prop} {N sp : Nat} {M : Nat → List MOp} {s : RoomS} {x : RoomX} (h : RoomD w r F I N sp M s x) {c : Nat} (hc : c < N) (x1 x2 n : Int) (key : ByteArray) (hks : key.size ≤ maxLen) :
    Calls Tryz.prog 23 #[.pointer (some ⟨r, 0, none⟩), .int .i64 c, .agg #[.int .i64 x1, .int .i64 x2], .string key, .int .i64 n] w fun e w' => PutD r N sp F I M s x c x1 x2 n key w e w' := by
  have HB := hid ((Below.refl w.heap.size w).alloc (Nat.le_refl _) (.cells #[.int .i64 x1, .int .i64 x2] 36))
  have HA := hid (atKey_any (h.keep HB.out) c hc x1 x2 key hks)
  have HX0 := hid (blk_new w (.cells #[.int .i64 x1, .int .i64 x2] 36))
  have HSN := hid (fun W (hb : Below w.heap.size w W) => setNumber_any ((h.keep hb).m.reps c hc) (h.wri hc) (x1, x2) (0, 0) key n)
  have HH := hid h; clear h
  go_enter Tryz.func23, Tryz.ntmps23
  go_wp2_with fail
  refine HA.out.mono ?_
  rintro e w1 ⟨hb1, hat⟩
  have HB1 := hid (HB.out.trans (hb1.mono HB.out.size)); clear hb1
  have hz1 := HB1.out.size
  rcases hat with ⟨m, hm, hp, rfl⟩ | ⟨o, ho, hol, hko, hkd, rfl⟩
  · have HE := hid hp; clear hp
    rcases hm with rfl | rfl | rfl
    all_goals go_wp2
    all_goals go_ret
    all_goals exact (show _ ∨ _ from .inl ⟨_, .inl HE.out, rfl, HH.out.left (HB1.out.alloc hz1 _)⟩)
  · have HPL := hid (And.intro ho (And.intro hol hko)); clear hkd
    have HBW := hid (HB1.out.alloc hz1 (.cells #[.int .i64 x1, .int .i64 x2, .string key, .int .i64 0, .int .i64 0] 97))
    have HS := hid (HSN.out _ HBW.out)
    clear ho hol hko
    go_wp2_with fail
    refine HS.out.mono ?_
    rintro e w2 (⟨hl, rfl, ss, hp, ha, hw⟩ | ⟨hl, rfl, hb⟩)
    · have HW := hid (And.intro hl (And.intro hp (And.intro ha hw))); clear hw hl hp ha
      go_wp2
      go_ret
      obtain ⟨hl, hp, ha, hw⟩ := HW.out
      exact (show _ ∨ _ from .inr ⟨o, ss, HPL.out.1, HPL.out.2.1, HPL.out.2.2, hp, ha, rfl, HH.out.wroteTo HBW.out hc hl ⟨fun _ => rfl, .inl rfl⟩ hw⟩)
    · have HW := hid (And.intro hl (HBW.out.trans (hb.mono HBW.out.size))); clear hb hl
      go_wp2
      go_ret
      exact (show _ ∨ _ from .inl ⟨8, .inr ⟨rfl, Int.not_lt.2 HW.out.1⟩, rfl, HH.out.left HW.out.2⟩)

set_option maxRecDepth 1000000 in
set_option maxHeartbeats 4000000 in
/-- SETAT. -/
theorem gSetAt {w : World} {r : Nat} {F I : Nat → Prop} {N sp : Nat} {M : Nat → List MOp} {s : RoomS} {x : RoomX} (h : RoomD w r F I N sp M s x) {c : Nat} (hc : c < N) (x1 x2 i n : Int) :
    Calls Tryz.prog 33 #[.pointer (some ⟨r, 0, none⟩), .int .i64 c, .agg #[.int .i64 x1, .int .i64 x2], .int .i64 i, .int .i64 n] w fun e w' => SetAtD r N sp F I M s x c x1 x2 i n w e w' := by
  have HB := hid ((Below.refl w.heap.size w).alloc (Nat.le_refl _) (.cells #[.int .i64 x1, .int .i64 x2] 36))
  have HA := hid (atElement_any (h.keep HB.out) c hc x1 x2 i)
  have HSN := hid (fun W (hb : Below w.heap.size w W) (y : PId) => setNumber_any ((h.keep hb).m.reps c hc) (h.wri hc) (x1, x2) y ⟨#[]⟩ n)
  have HH := hid h; clear h
  go_enter Tryz.func33, Tryz.ntmps33
  go_wp2_with fail
  refine HA.out.mono ?_
  rintro e w1 ⟨hb1, hat⟩
  have HB1 := hid (HB.out.trans (hb1.mono HB.out.size)); clear hb1
  have hz1 := HB1.out.size
  rcases hat with ⟨m, hm, hp, rfl⟩ | ⟨o, ho, hol, hel, ⟨hi, rfl⟩ | ⟨hi, y, hy, rfl⟩⟩
  · have HE := hid hp; clear hp
    rcases hm with rfl | rfl
    all_goals go_wp2
    all_goals go_ret
    all_goals exact (show _ ∨ _ from .inl ⟨_, .inl HE.out, rfl, HH.out.left (HB1.out.alloc hz1 _)⟩)
  · have HE := hid (And.intro ho (And.intro hol hi)); clear hel ho hol hi
    go_wp2
    go_ret
    exact (show _ ∨ _ from .inl ⟨_, .inr (.inl ⟨rfl, o, HE.out⟩), rfl, HH.out.left (HB1.out.alloc hz1 _)⟩)
  · have HPL := hid (And.intro ho (And.intro hol (And.intro hi hy)))
    have HBW := hid (HB1.out.alloc hz1 (.cells #[.int .i64 x1, .int .i64 x2, .string ⟨#[]⟩, .int .i64 y.1, .int .i64 y.2] 97))
    have HS := hid (HSN.out _ HBW.out y)
    clear ho hol hel hi hy
    go_wp2_with fail
    refine HS.out.mono ?_
    rintro e w2 (⟨hl, rfl, ss, hp, ha, hw⟩ | ⟨hl, rfl, hb⟩)
    · have HW := hid (And.intro hl (And.intro hp (And.intro ha hw))); clear hw hl hp ha
      go_wp2
      go_ret
      obtain ⟨hl, hp, ha, hw⟩ := HW.out
      exact (show _ ∨ _ from .inr ⟨o, y, ss, HPL.out.1, HPL.out.2.1, HPL.out.2.2.1, HPL.out.2.2.2, hp, ha, rfl, HH.out.wroteTo HBW.out hc hl ⟨fun hne => absurd rfl hne, .inl rfl⟩ hw⟩)
    · have HW := hid (And.intro hl (HBW.out.trans (hb.mono HBW.out.size))); clear hb hl
      go_wp2
      go_ret
      exact (show _ ∨ _ from .inl ⟨8, .inr (.inr ⟨⟨rfl, Int.not_lt.2 HW.out.1⟩, o, HPL.out.1, HPL.out.2.1, HPL.out.2.2.1⟩), rfl, HH.out.left HW.out.2⟩)

set_option maxRecDepth 1000000 in
set_option maxHeartbeats 4000000 in
/-- CUTAT. -/
theorem gCutAt {w : World} {r : Nat} {F I : Nat → Prop} {N sp : Nat} {M : Nat → List MOp} {s : RoomS} {x : RoomX} (h : RoomD w r F I N sp M s x) {c : Nat} (hc : c < N) (x1 x2 i : Int) :
    Calls Tryz.prog 34 #[.pointer (some ⟨r, 0, none⟩), .int .i64 c, .agg #[.int .i64 x1, .int .i64 x2], .int .i64 i] w fun e w' => CutAtD r N sp F I M s x c x1 x2 i w e w' := by
  have HB := hid ((Below.refl w.heap.size w).alloc (Nat.le_refl _) (.cells #[.int .i64 x1, .int .i64 x2] 36))
  have HA := hid (atElement_any (h.keep HB.out) c hc x1 x2 i)
  have HSN := hid (fun W (hb : Below w.heap.size w W) (y : PId) => repCut_any ((h.keep hb).m.reps c hc) (h.wri hc) (x1, x2) y ⟨#[]⟩)
  have HH := hid h; clear h
  go_enter Tryz.func34, Tryz.ntmps34
  go_wp2_with fail
  refine HA.out.mono ?_
  rintro e w1 ⟨hb1, hat⟩
  have HB1 := hid (HB.out.trans (hb1.mono HB.out.size)); clear hb1
  have hz1 := HB1.out.size
  rcases hat with ⟨m, hm, hp, rfl⟩ | ⟨o, ho, hol, hel, ⟨hi, rfl⟩ | ⟨hi, y, hy, rfl⟩⟩
  · have HE := hid hp; clear hp
    rcases hm with rfl | rfl
    all_goals go_wp2
    all_goals go_ret
    all_goals exact (show _ ∨ _ from .inl ⟨_, .inl HE.out, rfl, HH.out.left (HB1.out.alloc hz1 _)⟩)
  · have HE := hid (And.intro ho (And.intro hol hi)); clear hel ho hol hi
    go_wp2
    go_ret
    exact (show _ ∨ _ from .inl ⟨_, .inr (.inl ⟨rfl, o, HE.out⟩), rfl, HH.out.left (HB1.out.alloc hz1 _)⟩)
  · have HPL := hid (And.intro ho (And.intro hol (And.intro hi hy)))
    have HBW := hid (HB1.out.alloc hz1 (.cells #[.int .i64 x1, .int .i64 x2, .string ⟨#[]⟩, .int .i64 y.1, .int .i64 y.2] 97))
    have HS := hid (HSN.out _ HBW.out y)
    clear ho hol hel hi hy
    go_wp2_with fail
    refine HS.out.mono ?_
    rintro e w2 (⟨hl, rfl, ss, hp, ha, hw⟩ | ⟨hl, rfl, hb⟩)
    · have HW := hid (And.intro hl (And.intro hp (And.intro ha hw))); clear hw hl hp ha
      go_wp2
      go_ret
      obtain ⟨hl, hp, ha, hw⟩ := HW.out
      exact (show _ ∨ _ from .inr ⟨o, y, ss, HPL.out.1, HPL.out.2.1, HPL.out.2.2.1, HPL.out.2.2.2, hp, ha, rfl, HH.out.wroteTo HBW.out hc hl (fun hne => absurd rfl hne) hw⟩)
    · have HW := hid (And.intro hl (HBW.out.trans (hb.mono HBW.out.size))); clear hb hl
      go_wp2
      go_ret
      exact (show _ ∨ _ from .inl ⟨8, .inr (.inr ⟨rfl, Int.not_lt.2 HW.out.1⟩), rfl, HH.out.left HW.out.2⟩)
end

end Go.Proofs.YtnkpogjiiohapaaGreatDoor
