/- Our own text (GWrA, GWrB). -/
import Derived.Test.YtnkpogjiiohapaaGreatDoorA32
set_option linter.unusedSimpArgs false
set_option linter.unusedVariables false

/-! GWrA: The program's room in general: what writing leaves; Put, SetAt, CutAt. -/
namespace Go.Proofs.YtnkpogjiiohapaaGreatDoor
open Go.RowKit
attribute [local go_sem ↓] Go.wp_at_zero Go.wp_at_succ

def wroteS (s : RoomS) (c : Nat) (chg : QChg) (t : TypeId) (v : Value) : RoomS := copyS s c (s.gt c + 1) (upd (s.has c) c (s.has c c + 1)) (s.ops c ++ [newOp c (s.gt c) (s.has c) chg t v]) (s.kept c ++ [newOp c (s.gt c) (s.has c) chg t v]) (s.early c)
/-- What a call leaves of a room. -/
def RoomDTo (r N sp : Nat) (F I : Nat → Prop) (w w' : World) (rbs : Nat → Nat) (M : Nat → List MOp) (s : RoomS) : Prop := ∃ F' I' x', RoomD w' r F' I' N sp M s x' ∧ x'.rbs = rbs ∧ Keeps F F' w w' ∧ IGo I I' w w'
def WroteD (r N sp : Nat) (F I : Nat → Prop) (w w' : World) (rbs : Nat → Nat) (M : Nat → List MOp) (s : RoomS) (c : Nat) (chg : QChg) : Prop := s.has c c < 60 ∧ ∃ t v, RoomDTo r N sp F I w w' rbs (addM M c (newOp c (s.gt c) (s.has c) chg t v)) (wroteS s c chg t v)

def PutD (r N sp : Nat) (F I : Nat → Prop) (M : Nat → List MOp) (s : RoomS) (x : RoomX) (c : Nat) (x1 x2 n : Int) (key : ByteArray) (w : World) (e : Ending) (w' : World) : Prop :=
      (∃ m, (keyedP (ROf (s.ops c)) (x1, x2) key = .error m ∨ (m = 8 ∧ ¬ s.has c c < 60)) ∧ e = .returned (.int .i64 m) ∧ RoomDTo r N sp F I w w' x.rbs M s) ∨
      (∃ o ss, objOf (ROf (s.ops c)) (x1, x2) = some o ∧ o.list = false ∧ keyOk key = true ∧ ss.Perm ((atPl (x.q c).D.1 (x.q c).D.2 (x1, x2) key (0, 0)).vs.map (·.1)) ∧ Asc ss ∧ e = .returned (.int .i64 0) ∧ WroteD r N sp F I w w' x.rbs M s c (.inr (.inr (.inl ((x1, x2), key, (0, 0), (n, (0, 0)), ss)))))
def SetAtD (r N sp : Nat) (F I : Nat → Prop) (M : Nat → List MOp) (s : RoomS) (x : RoomX) (c : Nat) (x1 x2 i n : Int) (w : World) (e : Ending) (w' : World) : Prop :=
      (∃ m, (elementsP (ROf (s.ops c)) (x1, x2) = .error m ∨ (m = 7 ∧ ∃ o, objOf (ROf (s.ops c)) (x1, x2) = some o ∧ o.list = true ∧ (i < 0 ∨ ((pseen o).length : Int) ≤ i)) ∨ ((m = 8 ∧ ¬ s.has c c < 60) ∧ ∃ o, objOf (ROf (s.ops c)) (x1, x2) = some o ∧ o.list = true ∧ ¬ (i < 0 ∨ ((pseen o).length : Int) ≤ i))) ∧ e = .returned (.int .i64 m) ∧ RoomDTo r N sp F I w w' x.rbs M s) ∨
      (∃ o y ss, objOf (ROf (s.ops c)) (x1, x2) = some o ∧ o.list = true ∧ ¬ (i < 0 ∨ ((pseen o).length : Int) ≤ i) ∧ (pseen o)[i.toNat]? = some y ∧ ss.Perm ((atPl (x.q c).D.1 (x.q c).D.2 (x1, x2) ⟨#[]⟩ y).vs.map (·.1)) ∧ Asc ss ∧ e = .returned (.int .i64 0) ∧ WroteD r N sp F I w w' x.rbs M s c (.inr (.inr (.inl ((x1, x2), ⟨#[]⟩, y, (n, (0, 0)), ss)))))
def CutAtD (r N sp : Nat) (F I : Nat → Prop) (M : Nat → List MOp) (s : RoomS) (x : RoomX) (c : Nat) (x1 x2 i : Int) (w : World) (e : Ending) (w' : World) : Prop :=
      (∃ m, (elementsP (ROf (s.ops c)) (x1, x2) = .error m ∨ (m = 7 ∧ ∃ o, objOf (ROf (s.ops c)) (x1, x2) = some o ∧ o.list = true ∧ (i < 0 ∨ ((pseen o).length : Int) ≤ i)) ∨ (m = 8 ∧ ¬ s.has c c < 60)) ∧ e = .returned (.int .i64 m) ∧ RoomDTo r N sp F I w w' x.rbs M s) ∨
      (∃ o y ss, objOf (ROf (s.ops c)) (x1, x2) = some o ∧ o.list = true ∧ ¬ (i < 0 ∨ ((pseen o).length : Int) ≤ i) ∧ (pseen o)[i.toNat]? = some y ∧ ss.Perm ((atPl (x.q c).D.1 (x.q c).D.2 (x1, x2) ⟨#[]⟩ y).vs.map (·.1)) ∧ Asc ss ∧ e = .returned (.int .i64 0) ∧ WroteD r N sp F I w w' x.rbs M s c (.inr (.inr (.inr ((x1, x2), ⟨#[]⟩, y, ss)))))

section
theorem RoomD.left {w : World} {r : Nat} {F I : Nat → Prop} {N sp : Nat} {M : Nat → List MOp} {s : RoomS} {x : RoomX} (h : RoomD w r F I N sp M s x) {w' : World} (hb : Below w.heap.size w w') : RoomDTo r N sp F I w w' x.rbs M s := ⟨F, I, x, h.keep hb, rfl, Keeps.of_below hb, fun k hk => ⟨hk, hb.block k (h.m.iI k hk)⟩, fun _ hk => .inl hk⟩
theorem RoomD.wroteTo {w : World} {r : Nat} {F I : Nat → Prop} {N sp : Nat} {M : Nat → List MOp} {s : RoomS} {x : RoomX} (h : RoomD w r F I N sp M s x) {W w' : World} (hb : Below w.heap.size w W) {c : Nat} (hc : c < N) (hl : s.has c c < 60) {chg : QChg} (hok : ChgOk (M c) chg) (hw : WroteM (x.Fc c) I N sp c (x.rbs c) (s.gt c) (s.has c) (s.kept c) (s.early c) (x.q c) W w' chg) : WroteD r N sp F I w w' x.rbs M s c chg := by
  obtain ⟨t, v, F', I', q', hr, hs, hk, hi1, hi2⟩ := hw
  have hW := h.m.keep hb
  obtain ⟨x', hR, hK, e1, _⟩ := hW.copyTo hc hr hk hi1 hi2 hs (ops' := s.ops c ++ [newOp c (s.gt c) (s.has c) chg t v]) (by rw [h.m.spl c hc, List.append_assoc])
  have hown := h.ok.own c hc
  refine ⟨hl, t, v, _, I', x', ⟨hR, h.ok.wrote hc (by omega) chg t v, h.md.wrote hok⟩, e1, hK.before hb, fun k hk' => ⟨hi1 k hk', ?_⟩, fun k hk' => (hi2 k hk').imp id fun h => Nat.le_trans hb.size h⟩
  exact (hK.other k (Nat.lt_of_lt_of_le (h.m.iI k hk') hb.size) (h.m.nI k hk')).trans (hb.block k (h.m.iI k hk'))

set_option maxRecDepth 1000000 in
set_option maxHeartbeats 4000000 in
/-- PUT. -/
theorem gPut {w : World} {r : Nat} {F I : Nat → Prop} {N sp : Nat} {M : Nat → List MOp} {s : RoomS} {x : RoomX} (h : RoomD w r F I N sp M s x) {c : Nat} (hc : c < N) (x1 x2 n : Int) (key : ByteArray) (hks : key.size ≤ maxLen) :
    Calls Tryz.prog 23 #[.pointer (some ⟨r, 0, none⟩), .int .i64 c, .agg #[.int .i64 x1, .int .i64 x2], .string key, .int .i64 n] w fun e w' => PutD r N sp F I M s x c x1 x2 n key w e w' := by
  have HB := hid ((Below.refl w.heap.size w).alloc (Nat.le_refl _) (.cells #[.int .i64 x1, .int .i64 x2] 36))
  have HA := hid (atKey_any (h.keep HB.out) c hc x1 x2 key hks)
  have HX0 := hid (blk_new w (.cells #[.int .i64 x1, .int .i64 x2] 36))
  have HSN := hid (fun W (hb : Below w.heap.size w W) => setNumber_any ((h.keep hb).m.reps c hc) (h.wri hc) (x1, x2) (0, 0) key n)
  have HH := hid h; clear h
  go_enter Tryz.func23, Tryz.ntmps23
  go_wp2_with fail
  refine HA.out.mono ?_
  rintro e w1 ⟨hb1, hat⟩
  have HB1 := hid (HB.out.trans (hb1.mono HB.out.size)); clear hb1
  have hz1 := HB1.out.size
  rcases hat with ⟨m, hm, hp, rfl⟩ | ⟨o, ho, hol, hko, hkd, rfl⟩
  · have HE := hid hp; clear hp
    rcases hm with rfl | rfl | rfl
    all_goals go_wp2
    all_goals go_ret
    all_goals exact (show _ ∨ _ from .inl ⟨_, .inl HE.out, rfl, HH.out.left (HB1.out.alloc hz1 _)⟩)
  · have HPL := hid (And.intro ho (And.intro hol hko)); clear hkd
    have HBW := hid (HB1.out.alloc hz1 (.cells #[.int .i64 x1, .int .i64 x2, .string key, .int .i64 0, .int .i64 0] 97))
    have HS := hid (HSN.out _ HBW.out)
    clear ho hol hko
    go_wp2_with fail
    refine HS.out.mono ?_
    rintro e w2 (⟨hl, rfl, ss, hp, ha, hw⟩ | ⟨hl, rfl, hb⟩)
    · have HW := hid (And.intro hl (And.intro hp (And.intro ha hw))); clear hw hl hp ha
      go_wp2
      go_ret
      obtain ⟨hl, hp, ha, hw⟩ := HW.out
      exact (show _ ∨ _ from .inr ⟨o, ss, HPL.out.1, HPL.out.2.1, HPL.out.2.2, hp, ha, rfl, HH.out.wroteTo HBW.out hc hl ⟨fun _ => rfl, .inl rfl⟩ hw⟩)
    · have HW := hid (And.intro hl (HBW.out.trans (hb.mono HBW.out.size))); clear hb hl
      go_wp2
      go_ret
      exact (show _ ∨ _ from .inl ⟨8, .inr ⟨rfl, Int.not_lt.2 HW.out.1⟩, rfl, HH.out.left HW.out.2⟩)

set_option maxRecDepth 1000000 in
set_option maxHeartbeats 4000000 in
/-- SETAT. -/
theorem gSetAt {w : World} {r : Nat} {F I : Nat → Prop} {N sp : Nat} {M : Nat → List MOp} {s : RoomS} {x : RoomX} (h : RoomD w r F I N sp M s x) {c : Nat} (hc : c < N) (x1 x2 i n : Int) :
    Calls Tryz.prog 33 #[.pointer (some ⟨r, 0, none⟩), .int .i64 c, .agg #[.int .i64 x1, .int .i64 x2], .int .i64 i, .int .i64 n] w fun e w' => SetAtD r N sp F I M s x c x1 x2 i n w e w' := by
  have HB := hid ((Below.refl w.heap.size w).alloc (Nat.le_refl _) (.cells #[.int .i64 x1, .int .i64 x2] 36))
  have HA := hid (atElement_any (h.keep HB.out) c hc x1 x2 i)
  have HSN := hid (fun W (hb : Below w.heap.size w W) (y : PId) => setNumber_any ((h.keep hb).m.reps c hc) (h.wri hc) (x1, x2) y ⟨#[]⟩ n)
  have HH := hid h; clear h
  go_enter Tryz.func33, Tryz.ntmps33
  go_wp2_with fail
  refine HA.out.mono ?_
  rintro e w1 ⟨hb1, hat⟩
  have HB1 := hid (HB.out.trans (hb1.mono HB.out.size)); clear hb1
  have hz1 := HB1.out.size
  rcases hat with ⟨m, hm, hp, rfl⟩ | ⟨o, ho, hol, hel, ⟨hi, rfl⟩ | ⟨hi, y, hy, rfl⟩⟩
  · have HE := hid hp; clear hp
    rcases hm with rfl | rfl
    all_goals go_wp2
    all_goals go_ret
    all_goals exact (show _ ∨ _ from .inl ⟨_, .inl HE.out, rfl, HH.out.left (HB1.out.alloc hz1 _)⟩)
  · have HE := hid (And.intro ho (And.intro hol hi)); clear hel ho hol hi
    go_wp2
    go_ret
    exact (show _ ∨ _ from .inl ⟨_, .inr (.inl ⟨rfl, o, HE.out⟩), rfl, HH.out.left (HB1.out.alloc hz1 _)⟩)
  · have HPL := hid (And.intro ho (And.intro hol (And.intro hi hy)))
    have HBW := hid (HB1.out.alloc hz1 (.cells #[.int .i64 x1, .int .i64 x2, .string ⟨#[]⟩, .int .i64 y.1, .int .i64 y.2] 97))
    have HS := hid (HSN.out _ HBW.out y)
    clear ho hol hel hi hy
    go_wp2_with fail
    refine HS.out.mono ?_
    rintro e w2 (⟨hl, rfl, ss, hp, ha, hw⟩ | ⟨hl, rfl, hb⟩)
    · have HW := hid (And.intro hl (And.intro hp (And.intro ha hw))); clear hw hl hp ha
      go_wp2
      go_ret
      obtain ⟨hl, hp, ha, hw⟩ := HW.out
      exact (show _ ∨ _ from .inr ⟨o, y, ss, HPL.out.1, HPL.out.2.1, HPL.out.2.2.1, HPL.out.2.2.2, hp, ha, rfl, HH.out.wroteTo HBW.out hc hl ⟨fun hne => absurd rfl hne, .inl rfl⟩ hw⟩)
    · have HW := hid (And.intro hl (HBW.out.trans (hb.mono HBW.out.size))); clear hb hl
      go_wp2
      go_ret
      exact (show _ ∨ _ from .inl ⟨8, .inr (.inr ⟨⟨rfl, Int.not_lt.2 HW.out.1⟩, o, HPL.out.1, HPL.out.2.1, HPL.out.2.2.1⟩), rfl, HH.out.left HW.out.2⟩)

set_option maxRecDepth 1000000 in
set_option maxHeartbeats 4000000 in
/-- CUTAT. -/
theorem gCutAt {w : World} {r : Nat} {F I : Nat → Prop} {N sp : Nat} {M : Nat → List MOp} {s : RoomS} {x : RoomX} (h : RoomD w r F I N sp M s x) {c : Nat} (hc : c < N) (x1 x2 i : Int) :
    Calls Tryz.prog 34 #[.pointer (some ⟨r, 0, none⟩), .int .i64 c, .agg #[.int .i64 x1, .int .i64 x2], .int .i64 i] w fun e w' => CutAtD r N sp F I M s x c x1 x2 i w e w' := by
  have HB := hid ((Below.refl w.heap.size w).alloc (Nat.le_refl _) (.cells #[.int .i64 x1, .int .i64 x2] 36))
  have HA := hid (atElement_any (h.keep HB.out) c hc x1 x2 i)
  have HSN := hid (fun W (hb : Below w.heap.size w W) (y : PId) => repCut_any ((h.keep hb).m.reps c hc) (h.wri hc) (x1, x2) y ⟨#[]⟩)
  have HH := hid h; clear h
  go_enter Tryz.func34, Tryz.ntmps34
  go_wp2_with fail
  refine HA.out.mono ?_
  rintro e w1 ⟨hb1, hat⟩
  have HB1 := hid (HB.out.trans (hb1.mono HB.out.size)); clear hb1
  have hz1 := HB1.out.size
  rcases hat with ⟨m, hm, hp, rfl⟩ | ⟨o, ho, hol, hel, ⟨hi, rfl⟩ | ⟨hi, y, hy, rfl⟩⟩
  · have HE := hid hp; clear hp
    rcases hm with rfl | rfl
    all_goals go_wp2
    all_goals go_ret
    all_goals exact (show _ ∨ _ from .inl ⟨_, .inl HE.out, rfl, HH.out.left (HB1.out.alloc hz1 _)⟩)
  · have HE := hid (And.intro ho (And.intro hol hi)); clear hel ho hol hi
    go_wp2
    go_ret
    exact (show _ ∨ _ from .inl ⟨_, .inr (.inl ⟨rfl, o, HE.out⟩), rfl, HH.out.left (HB1.out.alloc hz1 _)⟩)
  · have HPL := hid (And.intro ho (And.intro hol (And.intro hi hy)))
    have HBW := hid (HB1.out.alloc hz1 (.cells #[.int .i64 x1, .int .i64 x2, .string ⟨#[]⟩, .int .i64 y.1, .int .i64 y.2] 97))
    have HS := hid (HSN.out _ HBW.out y)
    clear ho hol hel hi hy
    go_wp2_with fail
    refine HS.out.mono ?_
    rintro e w2 (⟨hl, rfl, ss, hp, ha, hw⟩ | ⟨hl, rfl, hb⟩)
    · have HW := hid (And.intro hl (And.intro hp (And.intro ha hw))); clear hw hl hp ha
      go_wp2
      go_ret
      obtain ⟨hl, hp, ha, hw⟩ := HW.out
      exact (show _ ∨ _ from .inr ⟨o, y, ss, HPL.out.1, HPL.out.2.1, HPL.out.2.2.1, HPL.out.2.2.2, hp, ha, rfl, HH.out.wroteTo HBW.out hc hl (fun hne => absurd rfl hne) hw⟩)
    · have HW := hid (And.intro hl (HBW.out.trans (hb.mono HBW.out.size))); clear hb hl
      go_wp2
      go_ret
      exact (show _ ∨ _ from .inl ⟨8, .inr (.inr ⟨rfl, Int.not_lt.2 HW.out.1⟩), rfl, HH.out.left HW.out.2⟩)
end

end Go.Proofs.YtnkpogjiiohapaaGreatDoor

/-! GWrB: The program's room in general: Cut, Elements. -/
namespace Go.Proofs.YtnkpogjiiohapaaGreatDoor
open Go.RowKit
attribute [local go_sem ↓] Go.wp_at_zero Go.wp_at_succ

def CutD (r N sp : Nat) (F I : Nat → Prop) (M : Nat → List MOp) (s : RoomS) (x : RoomX) (c : Nat) (x1 x2 : Int) (key : ByteArray) (w : World) (e : Ending) (w' : World) : Prop :=
  (∃ m, (keyedP (ROf (s.ops c)) (x1, x2) key = .error m ∨ (m = 6 ∧ (atPl (x.q c).D.1 (x.q c).D.2 (x1, x2) key (0, 0)).vs = []) ∨ (m = 8 ∧ ¬ s.has c c < 60)) ∧ e = .returned (.int .i64 m) ∧ RoomDTo r N sp F I w w' x.rbs M s) ∨
  (∃ o ss, objOf (ROf (s.ops c)) (x1, x2) = some o ∧ o.list = false ∧ keyOk key = true ∧ ss.Perm ((atPl (x.q c).D.1 (x.q c).D.2 (x1, x2) key (0, 0)).vs.map (·.1)) ∧ Asc ss ∧ e = .returned (.int .i64 0) ∧ (atPl (x.q c).D.1 (x.q c).D.2 (x1, x2) key (0, 0)).vs ≠ [] ∧ WroteD r N sp F I w w' x.rbs M s c (.inr (.inr (.inr ((x1, x2), key, (0, 0), ss)))))
def ElsD (r N sp : Nat) (F I : Nat → Prop) (M : Nat → List MOp) (s : RoomS) (x : RoomX) (c : Nat) (x1 x2 : Int) (w : World) (e : Ending) (w' : World) : Prop :=
  Below w.heap.size w w' ∧ ((∃ n, elementsP (ROf (s.ops c)) (x1, x2) = .error n ∧ e = .returned (.tuple #[.slice none 0 0, .int .i64 n])) ∨ (∃ v l, elementsP (ROf (s.ops c)) (x1, x2) = .ok l ∧ l.length ≤ 300 ∧ e = .returned (.tuple #[v, .int .i64 0]) ∧ ownIds w.heap.size w' v l))

section
set_option maxRecDepth 1000000 in
set_option maxHeartbeats 4000000 in
/-- CUT. -/
theorem gCut {w : World} {r : Nat} {F I : Nat → Prop} {N sp : Nat} {M : Nat → List MOp} {s : RoomS} {x : RoomX} (h : RoomD w r F I N sp M s x) {c : Nat} (hc : c < N) (x1 x2 : Int) (key : ByteArray) (hks : key.size ≤ maxLen) :
    Calls Tryz.prog 78 #[.pointer (some ⟨r, 0, none⟩), .int .i64 c, .agg #[.int .i64 x1, .int .i64 x2], .string key] w fun e w' => CutD r N sp F I M s x c x1 x2 key w e w' := by
  have HB := hid ((Below.refl w.heap.size w).alloc (Nat.le_refl _) (.cells #[.int .i64 x1, .int .i64 x2] 36))
  have HA := hid (atKey_any (h.keep HB.out) c hc x1 x2 key hks)
  have HD := hid (fun W (hb : Below w.heap.size w W) => document_any ((h.keep hb).m.reps c hc))
  have hvk := (h.wri hc).vals (x1, x2) key (0, 0)
  have HV := hid (fun W (hb : Below w.heap.size w W) => qvalues_any ((h.keep hb).m.reps c hc).hist.q x1 x2 0 0 key hvk.1 hvk.2)
  have HS := hid (fun W (hb : Below w.heap.size w W) => repCut_any ((h.keep hb).m.reps c hc) (h.wri hc) (x1, x2) (0, 0) key)
  have HVL := hid hvk.1
  have HH := hid h; clear h hvk
  go_enter Tryz.func78, Tryz.ntmps78
  go_wp2_with fail
  refine HA.out.mono ?_
  rintro e w1 ⟨hb1, hat⟩
  have HB1 := hid (HB.out.trans (hb1.mono HB.out.size)); clear hb1
  have hz1 := HB1.out.size
  rcases hat with ⟨m, hm, hp, rfl⟩ | ⟨o, ho, hol, hko, hkd, rfl⟩
  · have HE := hid hp; clear hp
    rcases hm with rfl | rfl | rfl
    all_goals go_wp2
    all_goals go_ret
    all_goals exact (show _ ∨ _ from .inl ⟨_, .inl HE.out, rfl, HH.out.left (HB1.out.alloc hz1 _)⟩)
  · have HPL := hid (And.intro ho (And.intro hol hko)); clear hkd ho hol hko
    have HBW := hid (HB1.out.alloc hz1 (.cells #[.int .i64 x1, .int .i64 x2, .string key, .int .i64 0, .int .i64 0] 97))
    have HX1 := hid (blk_new w1 (.cells #[.int .i64 x1, .int .i64 x2, .string key, .int .i64 0, .int .i64 0] 97))
    go_wp2_with fail
    go_region_held3 (fun W => W.cell? ⟨w1.heap.size, 0, none⟩ = some (.int .i64 x1) ∧ W.cell? ⟨w1.heap.size, 1, none⟩ = some (.int .i64 x2) ∧ W.cell? ⟨w1.heap.size, 2, none⟩ = some (.string key) ∧ W.cell? ⟨w1.heap.size, 3, none⟩ = some (.int .i64 0) ∧ W.cell? ⟨w1.heap.size, 4, none⟩ = some (.int .i64 0)) (first | exact blk5 HX1.out | exact blk5 HX3.out | exact blk5 HX2.out)
      (first
        | (go_at_call 48; refine (HD.out _ HBW.out.drew).mono ?_; rintro e w2 ⟨rfl, hb2⟩; have HX2 := hid (blk_keep HX1.out (Hid.out (below_drew_left hb2))); have HB2 := hid (HBW.out.drew.trans (hb2.mono HBW.out.size)); clear hb2)
        | (go_at_call 49; refine (HV.out w2 HB2.out).mono ?_; rintro e w3 ⟨u, vs', rfl, hp, ha, hu, hb3⟩; obtain ⟨ua, uc, rfl, _, _, _⟩ := owns_form hu; rw [List.length_map, hp.length_eq]; have HX3 := hid (blk_keep HX2.out hb3); have HB3 := hid (HB2.out.trans (hb3.mono HB2.out.size)); clear hu hb3 hp ha))
    obtain ⟨z0, z1, z2, z3, z4⟩ := blk5 HX3.out
    obtain ⟨nv, hnv⟩ : ∃ nv, nv = (atPl (x.q c).D.1 (x.q c).D.2 (x1, x2) key (0, 0)).vs.length := ⟨_, rfl⟩
    rw [← hnv]
    have HNV := hid hnv
    clear hnv
    by_cases h0 : nv = 0
    · subst h0
      go_wp2
      go_ret
      exact (show _ ∨ _ from .inl ⟨6, .inr (.inl ⟨rfl, List.eq_nil_of_length_eq_zero HNV.out.symm⟩), rfl, HH.out.left HB3.out⟩)
    · have hnb : nv ≤ 10000 := by rw [HNV.out]; exact HVL.out
      have h0' : ¬ (nv : Int) = 0 := by omega
      go_wp2_with fail
      refine (HS.out w3 HB3.out).mono ?_
      rintro e w4 (⟨hl, rfl, ss, hp, ha, hw⟩ | ⟨hl, rfl, hb⟩)
      · have HW := hid (And.intro hl (And.intro hp (And.intro ha hw))); clear hw hl hp ha
        go_wp2
        go_ret
        obtain ⟨hl, hp, ha, hw⟩ := HW.out
        exact (show _ ∨ _ from .inr ⟨o, ss, HPL.out.1, HPL.out.2.1, HPL.out.2.2, hp, ha, rfl, fun e0 => h0 (by rw [HNV.out, e0]; rfl), HH.out.wroteTo HB3.out hc hl (fun _ => rfl) hw⟩)
      · have HW := hid (And.intro hl (HB3.out.trans (hb.mono HB3.out.size))); clear hb hl
        go_wp2
        go_ret
        exact (show _ ∨ _ from .inl ⟨8, .inr (.inr ⟨rfl, Int.not_lt.2 HW.out.1⟩), rfl, HH.out.left HW.out.2⟩)

set_option maxRecDepth 1000000 in
set_option maxHeartbeats 4000000 in
/-- ELEMENTS. -/
theorem gElements {w : World} {r : Nat} {F I : Nat → Prop} {N sp : Nat} {M : Nat → List MOp} {s : RoomS} {x : RoomX} (h : RoomD w r F I N sp M s x) {c : Nat} (hc : c < N) (x1 x2 : Int) :
    Calls Tryz.prog 29 #[.pointer (some ⟨r, 0, none⟩), .int .i64 c, .agg #[.int .i64 x1, .int .i64 x2]] w fun e w' => ElsD r N sp F I M s x c x1 x2 w e w' := by
  have HB := hid ((Below.refl w.heap.size w).alloc (Nat.le_refl _) (.cells #[.int .i64 x1, .int .i64 x2] 36))
  have HX0 := hid (blk_new w (.cells #[.int .i64 x1, .int .i64 x2] 36))
  have HA := hid (inObject_any (h.keep HB.out) c hc x1 x2 true)
  have HD := hid (fun W (hb : Below w.heap.size w W) => document_any ((h.keep hb).m.reps c hc))
  have HV0 := hid (fun o (ho : objOf (ROf (s.ops c)) (x1, x2) = some o) (hl : o.list = true) => (h.m.reps c hc).elements (h.ag hc) ho hl (Nat.le_trans (h.slots hc ho hl) (by omega)))
  have HSL := hid (fun o (ho : objOf (ROf (s.ops c)) (x1, x2) = some o) (hl : o.list = true) => h.slots hc ho hl)
  have HH := hid h; clear h
  go_enter Tryz.func29, Tryz.ntmps29
  go_wp2_with fail
  refine HA.out.mono ?_
  rintro e w1 ⟨hb1, hat⟩
  have HX1 := hid (blk_keep HX0.out hb1)
  have HB1 := hid (HB.out.trans (hb1.mono HB.out.size)); clear hb1
  rcases hat with ⟨m, hm, hp, rfl⟩ | ⟨o, ho, hol, rfl⟩
  · have HE := hid (elements_err hp); clear hp
    rcases hm with rfl | rfl
    all_goals go_wp2
    all_goals go_ret2
    all_goals exact (show _ ∧ _ from ⟨HB1.out, .inl ⟨_, HE.out, rfl⟩⟩)
  · have HE := hid (elements_of ho hol)
    have HV := hid (HV0.out o ho hol)
    have HL := hid (show (pseen o).length ≤ 300 by
      have h1 := HSL.out o ho hol
      have h3 : (pseen o).length ≤ o.ss.length := by unfold pseen; rw [List.length_map]; exact List.length_filter_le _ _
      omega)
    clear ho hol HV0 HSL
    go_wp2_with fail
    go_region_held3 (fun W => W.cell? ⟨w.heap.size, 0, none⟩ = some (.int .i64 x1) ∧ W.cell? ⟨w.heap.size, 1, none⟩ = some (.int .i64 x2)) (first | exact blk2 HX1.out | exact blk2 HX3.out | exact blk2 HX2.out)
      (first
        | (go_at_call 48; refine (HD.out _ HB1.out.drew).mono ?_; rintro e w2 ⟨rfl, hb2⟩; have HX2 := hid (blk_keep HX1.out (Hid.out (below_drew_left hb2))); have HB2 := hid (HB1.out.drew.trans (hb2.mono HB1.out.size)); clear hb2)
        | (go_at_call 57; refine (HV.out w2 HB2.out).mono ?_; rintro e w3 ⟨u, rfl, hu, hb3⟩; have HX3 := hid (blk_keep HX2.out hb3); have HB3 := hid (HB2.out.trans (hb3.mono HB2.out.size)); have HU := hid (show ownIds w.heap.size w3 u (pseen o) from owns_mono hu HB2.out.size); clear hu hb3; obtain ⟨ua, uc, rfl, _, _, _⟩ := owns_form HU.out))
    all_goals go_wp2
    all_goals go_ret2
    all_goals exact (show _ ∧ _ from ⟨HB3.out, .inr ⟨_, _, HE.out, HL.out, rfl, HU.out⟩⟩)
end

end Go.Proofs.YtnkpogjiiohapaaGreatDoor
