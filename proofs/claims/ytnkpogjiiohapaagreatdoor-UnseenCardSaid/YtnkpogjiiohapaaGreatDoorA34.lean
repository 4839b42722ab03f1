/- Our own text (GWrC, GWrD, GTxtA). -/
import Derived.Test.YtnkpogjiiohapaaGreatDoorA33
import Derived.Test.YtnkpogjiiohapaaGreatDoorA11
set_option linter.unusedSimpArgs false
set_option linter.unusedVariables false

/-! GWrC: The program's room in general: Nest. -/
namespace Go.Proofs.YtnkpogjiiohapaaGreatDoor
open Go.RowKit
attribute [local go_sem ↓] Go.wp_at_zero Go.wp_at_succ

theorem res01G {w : World} {g : Nat} {a b : Value} {t : TypeId} (h : w.heap[g]? = some (.cells #[a, b] t (0, 0))) (u v : Value) (o : Obj) : (((w.setCell ⟨g, 0, none⟩ u).setCell ⟨g, 1, none⟩ v).alloc o).cell? ⟨g, 0, none⟩ = some u ∧ (((w.setCell ⟨g, 0, none⟩ u).setCell ⟨g, 1, none⟩ v).alloc o).cell? ⟨g, 1, none⟩ = some v :=
  blk2 (blk_keep (set2bothG h) ((Below.refl _ _).alloc (Nat.le_refl _) _))
/-- One more operation's change of a room. -/
def doneM (M : Nat → List MOp) (s : RoomS) (c : Nat) (chg : QChg) (t : TypeId) (v : Value) : Nat → List MOp := addM M c (newOp c (s.gt c) (s.has c) chg t v)
/-- What a step leaves, with no block taken from outside. -/
def Stepped (r N sp : Nat) (F I : Nat → Prop) (w w' : World) (rbs : Nat → Nat) (M : Nat → List MOp) (s : RoomS) (F' I' : Nat → Prop) (x' : RoomX) : Prop := RoomD w' r F' I' N sp M s x' ∧ x'.rbs = rbs ∧ Keeps F F' w w' ∧ (∀ k, I k → I' k) ∧ ∀ k, I' k → I k ∨ w.heap.size ≤ k
/-- Two operations: one, then a value given to a place. -/
def TwoD (r N sp : Nat) (F I : Nat → Prop) (w w' : World) (rbs : Nat → Nat) (M : Nat → List MOp) (s : RoomS) (c : Nat) (chg : QChg) (ob : PId) (key : ByteArray) (el : PId) (val : PVal) : Prop :=
  s.has c c + 2 ≤ 60 ∧ ∃ t v D1 ss t' v', Agree (ROf ((wroteS s c chg t v).ops c)) D1 ∧ QNd D1 ∧ ss.Perm ((atPl D1.1 D1.2 ob key el).vs.map (·.1)) ∧ Asc ss ∧
    RoomDTo r N sp F I w w' rbs (doneM (doneM M s c chg t v) (wroteS s c chg t v) c (.inr (.inr (.inl (ob, key, el, val, ss)))) t' v') (wroteS (wroteS s c chg t v) c (.inr (.inr (.inl (ob, key, el, val, ss)))) t' v')
def NestD (r N sp : Nat) (F I : Nat → Prop) (M : Nat → List MOp) (s : RoomS) (x : RoomX) (c : Nat) (x1 x2 : Int) (key : ByteArray) (lst : Bool) (w : World) (e : Ending) (w' : World) : Prop :=
  (∃ m, (keyedP (ROf (s.ops c)) (x1, x2) key = .error m ∨ (m = 8 ∧ ¬ s.has c c + 2 ≤ 60)) ∧ e = .returned (.tuple #[.agg #[.int .i64 0, .int .i64 0], .int .i64 m]) ∧ RoomDTo r N sp F I w w' x.rbs M s) ∨
  (∃ o, objOf (ROf (s.ops c)) (x1, x2) = some o ∧ o.list = false ∧ keyOk key = true ∧ e = .returned (.tuple #[.agg #[.int .i64 (s.gt c + 1), .int .i64 c], .int .i64 0]) ∧ TwoD r N sp F I w w' x.rbs M s c (.inl lst) (x1, x2) key (0, 0) (0, (s.gt c + 1, (c : Int))))

section
theorem RoomD.step {w : World} {r : Nat} {F I : Nat → Prop} {N sp : Nat} {M : Nat → List MOp} {s : RoomS} {x : RoomX} (h : RoomD w r F I N sp M s x) {w' : World} {c : Nat} (hc : c < N) (hl : s.has c c < 60) {chg : QChg} (hok : ChgOk (M c) chg) (hw : WroteM (x.Fc c) I N sp c (x.rbs c) (s.gt c) (s.has c) (s.kept c) (s.early c) (x.q c) w w' chg) : ∃ t v F' I' x', Stepped r N sp F I w w' x.rbs (doneM M s c chg t v) (wroteS s c chg t v) F' I' x' := by
  obtain ⟨t, v, F', I', q', hr, hs, hk, hi1, hi2⟩ := hw
  obtain ⟨x', hR, hK, e1, _⟩ := h.m.copyTo hc hr hk hi1 hi2 hs (ops' := s.ops c ++ [newOp c (s.gt c) (s.has c) chg t v]) (by rw [h.m.spl c hc, List.append_assoc])
  have hown := h.ok.own c hc
  exact ⟨t, v, _, I', x', ⟨hR, h.ok.wrote hc (by omega) chg t v, h.md.wrote hok⟩, e1, hK, hi1, hi2⟩
theorem RoomD.set {w : World} {r : Nat} {F I : Nat → Prop} {N sp : Nat} {M : Nat → List MOp} {s : RoomS} {x : RoomX} (h : RoomD w r F I N sp M s x) {g o : Nat} (u : Value) (hg : ¬ F g) (hi : ¬ I g) : RoomD (w.setCell ⟨g, o, none⟩ u) r F I N sp M s x :=
  ⟨h.m.keepF (by simp [World.setCell]) (fun k hk => setCell_other (fun e => hg (e ▸ hk))) (fun k hk => setCell_other (fun e => hi (e ▸ hk))), h.ok, h.md⟩
end

section
/-- Two steps, and the answer set into a block of the call's own. -/
theorem two_left {w : World} {r : Nat} {F I : Nat → Prop} {N sp : Nat} {M : Nat → List MOp} {s : RoomS} {x : RoomX} {W w3 w4 w5 : World} {rbs : Nat → Nat} {M1 M2 : Nat → List MOp} {s1 s2 : RoomS} {F1 I1 F2 I2 : Nat → Prop} {x1 x2 : RoomX} (h : RoomD w r F I N sp M s x) (hb : Below w.heap.size w W) (h3 : Stepped r N sp F I W w3 rbs M1 s1 F1 I1 x1) (hb4 : Below w3.heap.size w3 w4) (h5 : Stepped r N sp F1 I1 w4 w5 rbs M2 s2 F2 I2 x2) {g : Nat} (hg : w.heap.size ≤ g) (hgW : g < W.heap.size) (a b : Value) :
    RoomDTo r N sp F I w ((w5.setCell ⟨g, 0, none⟩ a).setCell ⟨g, 1, none⟩ b) rbs M2 s2 := by
  obtain ⟨a1, a2, a3, a4, a5⟩ := h3
  obtain ⟨b1, b2, b3, b4, b5⟩ := h5
  have hs := a3.size
  have hs4 := hb4.size
  have hnF : ¬ F2 g := fun hF => by
    rcases b3.sub g hF with h1 | h1
    · rcases a3.sub g h1 with h2 | h2
      · have := h.m.lt g h2; omega
      · omega
    · omega
  have hnI : ¬ I2 g := fun hF => by
    rcases b5 g hF with h1 | h1
    · rcases a5 g h1 with h2 | h2
      · have := h.m.iI g h2; omega
      · omega
    · omega
  have hK : Keeps F F2 w w5 := ((a3.before hb).after hb4).trans b3
  refine ⟨F2, I2, x2, (b1.set a hnF hnI).set b hnF hnI, b2, (hK.setNew hg a).setNew hg b, fun k hk => ⟨b4 k (a4 k hk), ?_⟩, fun k hk => ?_⟩
  · have hne : k ≠ g := fun e => by have := h.m.iI k hk; omega
    rw [setCell_other hne, setCell_other hne]
    exact hK.other k (h.m.iI k hk) (h.m.nI k hk)
  · rcases b5 k hk with h1 | h1
    · exact (a5 k h1).imp id fun h2 => Nat.le_trans hb.size h2
    · exact .inr (by have := hb.size; omega)

set_option maxRecDepth 1000000 in
set_option maxHeartbeats 4000000 in
/-- NEST. -/
theorem gNest {w : World} {r : Nat} {F I : Nat → Prop} {N sp : Nat} {M : Nat → List MOp} {s : RoomS} {x : RoomX} (h : RoomD w r F I N sp M s x) {c : Nat} (hc : c < N) (x1 x2 : Int) (key : ByteArray) (hks : key.size ≤ maxLen) (lst : Bool) :
    Calls Tryz.prog 38 #[.pointer (some ⟨r, 0, none⟩), .int .i64 c, .agg #[.int .i64 x1, .int .i64 x2], .string key, .bool lst] w fun e w' => NestD r N sp F I M s x c x1 x2 key lst w e w' := by
  have HB := hid (((Below.refl w.heap.size w).alloc (Nat.le_refl _) (.cells #[.int .i64 x1, .int .i64 x2] 36)).alloc (by simp) (.cells #[.int .i64 0, .int .i64 0] 36))
  have HY0 := hid (show ((w.alloc (.cells #[.int .i64 x1, .int .i64 x2] 36)).alloc (.cells #[.int .i64 0, .int .i64 0] 36)).heap[w.heap.size + 1]? = some (.cells #[.int .i64 0, .int .i64 0] 36 (0, 0)) from (by
    have := blk_new (w.alloc (.cells #[.int .i64 x1, .int .i64 x2] 36)) (.cells #[.int .i64 0, .int .i64 0] 36)
    rw [show (w.alloc (.cells #[.int .i64 x1, .int .i64 x2] 36)).heap.size = w.heap.size + 1 by simp] at this
    exact this))
  have HA := hid (atKey_any (h.keep HB.out) c hc x1 x2 key hks)
  have HNF := hid (show ∀ k, w.heap.size ≤ k → ¬ F k from fun k hk hF => by have := h.m.lt k hF; omega)
  have HM := hid (fun W (hb : Below w.heap.size w W) => mayMake_any ((h.keep hb).m.reps c hc) 2 (by omega))
  have HMK := hid (fun W (hb : Below w.heap.size w W) => makeObject_any ((h.keep hb).m.reps c hc) (h.wri hc) lst)
  have HST := hid (fun W (hb : Below w.heap.size w W) (w' : World) (hl : s.has c c < 60) hw => (h.keep hb).step (w' := w') hc hl (chg := .inl lst) trivial hw)
  have HH := hid h; clear h
  go_enter Tryz.func38, Tryz.ntmps38
  go_wp2_with fail
  refine HA.out.mono ?_
  rintro e w1 ⟨hb1, hat⟩
  have HY1 := hid (blk_keep HY0.out hb1)
  have HB1 := hid (HB.out.trans (hb1.mono HB.out.size)); clear hb1
  have hz1 := HB1.out.size
  have hy1 := blk_lt HY1.out
  rcases hat with ⟨m, hm, hp, rfl⟩ | ⟨o, ho, hol, hko, hkd, rfl⟩
  · have HE := hid hp; clear hp
    obtain ⟨y0, y1⟩ := blk2 HY1.out
    have yf := blk_fz HY1.out
    have hny := World.new_ne w1 ⟨w.heap.size + 1, 0, none⟩ y0
    obtain ⟨z0, z1⟩ := res01G HY1.out (.int .i64 0) (.int .i64 0) (.cells #[.int .i64 0, .int .i64 0, .string ⟨#[]⟩, .int .i64 0, .int .i64 0] 97)
    have hends : ∀ a b, RoomDTo r N sp F I w (((w1.setCell ⟨w.heap.size + 1, 0, none⟩ a).setCell ⟨w.heap.size + 1, 1, none⟩ b).alloc (.cells #[.int .i64 0, .int .i64 0, .string ⟨#[]⟩, .int .i64 0, .int .i64 0] 97)) x.rbs M s := fun a b => HH.out.left (((HB1.out.setCell (show w.heap.size ≤ w.heap.size + 1 by omega) _).setCell (show w.heap.size ≤ w.heap.size + 1 by omega) _).alloc (by simp [World.setCell]; omega) _)
    have HEN := hid hends; clear hends
    rcases hm with rfl | rfl | rfl
    · go_wp2
      refine bodyPost_ret (v := .tuple #[.agg #[.int .i64 0, .int .i64 0], .int .i64 3]) (by simp [results, Tryz.results38, go_sem, z0, z1]) rfl ?_
      exact (show _ ∨ _ from .inl ⟨3, .inl HE.out, rfl, HEN.out _ _⟩)
    · go_wp2
      refine bodyPost_ret (v := .tuple #[.agg #[.int .i64 0, .int .i64 0], .int .i64 4]) (by simp [results, Tryz.results38, go_sem, z0, z1]) rfl ?_
      exact (show _ ∨ _ from .inl ⟨4, .inl HE.out, rfl, HEN.out _ _⟩)
    · go_wp2
      refine bodyPost_ret (v := .tuple #[.agg #[.int .i64 0, .int .i64 0], .int .i64 5]) (by simp [results, Tryz.results38, go_sem, z0, z1]) rfl ?_
      exact (show _ ∨ _ from .inl ⟨5, .inl HE.out, rfl, HEN.out _ _⟩)
  · have HPL := hid (And.intro ho (And.intro hol hko)); clear hkd ho hol hko
    have HBW := hid (HB1.out.alloc hz1 (.cells #[.int .i64 x1, .int .i64 x2, .string key, .int .i64 0, .int .i64 0] 97))
    have HX1 := hid (blk_new w1 (.cells #[.int .i64 x1, .int .i64 x2, .string key, .int .i64 0, .int .i64 0] 97))
    go_wp2_with fail
    refine (HM.out _ HBW.out).mono ?_
    rintro e w2 ⟨rfl, hb2⟩
    have HX2 := hid (blk_keep HX1.out hb2)
    have HY2 := hid (blk_keep (blk_keep HY1.out ((Below.refl _ w1).alloc (Nat.le_refl _) _)) hb2)
    have HB2 := hid (HBW.out.trans (hb2.mono HBW.out.size)); clear hb2
    have hy2 := blk_lt HY2.out
    obtain ⟨y0, y1⟩ := blk2 HY2.out
    have yf := blk_fz HY2.out
    by_cases hl : s.has c c + 2 ≤ 60
    · have hd : decide (s.has c c + ((2 : Nat) : Int) ≤ 60) = true := decide_eq_true hl
      rw [hd]
      have HL := hid hl
      clear y0 y1 yf hl hd
      go_wp2_with fail
      refine (HMK.out w2 HB2.out).mono ?_
      rintro e w3 ⟨rfl, hw3⟩
      obtain ⟨t, v, F1, I1, xx, h3⟩ := HST.out w2 HB2.out w3 (by have := HL.out; omega) hw3
      have HS3 := hid h3
      clear hw3 h3
      have HX3 := hid ((HS3.out.2.2.1.other _ (blk_lt HX2.out) (HNF.out _ hz1)).trans HX2.out)
      have HY3 := hid ((HS3.out.2.2.1.other _ (blk_lt HY2.out) (HNF.out _ (by omega))).trans HY2.out)
      obtain ⟨p0, p1, p2, p3, p4⟩ := blk5 HX3.out
      have hx3 := blk_lt HX3.out
      have hy3 := blk_lt HY3.out
      have hnx := World.new_ne w3 ⟨w1.heap.size, 0, none⟩ p0
      have HBM := hid ((Below.refl w3.heap.size w3).alloc (Nat.le_refl _) (.cells #[.int .i64 (s.gt c + 1), .int .i64 c] 36))
      have HGV := hid (give_any ((HS3.out.1.keep HBM.out).m.reps c hc) (HS3.out.1.wri hc) (x1, x2) (0, 0) key (0, (s.gt c + 1, (c : Int))))
      rw [HS3.out.2.1] at HGV
      go_wp2_with fail
      refine HGV.out.mono ?_
      rintro e w4 ⟨⟨rr, rfl⟩, ss, hp, ha, hw4⟩
      rw [← HS3.out.2.1] at hw4
      have hh1 : (wroteS s c (.inl lst) t v).has c c < 60 := by
        show upd s.has c (upd (s.has c) c (s.has c c + 1)) c c < 60
        rw [upd_same, upd_same]
        have := HL.out
        omega
      obtain ⟨t', v', F2, I2, xy, h4⟩ := (HS3.out.1.keep HBM.out).step hc hh1 (chg := .inr (.inr (.inl ((x1, x2), key, (0, 0), (0, (s.gt c + 1, (c : Int))), ss)))) ⟨fun _ => rfl, .inr ⟨newOp c (s.gt c) (s.has c) (.inl lst) t v, by rw [doneM, addM_same]; exact List.mem_append_right _ List.mem_cons_self, rfl, lst, rfl⟩⟩ hw4
      have HDD := hid (HS3.out.1.doc hc)
      have HSS := hid (And.intro hp ha)
      rw [HS3.out.2.1] at h4
      have HT := hid (fun a b => two_left HH.out HB2.out HS3.out HBM.out h4 (g := w.heap.size + 1) (by omega) hy2 a b)
      have hnF1 : ¬ F1 (w.heap.size + 1) := fun hF => by
        rcases HS3.out.2.2.1.sub _ hF with h | h
        · exact HNF.out _ (by omega) h
        · omega
      have hnF1' : ¬ F1 w3.heap.size := fun hF => by have := HS3.out.1.m.lt _ hF; omega
      have hb1 := (h4.2.2.1.other _ (blk_lt (blk_keep HY3.out HBM.out)) hnF1).trans (blk_keep HY3.out HBM.out)
      have hb2 := (h4.2.2.1.other _ (blk_lt (blk_new w3 _)) hnF1').trans (blk_new w3 _)
      obtain ⟨r0, r1⟩ := blk2 hb1
      obtain ⟨q0, q1⟩ := blk2 hb2
      have rf := blk_fz hb1
      have rl := blk_lt hb1
      clear hb1 hb2 hnF1 hnF1' p0 p1 p2 p3 p4 hnx hp ha hw4 hh1 h4
      go_wp2
      refine bodyPost_ret (v := .tuple #[.agg #[.int .i64 (s.gt c + 1), .int .i64 c], .int .i64 0]) (by simp [results, Tryz.results38, go_sem, r0, r1]) rfl ?_
      exact (show _ ∨ _ from .inr ⟨o, HPL.out.1, HPL.out.2.1, HPL.out.2.2, rfl, HL.out, t, v, _, ss, t', v', HDD.out.1, HDD.out.2.1, HSS.out.1, HSS.out.2, HT.out _ _⟩)
    · have hd : decide (s.has c c + ((2 : Nat) : Int) ≤ 60) = false := decide_eq_false hl
      rw [hd]
      have HL := hid hl
      clear hl hd
      go_wp2
      refine bodyPost_ret (v := .tuple #[.agg #[.int .i64 0, .int .i64 0], .int .i64 8]) (by simp [results, Tryz.results38, go_sem, y0, y1]) rfl ?_
      exact (show _ ∨ _ from .inl ⟨8, .inr ⟨rfl, Int.not_le.2 HL.out⟩, rfl, HH.out.left ((HB2.out.setCell (show w.heap.size ≤ w.heap.size + 1 by omega) _).setCell (show w.heap.size ≤ w.heap.size + 1 by omega) _)⟩)
end

end Go.Proofs.YtnkpogjiiohapaaGreatDoor

/-! GWrD: The program's room in general: Insert. -/
namespace Go.Proofs.YtnkpogjiiohapaaGreatDoor
open Go.RowKit
attribute [local go_sem ↓] Go.wp_at_zero Go.wp_at_succ

def InsD (r N sp : Nat) (F I : Nat → Prop) (M : Nat → List MOp) (s : RoomS) (x : RoomX) (c : Nat) (x1 x2 i n : Int) (w : World) (e : Ending) (w' : World) : Prop :=
  (∃ m, (elementsP (ROf (s.ops c)) (x1, x2) = .error m ∨ (m = 7 ∧ ∃ o, objOf (ROf (s.ops c)) (x1, x2) = some o ∧ o.list = true ∧ behindP (pseen o) i = none) ∨ (m = 8 ∧ ¬ s.has c c + 2 ≤ 60)) ∧ e = .returned (.tuple #[.agg #[.int .i64 0, .int .i64 0], .int .i64 m]) ∧ RoomDTo r N sp F I w w' x.rbs M s) ∨
  (∃ o b, objOf (ROf (s.ops c)) (x1, x2) = some o ∧ o.list = true ∧ behindP (pseen o) i = some b ∧ e = .returned (.tuple #[.agg #[.int .i64 (s.gt c + 1), .int .i64 c], .int .i64 0]) ∧ TwoD r N sp F I w w' x.rbs M s c (.inr (.inl ((x1, x2), b))) (x1, x2) ⟨#[]⟩ (s.gt c + 1, (c : Int)) (n, (0, 0)))

section
set_option maxRecDepth 1000000 in
set_option maxHeartbeats 4000000 in
/-- INSERT. -/
theorem gInsert {w : World} {r : Nat} {F I : Nat → Prop} {N sp : Nat} {M : Nat → List MOp} {s : RoomS} {x : RoomX} (h : RoomD w r F I N sp M s x) {c : Nat} (hc : c < N) (x1 x2 i n : Int) :
    Calls Tryz.prog 32 #[.pointer (some ⟨r, 0, none⟩), .int .i64 c, .agg #[.int .i64 x1, .int .i64 x2], .int .i64 i, .int .i64 n] w fun e w' => InsD r N sp F I M s x c x1 x2 i n w e w' := by
  have HB := hid (((Below.refl w.heap.size w).alloc (Nat.le_refl _) (.cells #[.int .i64 x1, .int .i64 x2] 36)).alloc (by simp) (.cells #[.int .i64 0, .int .i64 0] 36))
  have HX0 := hid (show ((w.alloc (.cells #[.int .i64 x1, .int .i64 x2] 36)).alloc (.cells #[.int .i64 0, .int .i64 0] 36)).heap[w.heap.size]? = some (.cells #[.int .i64 x1, .int .i64 x2] 36 (0, 0)) from (alloc_old_r _ _ (by simp)).trans (blk_new w _))
  have HY0 := hid (show ((w.alloc (.cells #[.int .i64 x1, .int .i64 x2] 36)).alloc (.cells #[.int .i64 0, .int .i64 0] 36)).heap[w.heap.size + 1]? = some (.cells #[.int .i64 0, .int .i64 0] 36 (0, 0)) from (by
    have := blk_new (w.alloc (.cells #[.int .i64 x1, .int .i64 x2] 36)) (.cells #[.int .i64 0, .int .i64 0] 36)
    rw [show (w.alloc (.cells #[.int .i64 x1, .int .i64 x2] 36)).heap.size = w.heap.size + 1 by simp] at this
    exact this))
  have HA := hid (atGap_any (h.keep HB.out) c hc x1 x2 i)
  have HNF := hid (show ∀ k, w.heap.size ≤ k → ¬ F k from fun k hk hF => by have := h.m.lt k hF; omega)
  have HM := hid (fun W (hb : Below w.heap.size w W) => mayMake_any ((h.keep hb).m.reps c hc) 2 (by omega))
  have HMK := hid (fun W (hb : Below w.heap.size w W) o (ho : objOf (ROf (s.ops c)) (x1, x2) = some o) (hol : o.list = true) b (hi : behindP (pseen o) i = some b) => layAt_any ((h.keep hb).m.reps c hc) (h.wri hc) (h.ag hc) ho hol (h.slots hc ho hol) i hi)
  have HST := hid (fun W (hb : Below w.heap.size w W) (w' : World) (hl : s.has c c < 60) b hw => (h.keep hb).step (w' := w') hc hl (chg := .inr (.inl ((x1, x2), b))) trivial hw)
  have HH := hid h; clear h
  go_enter Tryz.func32, Tryz.ntmps32
  go_wp2_with fail
  refine HA.out.mono ?_
  rintro e w1 ⟨hb1, hat⟩
  have HX1 := hid (blk_keep HX0.out hb1)
  have HY1 := hid (blk_keep HY0.out hb1)
  have HB1 := hid (HB.out.trans (hb1.mono HB.out.size)); clear hb1
  have hz1 := HB1.out.size
  have hy1 := blk_lt HY1.out
  have HLF := hid (show ∀ W, Below w.heap.size w W → ∀ a b, RoomDTo r N sp F I w ((W.setCell ⟨w.heap.size + 1, 0, none⟩ a).setCell ⟨w.heap.size + 1, 1, none⟩ b) x.rbs M s from fun W hb a b => HH.out.left ((hb.setCell (show w.heap.size ≤ w.heap.size + 1 by omega) _).setCell (show w.heap.size ≤ w.heap.size + 1 by omega) _))
  rcases hat with ⟨m, hm, hp, rfl⟩ | ⟨o, ho, hol, hel, ⟨hi, rfl⟩ | ⟨b, hi, rfl⟩⟩
  · have HE := hid hp; clear hp
    obtain ⟨y0, y1⟩ := blk2 HY1.out
    have yf := blk_fz HY1.out
    rcases hm with rfl | rfl
    · go_wp2
      refine bodyPost_ret (v := .tuple #[.agg #[.int .i64 0, .int .i64 0], .int .i64 3]) (by simp [results, Tryz.results32, go_sem, y0, y1]) rfl ?_
      exact (show _ ∨ _ from .inl ⟨3, .inl HE.out, rfl, HLF.out _ HB1.out _ _⟩)
    · go_wp2
      refine bodyPost_ret (v := .tuple #[.agg #[.int .i64 0, .int .i64 0], .int .i64 4]) (by simp [results, Tryz.results32, go_sem, y0, y1]) rfl ?_
      exact (show _ ∨ _ from .inl ⟨4, .inl HE.out, rfl, HLF.out _ HB1.out _ _⟩)
  · have HE := hid (And.intro ho (And.intro hol hi)); clear ho hol hel hi
    obtain ⟨y0, y1⟩ := blk2 HY1.out
    have yf := blk_fz HY1.out
    go_wp2
    refine bodyPost_ret (v := .tuple #[.agg #[.int .i64 0, .int .i64 0], .int .i64 7]) (by simp [results, Tryz.results32, go_sem, y0, y1]) rfl ?_
    exact (show _ ∨ _ from .inl ⟨7, .inr (.inl ⟨rfl, o, HE.out⟩), rfl, HLF.out _ HB1.out _ _⟩)
  · have HPL := hid (And.intro ho (And.intro hol hi)); clear ho hol hi hel
    go_wp2_with fail
    refine (HM.out _ HB1.out).mono ?_
    rintro e w2 ⟨rfl, hb2⟩
    have HX2 := hid (blk_keep HX1.out hb2)
    have HY2 := hid (blk_keep HY1.out hb2)
    have HB2 := hid (HB1.out.trans (hb2.mono HB1.out.size)); clear hb2
    have hy2 := blk_lt HY2.out
    obtain ⟨y0, y1⟩ := blk2 HY2.out
    have yf := blk_fz HY2.out
    by_cases hl : s.has c c + 2 ≤ 60
    · have hd : decide (s.has c c + ((2 : Nat) : Int) ≤ 60) = true := decide_eq_true hl
      rw [hd]
      have HL := hid hl
      clear y0 y1 yf hl hd
      obtain ⟨x0', x1'⟩ := blk2 HX2.out
      go_wp2_with fail
      refine (HMK.out w2 HB2.out o HPL.out.1 HPL.out.2.1 b HPL.out.2.2).mono ?_
      rintro e w3 ⟨rfl, hw3⟩
      obtain ⟨t, v, F1, I1, xx, h3⟩ := HST.out w2 HB2.out w3 (by have := HL.out; omega) b hw3
      have HS3 := hid h3
      clear hw3 h3 x0' x1'
      have HX3 := hid ((HS3.out.2.2.1.other _ (blk_lt HX2.out) (HNF.out _ (Nat.le_refl _))).trans HX2.out)
      have HY3 := hid ((HS3.out.2.2.1.other _ (blk_lt HY2.out) (HNF.out _ (by omega))).trans HY2.out)
      obtain ⟨p0, p1⟩ := blk2 HX3.out
      have hx3 := blk_lt HX3.out
      have hy3 := blk_lt HY3.out
      have hnx := World.new_ne w3 ⟨w.heap.size, 0, none⟩ p0
      have HBM := hid ((Below.refl w3.heap.size w3).alloc (Nat.le_refl _) (.cells #[.int .i64 (s.gt c + 1), .int .i64 c] 36))
      go_wp2_with fail
      refine (elementOf_q _ _ _ _ _).mono ?_
      rintro e w4 ⟨rfl, hb4⟩
      have HE4 := hid (blk_keep (blk_new w3 (.cells #[.int .i64 (s.gt c + 1), .int .i64 c] 36)) hb4)
      have HB4 := hid (HBM.out.trans (hb4.mono HBM.out.size)); clear hb4
      have HGV := hid (give_any ((HS3.out.1.keep HB4.out).m.reps c hc) (HS3.out.1.wri hc) (x1, x2) (s.gt c + 1, (c : Int)) ⟨#[]⟩ (n, (0, 0)))
      rw [HS3.out.2.1] at HGV
      have HX4 := hid (blk_keep HX3.out HB4.out)
      have HY4 := hid (blk_keep HY3.out HB4.out)
      obtain ⟨e0, e1⟩ := blk2 HE4.out
      have he4 := blk_lt HE4.out
      go_wp2_with fail
      refine HGV.out.mono ?_
      rintro e w5 ⟨⟨rr, rfl⟩, ss, hp, ha, hw5⟩
      rw [← HS3.out.2.1] at hw5
      have hh1 : (wroteS s c (.inr (.inl ((x1, x2), b))) t v).has c c < 60 := by
        show upd s.has c (upd (s.has c) c (s.has c c + 1)) c c < 60
        rw [upd_same, upd_same]
        have := HL.out
        omega
      obtain ⟨t', v', F2, I2, xy, h5⟩ := (HS3.out.1.keep HB4.out).step hc hh1 (chg := .inr (.inr (.inl ((x1, x2), ⟨#[]⟩, (s.gt c + 1, (c : Int)), (n, (0, 0)), ss)))) ⟨fun hne => absurd rfl hne, .inl rfl⟩ hw5
      have HDD := hid (HS3.out.1.doc hc)
      have HSS := hid (And.intro hp ha)
      rw [HS3.out.2.1] at h5
      have HT := hid (fun a b => two_left HH.out HB2.out HS3.out HB4.out h5 (g := w.heap.size + 1) (by omega) hy2 a b)
      have hnF1 : ¬ F1 (w.heap.size + 1) := fun hF => by
        rcases HS3.out.2.2.1.sub _ hF with h | h
        · exact HNF.out _ (by omega) h
        · omega
      have hnF1' : ¬ F1 w3.heap.size := fun hF => by have := HS3.out.1.m.lt _ hF; omega
      have hb1 := (h5.2.2.1.other _ (blk_lt HY4.out) hnF1).trans HY4.out
      have hb2 := (h5.2.2.1.other _ (blk_lt HE4.out) hnF1').trans HE4.out
      obtain ⟨r0, r1⟩ := blk2 hb1
      obtain ⟨q0, q1⟩ := blk2 hb2
      have rf := blk_fz hb1
      have rl := blk_lt hb1
      have hy4 := blk_lt HY4.out
      clear hb1 hb2 hnF1 hnF1' p0 p1 hnx hp ha hw5 hh1 h5 e0 e1
      go_wp2
      refine bodyPost_ret (v := .tuple #[.agg #[.int .i64 (s.gt c + 1), .int .i64 c], .int .i64 0]) (by simp [results, Tryz.results32, go_sem, r0, r1]) rfl ?_
      exact (show _ ∨ _ from .inr ⟨o, b, HPL.out.1, HPL.out.2.1, HPL.out.2.2, rfl, HL.out, t, v, _, ss, t', v', HDD.out.1, HDD.out.2.1, HSS.out.1, HSS.out.2, HT.out _ _⟩)
    · have hd : decide (s.has c c + ((2 : Nat) : Int) ≤ 60) = false := decide_eq_false hl
      rw [hd]
      have HL := hid hl
      clear hl hd
      go_wp2
      refine bodyPost_ret (v := .tuple #[.agg #[.int .i64 0, .int .i64 0], .int .i64 8]) (by simp [results, Tryz.results32, go_sem, y0, y1]) rfl ?_
      exact (show _ ∨ _ from .inl ⟨8, .inr (.inr ⟨rfl, Int.not_le.2 HL.out⟩), rfl, HLF.out _ HB2.out _ _⟩)
end

end Go.Proofs.YtnkpogjiiohapaaGreatDoor

/-! GTxtA: The text of a document in general, plainly: values stand by their givers. -/
namespace Go.Proofs.YtnkpogjiiohapaaGreatDoor
open Go.RowKit

def heldLe (a b : PHeld) : Bool := !ltI b.giver a.giver
def hsG (l : List PHeld) : List PHeld := l.mergeSort heldLe
theorem heldLe_trans (a b c : PHeld) (h1 : heldLe a b = true) (h2 : heldLe b c = true) : heldLe a c = true := by
  unfold heldLe at *
  simp only [Bool.not_eq_true', ltF] at *
  omega
theorem heldLe_total (a b : PHeld) : (heldLe a b || heldLe b a) = true := by
  unfold heldLe
  cases h : ltI b.giver a.giver
  · simp
  · have : ltI a.giver b.giver = false := by rw [ltI_iff] at h; rw [ltF]; omega
    simp [this]
theorem hsG_perm (l : List PHeld) : (hsG l).Perm l := List.mergeSort_perm _ _
theorem hsG_len (l : List PHeld) : (hsG l).length = l.length := (hsG_perm l).length_eq
theorem hsG_mem {l : List PHeld} {x : PHeld} : x ∈ hsG l ↔ x ∈ l := (hsG_perm l).mem_iff
/-- The values of a place in the order of their givers. -/
theorem hsG_notlt (l : List PHeld) : ((hsG l).map hpair).Pairwise fun a b => ltI b.1 a.1 = false := by
  rw [List.pairwise_map]
  refine (List.pairwise_mergeSort heldLe_trans heldLe_total l).imp fun {a b} h => ?_
  show ltI b.giver a.giver = false
  unfold heldLe at h
  cases hh : ltI b.giver a.giver
  · rfl
  · rw [hh] at h; cases h
theorem asc_uniq : ∀ {vs m : List (PId × PVal)}, vs.Perm m → (vs.Pairwise fun a b => ltI a.1 b.1 = true) → (m.Pairwise fun a b => ltI b.1 a.1 = false) → vs = m
  | [], m, hp, _, _ => by rw [List.nil_perm.1 hp]
  | v :: vs, [], hp, _, _ => by cases List.perm_nil.1 hp
  | v :: vs, y :: m, hp, ha, h2 => by
    obtain ⟨a1, a2⟩ := List.pairwise_cons.1 ha
    obtain ⟨b1, b2⟩ := List.pairwise_cons.1 h2
    have he : v = y := by
      rcases List.mem_cons.1 (hp.mem_iff.1 (List.mem_cons_self (a := v))) with h | h
      · exact h
      · have k1 := b1 v h
        rcases List.mem_cons.1 (hp.mem_iff.2 (List.mem_cons_self (a := y))) with h' | h'
        · exact h'.symm
        · have k2 := a1 y h'
          rw [k1] at k2
          cases k2
    subst he
    rw [asc_uniq (List.perm_cons v |>.1 hp) a2 b2]
theorem hsG_eq {vs : List (PId × PVal)} {l : List PHeld} (hp : vs.Perm (l.map hpair)) (ha : Asc (vs.map (·.1))) : vs = (hsG l).map hpair :=
  asc_uniq (hp.trans ((hsG_perm l).symm.map hpair)) (List.pairwise_map.1 ha) (hsG_notlt l)

def valsG (T : PId → ByteArray) (l : List PHeld) : ByteArray := joinB bar ((hsG l).map (itemText T))
def slotG (T : PId → ByteArray) (list : Bool) (s : PSlot) : ByteArray := if list then valsG T s.hs else (s.key ++ colon) ++ valsG T s.hs
def bodyG (T : PId → ByteArray) (list : Bool) (M : List PSlot) : ByteArray := joinB comma ((M.filter seenS).map (slotG T list))
def objG (T : PId → ByteArray) (list : Bool) (M : List PSlot) : ByteArray := if list then (⟨#[91]⟩ ++ bodyG T list M) ++ ⟨#[93]⟩ else (⟨#[123]⟩ ++ bodyG T list M) ++ ⟨#[125]⟩
/-- THE TEXT OF AN OBJECT; r levels are shown. -/
def textG (R : List PObj) : Nat → PId → ByteArray
  | 0, _ => ⟨#[35]⟩
  | r + 1, x => match objOf R x with
    | some o => objG (textG R r) o.list (ordP o)
    | none => ⟨#[]⟩
theorem textG_some {R : List PObj} {x : PId} {o : PObj} (h : objOf R x = some o) (r : Nat) : textG R (r + 1) x = objG (textG R r) o.list (ordP o) := by
  show (match objOf R x with | some o => _ | none => _) = _
  rw [h]

/-- A document whose text is to be told. -/
structure TxtG (w : World) (d bo be : Nat) (D : QDoc) (R : List PObj) : Prop where
  q : isQ w d bo be D.1 D.2
  ag : Agree R D
  nd : QNd D
  pow : Pow w
  root : ∃ o, objOf R (0, 0) = some o
  nums : ∀ x o, objOf R x = some o → ∀ s ∈ o.ss, ∀ h ∈ s.hs, intOk h.num
  objs : ∀ x o, objOf R x = some o → ∀ s ∈ o.ss, ∀ h ∈ s.hs, ∃ o', objOf R h.obj = some o'
  kl : ∀ p ∈ D.1, p.2.ks.length ≤ 10000
  cnt : ∀ x o, objOf R x = some o → o.ss.length ≤ 10000
  vl : ∀ x o, objOf R x = some o → ∀ s ∈ o.ss, s.hs.length ≤ 10000 ∧ s.key.size ≤ 4
  sz : ∀ r, r ≤ 3 → ∀ x o, objOf R x = some o → (bodyG (textG R r) o.list (ordP o)).size ≤ 1000000000000 ∧ ∀ s ∈ o.ss, (valsG (textG R r) s.hs).size ≤ 1000000000000
theorem TxtG.keep {w w' : World} {d bo be : Nat} {D : QDoc} {R : List PObj} (h : TxtG w d bo be D R) (hb : Below w.heap.size w w') : TxtG w' d bo be D R := ⟨h.q.keep hb, h.ag, h.nd, h.pow.keep hb, h.root, h.nums, h.objs, h.kl, h.cnt, h.vl, h.sz⟩
/-- What objectText answers with r levels left. -/
def ObjTg (w : World) (d : Nat) (R : List PObj) (r : Nat) : Prop := ∀ W, Below w.heap.size w W → ∀ (x : PId) (o : PObj), objOf R x = some o →
  Calls Tryz.prog 88 #[.pointer (some ⟨d, 0, none⟩), .agg #[.int .i64 x.1, .int .i64 x.2], .int .i64 (5 - (r : Int))] W fun e w' => e = .returned (.string (textG R r x)) ∧ Below W.heap.size W w'
theorem ObjTg.keep {w w' : World} {d : Nat} {R : List PObj} {r : Nat} (h : ObjTg w d R r) (hb : Below w.heap.size w w') : ObjTg w' d R r := fun W hW x o ho => h W (hb.trans (hW.mono hb.size)) x o ho

end Go.Proofs.YtnkpogjiiohapaaGreatDoor
