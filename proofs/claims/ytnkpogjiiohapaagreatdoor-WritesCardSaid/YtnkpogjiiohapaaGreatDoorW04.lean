/- Our own text (RefN, PureO, RefO). -/
import Derived.Deep.RegionWith
import Derived.Test.YtnkpogjiiohapaaGreatDoorW03
set_option linter.unusedSimpArgs false
set_option linter.unusedVariables false

/-! RefN: The contract of the reference's does, where it makes no object. -/
namespace Go.Proofs.YtnkpogjiiohapaaGreatDoor
open Go.RowKit

set_option maxRecDepth 1000000 in
set_option maxHeartbeats 1600000 in
theorem does_none (B t d : Nat) (v : Value) (os : List CObj) (ht : t < 100000) (vold : Value) (old : List PId) (i1 i2 kind ob1 ob2 e1 e2 be1 be2 n v1 v2 : Int) (lst : Bool) (key : ByteArray) (w : World) (h : isDoc B t w d v os) (hold : isIds w vold old)
    (hk1 : ¬ kind = 1) (hfi : firstI (objIs (ob1, ob2)) os = -1) :
    Calls Tryz.prog 192 #[.pointer (some ⟨d, 0, none⟩), .agg #[.int .i64 i1, .int .i64 i2, .int .i64 kind, .bool lst, .int .i64 ob1, .int .i64 ob2, .string key, .int .i64 e1, .int .i64 e2, .int .i64 be1, .int .i64 be2, .int .i64 n, .int .i64 v1, .int .i64 v2, vold]] w fun e w' =>
      e = .returned (.tuple #[]) ∧ isDoc B t w' d v os ∧ DFrame B w w' := by
  obtain ⟨ao, co, rfl, _, _, _⟩ := owns_form hold
  have hdl := h.lt
  have hBw : B ≤ w.heap.size := by have := h.hB; omega
  have HH := hid h
  have HOLD := hid hold; clear hold
  obtain ⟨a, cap, rfl, _, _, _⟩ := owns_form h.ho.1
  have hp := h.cell
  clear h
  go_enter Tryz.func192, Tryz.ntmps192
  go_wp2_with (go_at_call 174; go_must (refine (find_any B d (.slice a os.length cap) os ob1 ob2 _ ?ha ?hb).mono ?_; (case ha => exact (HH.out.keep ((Below.refl w.heap.size w).alloc (Nat.le_refl _) _)).cell); (case hb => exact (HH.out.keep ((Below.refl w.heap.size w).alloc (Nat.le_refl _) _)).ho); rintro e w1 ⟨rfl, hb0⟩; have hbb : Below w.heap.size w w1 := ((Below.refl w.heap.size w).alloc (Nat.le_refl _) _).trans (hb0.mono (by simp));  clear hb0; have hz1 := hbb.size; have HB1 := hid hbb; clear hbb))
  refine bodyPost_ret (results_none rfl _ _ _) rfl ?_
  exact ⟨rfl, HH.out.keep HB1.out, DFrame.of_below HB1.out hBw⟩

set_option maxRecDepth 1000000 in
set_option maxHeartbeats 1600000 in
theorem does_layno (B t d : Nat) (v : Value) (os : List CObj) (ht : t < 100000) (vold : Value) (old : List PId) (i1 i2 kind ob1 ob2 e1 e2 be1 be2 n v1 v2 : Int) (lst : Bool) (key : ByteArray) (w : World) (h : isDoc B t w d v os) (hold : isIds w vold old)
    (hk1 : ¬ kind = 1) (k : Nat) (hk : k < os.length) (hfi : firstI (objIs (ob1, ob2)) os = (k : Int)) (hk2 : kind = 2) (hl : os[k].list = false) :
    Calls Tryz.prog 192 #[.pointer (some ⟨d, 0, none⟩), .agg #[.int .i64 i1, .int .i64 i2, .int .i64 kind, .bool lst, .int .i64 ob1, .int .i64 ob2, .string key, .int .i64 e1, .int .i64 e2, .int .i64 be1, .int .i64 be2, .int .i64 n, .int .i64 v1, .int .i64 v2, vold]] w fun e w' =>
      e = .returned (.tuple #[]) ∧ isDoc B t w' d v os ∧ DFrame B w w' := by
  obtain ⟨ao, co, rfl, _, _, _⟩ := owns_form hold
  have hdl := h.lt
  have hBw : B ≤ w.heap.size := by have := h.hB; omega
  have HH := hid h
  have HOLD := hid hold; clear hold
  obtain ⟨go, cap, curO, hv, hBgo, hgo, hoc, hcm, hcs, htk, hol, hos⟩ := h.row hk
  unfold maxLen at hcm
  subst hv
  have hp := h.cell
  have hq : w.cell? ⟨go, k * 4 + 2, none⟩ = some (.bool os[k].list) := by simp [World.cell?, hgo, hol]
  have hgol : go < w.heap.size := World.block_lt_of_cell? w _ hq
  have hss := (h.hs os[k] (List.getElem_mem _))
  have hsl := h.ho.2.1 os[k] (List.getElem_mem _)
  have HSS := hid hss; clear hss
  have HSL := hid hsl; clear hsl
  have HGO := hid hgo; clear hgo
  have HOL := hid hol; clear hol
  have HOS := hid hos; clear hos
  clear hcs htk
  rw [hl] at hq
  have HP0 := hid hp
  have HQ0 := hid hq
  subst hk2
  clear h
  go_enter Tryz.func192, Tryz.ntmps192
  go_wp2_with (go_at_call 174; go_must (refine (find_any B d (.slice (some ⟨go, 0, none⟩) os.length cap) os ob1 ob2 _ ?ha ?hb).mono ?_; (case ha => exact (HH.out.keep ((Below.refl w.heap.size w).alloc (Nat.le_refl _) _)).cell); (case hb => exact (HH.out.keep ((Below.refl w.heap.size w).alloc (Nat.le_refl _) _)).ho); rintro e w1 ⟨rfl, hb0⟩; have hbb : Below w.heap.size w w1 := ((Below.refl w.heap.size w).alloc (Nat.le_refl _) _).trans (hb0.mono (by simp)); have P0 := keep (a := ⟨w.heap.size, 0, none⟩) (v := .int .i64 i1) hb0 (by simp [go_sem]); have P1 := keep (a := ⟨w.heap.size, 1, none⟩) (v := .int .i64 i2) hb0 (by simp [go_sem]); have P2 := keep (a := ⟨w.heap.size, 2, none⟩) (v := .int .i64 2) hb0 (by simp [go_sem]); have P3 := keep (a := ⟨w.heap.size, 3, none⟩) (v := .bool lst) hb0 (by simp [go_sem]); have P4 := keep (a := ⟨w.heap.size, 4, none⟩) (v := .int .i64 ob1) hb0 (by simp [go_sem]); have P5 := keep (a := ⟨w.heap.size, 5, none⟩) (v := .int .i64 ob2) hb0 (by simp [go_sem]); have P6 := keep (a := ⟨w.heap.size, 6, none⟩) (v := .string key) hb0 (by simp [go_sem]); have P7 := keep (a := ⟨w.heap.size, 7, none⟩) (v := .int .i64 e1) hb0 (by simp [go_sem]); have P8 := keep (a := ⟨w.heap.size, 8, none⟩) (v := .int .i64 e2) hb0 (by simp [go_sem]); have P9 := keep (a := ⟨w.heap.size, 9, none⟩) (v := .int .i64 be1) hb0 (by simp [go_sem]); have P10 := keep (a := ⟨w.heap.size, 10, none⟩) (v := .int .i64 be2) hb0 (by simp [go_sem]); have P11 := keep (a := ⟨w.heap.size, 11, none⟩) (v := .int .i64 n) hb0 (by simp [go_sem]); have P12 := keep (a := ⟨w.heap.size, 12, none⟩) (v := .int .i64 v1) hb0 (by simp [go_sem]); have P13 := keep (a := ⟨w.heap.size, 13, none⟩) (v := .int .i64 v2) hb0 (by simp [go_sem]); have P14 := keep (a := ⟨w.heap.size, 14, none⟩) (v := .slice ao old.length co) hb0 (by simp [go_sem]); replace hp := keep hbb HP0.out; replace hq := keep hbb HQ0.out; clear hb0; have hz1 := hbb.size; have HB1 := hid hbb; clear hbb))
  refine bodyPost_ret (results_none rfl _ _ _) rfl ?_
  exact ⟨rfl, HH.out.keep HB1.out, DFrame.of_below HB1.out hBw⟩

set_option maxRecDepth 1000000 in
set_option maxHeartbeats 1600000 in
theorem does_lay (B t d : Nat) (v : Value) (os : List CObj) (ht : t < 100000) (vold : Value) (old : List PId) (i1 i2 kind ob1 ob2 e1 e2 be1 be2 n v1 v2 : Int) (lst : Bool) (key : ByteArray) (w : World) (h : isDoc B t w d v os) (hold : isIds w vold old)
    (hk1 : ¬ kind = 1) (k : Nat) (hk : k < os.length) (hfi : firstI (objIs (ob1, ob2)) os = (k : Int)) (hk2 : kind = 2) (hl : os[k].list = true) :
    Calls Tryz.prog 192 #[.pointer (some ⟨d, 0, none⟩), .agg #[.int .i64 i1, .int .i64 i2, .int .i64 kind, .bool lst, .int .i64 ob1, .int .i64 ob2, .string key, .int .i64 e1, .int .i64 e2, .int .i64 be1, .int .i64 be2, .int .i64 n, .int .i64 v1, .int .i64 v2, vold]] w fun e w' =>
      e = .returned (.tuple #[]) ∧ (∃ v', isDoc B (t + 1) w' d v (os.set k ⟨os[k].id, os[k].list, v', laidL os[k].ss (be1, be2) (i1, i2)⟩)) ∧ DFrame B w w' := by
  obtain ⟨ao, co, rfl, _, _, _⟩ := owns_form hold
  have hdl := h.lt
  have hBw : B ≤ w.heap.size := by have := h.hB; omega
  have HH := hid h
  have HOLD := hid hold; clear hold
  obtain ⟨go, cap, curO, hv, hBgo, hgo, hoc, hcm, hcs, htk, hol, hos⟩ := h.row hk
  unfold maxLen at hcm
  subst hv
  have hp := h.cell
  have hq : w.cell? ⟨go, k * 4 + 2, none⟩ = some (.bool os[k].list) := by simp [World.cell?, hgo, hol]
  have hgol : go < w.heap.size := World.block_lt_of_cell? w _ hq
  have hss := (h.hs os[k] (List.getElem_mem _))
  have hsl := h.ho.2.1 os[k] (List.getElem_mem _)
  have HSS := hid hss; clear hss
  have HSL := hid hsl; clear hsl
  have HGO := hid hgo; clear hgo
  have HOL := hid hol; clear hol
  have HOS := hid hos; clear hos
  clear hcs htk
  rw [hl] at hq
  have HP0 := hid hp
  have HQ0 := hid hq
  subst hk2
  clear h
  go_enter Tryz.func192, Tryz.ntmps192
  go_wp2_with (first
    | (go_at_call 174; go_must (refine (find_any B d (.slice (some ⟨go, 0, none⟩) os.length cap) os ob1 ob2 _ ?ha ?hb).mono ?_; (case ha => exact (HH.out.keep ((Below.refl w.heap.size w).alloc (Nat.le_refl _) _)).cell); (case hb => exact (HH.out.keep ((Below.refl w.heap.size w).alloc (Nat.le_refl _) _)).ho); rintro e w1 ⟨rfl, hb0⟩; have hbb : Below w.heap.size w w1 := ((Below.refl w.heap.size w).alloc (Nat.le_refl _) _).trans (hb0.mono (by simp)); have P0 := keep (a := ⟨w.heap.size, 0, none⟩) (v := .int .i64 i1) hb0 (by simp [go_sem]); have P1 := keep (a := ⟨w.heap.size, 1, none⟩) (v := .int .i64 i2) hb0 (by simp [go_sem]); have P2 := keep (a := ⟨w.heap.size, 2, none⟩) (v := .int .i64 2) hb0 (by simp [go_sem]); have P3 := keep (a := ⟨w.heap.size, 3, none⟩) (v := .bool lst) hb0 (by simp [go_sem]); have P4 := keep (a := ⟨w.heap.size, 4, none⟩) (v := .int .i64 ob1) hb0 (by simp [go_sem]); have P5 := keep (a := ⟨w.heap.size, 5, none⟩) (v := .int .i64 ob2) hb0 (by simp [go_sem]); have P6 := keep (a := ⟨w.heap.size, 6, none⟩) (v := .string key) hb0 (by simp [go_sem]); have P7 := keep (a := ⟨w.heap.size, 7, none⟩) (v := .int .i64 e1) hb0 (by simp [go_sem]); have P8 := keep (a := ⟨w.heap.size, 8, none⟩) (v := .int .i64 e2) hb0 (by simp [go_sem]); have P9 := keep (a := ⟨w.heap.size, 9, none⟩) (v := .int .i64 be1) hb0 (by simp [go_sem]); have P10 := keep (a := ⟨w.heap.size, 10, none⟩) (v := .int .i64 be2) hb0 (by simp [go_sem]); have P11 := keep (a := ⟨w.heap.size, 11, none⟩) (v := .int .i64 n) hb0 (by simp [go_sem]); have P12 := keep (a := ⟨w.heap.size, 12, none⟩) (v := .int .i64 v1) hb0 (by simp [go_sem]); have P13 := keep (a := ⟨w.heap.size, 13, none⟩) (v := .int .i64 v2) hb0 (by simp [go_sem]); have P14 := keep (a := ⟨w.heap.size, 14, none⟩) (v := .slice ao old.length co) hb0 (by simp [go_sem]); replace hp := keep hbb HP0.out; replace hq := keep hbb HQ0.out; clear hb0; have hz1 := hbb.size; have HB1 := hid hbb; clear hbb))
    | (go_at_call 214; go_must (refine (laid_any B go (k * 4) curO os[k].slots os[k].ss be1 be2 i1 i2 w1 ?ha ?hb ?hc ?hd ?he).mono ?_; (case ha => rw [HB1.out.block go hgol]; exact HGO.out); (case hb => exact HOS.out); (case hc => exact HSL.out.keep HB1.out); (case hd => have := HSS.out.1; omega); (case he => omega); rintro e w2 ⟨rfl, hu⟩; have HU := hid ((HH.out.keep HB1.out).upd hk rfl (by rw [HB1.out.block go hgol]; exact HGO.out) hu (by have := (laid_sz os[k].ss (be1, be2) (i1, i2)).1; have := HSS.out.1; omega) (fun s hs => by rcases (laid_sz os[k].ss (be1, be2) (i1, i2)).2 s hs with h | h; (have := HSS.out.2 s h; omega); (rw [h]; simp))); clear hu)))
  refine bodyPost_ret (results_none rfl _ _ _) rfl ?_
  exact ⟨rfl, HU.out.1, (DFrame.of_below HB1.out hBw).trans HU.out.2⟩

set_option maxRecDepth 1000000 in
set_option maxHeartbeats 1600000 in
theorem does_valno (B t d : Nat) (v : Value) (os : List CObj) (ht : t < 100000) (vold : Value) (old : List PId) (i1 i2 kind ob1 ob2 e1 e2 be1 be2 n v1 v2 : Int) (lst : Bool) (key : ByteArray) (w : World) (h : isDoc B t w d v os) (hold : isIds w vold old)
    (hk1 : ¬ kind = 1) (k : Nat) (hk : k < os.length) (hfi : firstI (objIs (ob1, ob2)) os = (k : Int)) (hk2 : ¬ kind = 2) (bl : Bool) (hl : os[k].list = bl) (he : key.toList.isEmpty = !bl) :
    Calls Tryz.prog 192 #[.pointer (some ⟨d, 0, none⟩), .agg #[.int .i64 i1, .int .i64 i2, .int .i64 kind, .bool lst, .int .i64 ob1, .int .i64 ob2, .string key, .int .i64 e1, .int .i64 e2, .int .i64 be1, .int .i64 be2, .int .i64 n, .int .i64 v1, .int .i64 v2, vold]] w fun e w' =>
      e = .returned (.tuple #[]) ∧ isDoc B t w' d v os ∧ DFrame B w w' := by
  obtain ⟨ao, co, rfl, _, _, _⟩ := owns_form hold
  have hdl := h.lt
  have hBw : B ≤ w.heap.size := by have := h.hB; omega
  have HH := hid h
  have HOLD := hid hold; clear hold
  obtain ⟨go, cap, curO, hv, hBgo, hgo, hoc, hcm, hcs, htk, hol, hos⟩ := h.row hk
  unfold maxLen at hcm
  subst hv
  have hp := h.cell
  have hq : w.cell? ⟨go, k * 4 + 2, none⟩ = some (.bool os[k].list) := by simp [World.cell?, hgo, hol]
  have hgol : go < w.heap.size := World.block_lt_of_cell? w _ hq
  have hss := (h.hs os[k] (List.getElem_mem _))
  have hsl := h.ho.2.1 os[k] (List.getElem_mem _)
  have HSS := hid hss; clear hss
  have HSL := hid hsl; clear hsl
  have HGO := hid hgo; clear hgo
  have HOL := hid hol; clear hol
  have HOS := hid hos; clear hos
  clear hcs htk
  rw [hl] at hq
  have HP0 := hid hp
  have HQ0 := hid hq
  clear h
  go_enter Tryz.func192, Tryz.ntmps192
  go_wp2_with (go_at_call 174; go_must (refine (find_any B d (.slice (some ⟨go, 0, none⟩) os.length cap) os ob1 ob2 _ ?ha ?hb).mono ?_; (case ha => exact (HH.out.keep ((Below.refl w.heap.size w).alloc (Nat.le_refl _) _)).cell); (case hb => exact (HH.out.keep ((Below.refl w.heap.size w).alloc (Nat.le_refl _) _)).ho); rintro e w1 ⟨rfl, hb0⟩; have hbb : Below w.heap.size w w1 := ((Below.refl w.heap.size w).alloc (Nat.le_refl _) _).trans (hb0.mono (by simp)); have P0 := keep (a := ⟨w.heap.size, 0, none⟩) (v := .int .i64 i1) hb0 (by simp [go_sem]); have P1 := keep (a := ⟨w.heap.size, 1, none⟩) (v := .int .i64 i2) hb0 (by simp [go_sem]); have P2 := keep (a := ⟨w.heap.size, 2, none⟩) (v := .int .i64 kind) hb0 (by simp [go_sem]); have P3 := keep (a := ⟨w.heap.size, 3, none⟩) (v := .bool lst) hb0 (by simp [go_sem]); have P4 := keep (a := ⟨w.heap.size, 4, none⟩) (v := .int .i64 ob1) hb0 (by simp [go_sem]); have P5 := keep (a := ⟨w.heap.size, 5, none⟩) (v := .int .i64 ob2) hb0 (by simp [go_sem]); have P6 := keep (a := ⟨w.heap.size, 6, none⟩) (v := .string key) hb0 (by simp [go_sem]); have P7 := keep (a := ⟨w.heap.size, 7, none⟩) (v := .int .i64 e1) hb0 (by simp [go_sem]); have P8 := keep (a := ⟨w.heap.size, 8, none⟩) (v := .int .i64 e2) hb0 (by simp [go_sem]); have P9 := keep (a := ⟨w.heap.size, 9, none⟩) (v := .int .i64 be1) hb0 (by simp [go_sem]); have P10 := keep (a := ⟨w.heap.size, 10, none⟩) (v := .int .i64 be2) hb0 (by simp [go_sem]); have P11 := keep (a := ⟨w.heap.size, 11, none⟩) (v := .int .i64 n) hb0 (by simp [go_sem]); have P12 := keep (a := ⟨w.heap.size, 12, none⟩) (v := .int .i64 v1) hb0 (by simp [go_sem]); have P13 := keep (a := ⟨w.heap.size, 13, none⟩) (v := .int .i64 v2) hb0 (by simp [go_sem]); have P14 := keep (a := ⟨w.heap.size, 14, none⟩) (v := .slice ao old.length co) hb0 (by simp [go_sem]); replace hp := keep hbb HP0.out; replace hq := keep hbb HQ0.out; clear hb0; have hz1 := hbb.size; have HB1 := hid hbb; clear hbb))
  cases bl
  all_goals go_region
  all_goals (try go_wp2)
  all_goals go_end0
  all_goals exact ⟨rfl, HH.out.keep HB1.out.drew, DFrame.of_below HB1.out.drew hBw⟩

set_option maxRecDepth 1000000 in
set_option maxHeartbeats 1600000 in
theorem does_val (B t d : Nat) (v : Value) (os : List CObj) (ht : t < 100000) (vold : Value) (old : List PId) (i1 i2 kind ob1 ob2 e1 e2 be1 be2 n v1 v2 : Int) (lst : Bool) (key : ByteArray) (w : World) (h : isDoc B t w d v os) (hold : isIds w vold old)
    (hk1 : ¬ kind = 1) (k : Nat) (hk : k < os.length) (hfi : firstI (objIs (ob1, ob2)) os = (k : Int)) (hk2 : ¬ kind = 2) (bl : Bool) (hl : os[k].list = bl) (he : key.toList.isEmpty = bl) :
    Calls Tryz.prog 192 #[.pointer (some ⟨d, 0, none⟩), .agg #[.int .i64 i1, .int .i64 i2, .int .i64 kind, .bool lst, .int .i64 ob1, .int .i64 ob2, .string key, .int .i64 e1, .int .i64 e2, .int .i64 be1, .int .i64 be2, .int .i64 n, .int .i64 v1, .int .i64 v2, vold]] w fun e w' =>
      e = .returned (.tuple #[]) ∧ (∃ v' l', isDoc B (t + 1) w' d v (os.set k ⟨os[k].id, os[k].list, v', l'⟩) ∧ l'.map CSlot.p = valuedP (os[k].ss.map CSlot.p) os[k].list key (e1, e2) old kind ⟨(i1, i2), n, (v1, v2)⟩) ∧ DFrame B w w' := by
  obtain ⟨ao, co, rfl, _, _, _⟩ := owns_form hold
  have hdl := h.lt
  have hBw : B ≤ w.heap.size := by have := h.hB; omega
  have HH := hid h
  have HOLD := hid hold; clear hold
  obtain ⟨go, cap, curO, hv, hBgo, hgo, hoc, hcm, hcs, htk, hol, hos⟩ := h.row hk
  unfold maxLen at hcm
  subst hv
  have hp := h.cell
  have hq : w.cell? ⟨go, k * 4 + 2, none⟩ = some (.bool os[k].list) := by simp [World.cell?, hgo, hol]
  have hgol : go < w.heap.size := World.block_lt_of_cell? w _ hq
  have hss := (h.hs os[k] (List.getElem_mem _))
  have hsl := h.ho.2.1 os[k] (List.getElem_mem _)
  have HSS := hid hss; clear hss
  have HSL := hid hsl; clear hsl
  have HGO := hid hgo; clear hgo
  have HOL := hid hol; clear hol
  have HOS := hid hos; clear hos
  clear hcs htk
  rw [hl] at hq
  have HP0 := hid hp
  have HQ0 := hid hq
  clear h
  go_enter Tryz.func192, Tryz.ntmps192
  go_wp2_with (go_at_call 174; go_must (refine (find_any B d (.slice (some ⟨go, 0, none⟩) os.length cap) os ob1 ob2 _ ?ha ?hb).mono ?_; (case ha => exact (HH.out.keep ((Below.refl w.heap.size w).alloc (Nat.le_refl _) _)).cell); (case hb => exact (HH.out.keep ((Below.refl w.heap.size w).alloc (Nat.le_refl _) _)).ho); rintro e w1 ⟨rfl, hb0⟩; have hbb : Below w.heap.size w w1 := ((Below.refl w.heap.size w).alloc (Nat.le_refl _) _).trans (hb0.mono (by simp)); have P0 := keep (a := ⟨w.heap.size, 0, none⟩) (v := .int .i64 i1) hb0 (by simp [go_sem]); have P1 := keep (a := ⟨w.heap.size, 1, none⟩) (v := .int .i64 i2) hb0 (by simp [go_sem]); have P2 := keep (a := ⟨w.heap.size, 2, none⟩) (v := .int .i64 kind) hb0 (by simp [go_sem]); have P3 := keep (a := ⟨w.heap.size, 3, none⟩) (v := .bool lst) hb0 (by simp [go_sem]); have P4 := keep (a := ⟨w.heap.size, 4, none⟩) (v := .int .i64 ob1) hb0 (by simp [go_sem]); have P5 := keep (a := ⟨w.heap.size, 5, none⟩) (v := .int .i64 ob2) hb0 (by simp [go_sem]); have P6 := keep (a := ⟨w.heap.size, 6, none⟩) (v := .string key) hb0 (by simp [go_sem]); have P7 := keep (a := ⟨w.heap.size, 7, none⟩) (v := .int .i64 e1) hb0 (by simp [go_sem]); have P8 := keep (a := ⟨w.heap.size, 8, none⟩) (v := .int .i64 e2) hb0 (by simp [go_sem]); have P9 := keep (a := ⟨w.heap.size, 9, none⟩) (v := .int .i64 be1) hb0 (by simp [go_sem]); have P10 := keep (a := ⟨w.heap.size, 10, none⟩) (v := .int .i64 be2) hb0 (by simp [go_sem]); have P11 := keep (a := ⟨w.heap.size, 11, none⟩) (v := .int .i64 n) hb0 (by simp [go_sem]); have P12 := keep (a := ⟨w.heap.size, 12, none⟩) (v := .int .i64 v1) hb0 (by simp [go_sem]); have P13 := keep (a := ⟨w.heap.size, 13, none⟩) (v := .int .i64 v2) hb0 (by simp [go_sem]); have P14 := keep (a := ⟨w.heap.size, 14, none⟩) (v := .slice ao old.length co) hb0 (by simp [go_sem]); replace hp := keep hbb HP0.out; replace hq := keep hbb HQ0.out; clear hb0; have hz1 := hbb.size; have HB1 := hid hbb; clear hbb))
  have HV : ∀ W, Below w1.heap.size w1 W → Calls Tryz.prog 215 #[.pointer (some ⟨go, k * 4, none⟩), .agg #[.int .i64 i1, .int .i64 i2, .int .i64 kind, .bool lst, .int .i64 ob1, .int .i64 ob2, .string key, .int .i64 e1, .int .i64 e2, .int .i64 be1, .int .i64 be2, .int .i64 n, .int .i64 v1, .int .i64 v2, .slice ao old.length co]] W fun e w' =>
      e = .returned (.tuple #[]) ∧ (∃ v' l', isDoc B (t + 1) w' d (.slice (some ⟨go, 0, none⟩) os.length cap) (os.set k ⟨os[k].id, os[k].list, v', l'⟩) ∧ l'.map CSlot.p = valuedP (os[k].ss.map CSlot.p) os[k].list key (e1, e2) old kind ⟨(i1, i2), n, (v1, v2)⟩) ∧ DFrame B w w' := by
    intro W hW
    have hwW : Below w.heap.size w W := HB1.out.trans (hW.mono hz1)
    have hgoW : W.heap[go]? = some (.cells curO 272 (0, 0)) := by rw [hwW.block go hgol]; exact HGO.out
    refine (valued_any B t go (k * 4) curO os[k].slots os[k].ss HSS.out.1 HSS.out.2 ht os[k].list i1 i2 kind ob1 ob2 e1 e2 be1 be2 n v1 v2 lst key _ old W hgoW HOS.out HOL.out (HSL.out.keep hwW) (by have := hwW.size; omega) (HOLD.out.keep hwW)).mono ?_
    rintro e w' ⟨he, l', hu, hl', hn', hs'⟩
    obtain ⟨⟨v', hdoc⟩, hb⟩ := (HH.out.keep hwW).upd hk rfl hgoW hu hn' hs'
    exact ⟨he, ⟨v', l', hdoc, hl'⟩, (DFrame.of_below hwW hBw).trans hb⟩
  have HVH := hid HV; clear HV
  cases bl
  all_goals go_region
  all_goals go_wp2_with (go_at_call 215; go_must (refine (HVH.out _ ?hw).mono ?_; (case hw => exact below_drewN (Below.refl _ _) _); rintro e w2 ⟨rfl, hu⟩; have HU := hid hu; clear hu))
  all_goals go_end0
  all_goals exact ⟨rfl, HU.out⟩

theorem objs_set {os : List CObj} {k : Nat} (hk : k < os.length) (v' : Value) (l' : List CSlot) (f : PObj → PObj) (hf : f os[k].p = ⟨os[k].id, os[k].list, l'.map CSlot.p⟩) :
    (os.set k ⟨os[k].id, os[k].list, v', l'⟩).map CObj.p = (os.map CObj.p).modify k f := by
  rw [List.map_set, modify_set _ _ _ (by simpa using hk), List.getElem_map, hf]; rfl

theorem modify_same {α : Type} (f : α → α) (l : List α) (k : Nat) (h : k < l.length) (hf : f l[k] = l[k]) : l.modify k f = l := by
  rw [modify_set f l k h, hf, List.set_getElem_self]

theorem doesAt_yes {p : POp} {o : PObj} (h2 : ¬ p.kind = 2) (h : o.list = p.key.toList.isEmpty) : doesAt p o = ⟨o.id, o.list, valuedP o.ss o.list p.key p.element p.old p.kind p.held⟩ := by
  unfold doesAt; rw [if_neg h2, if_pos h]
theorem doesAt_no {p : POp} {o : PObj} (h2 : ¬ p.kind = 2) (h : ¬ o.list = p.key.toList.isEmpty) : doesAt p o = o := by
  unfold doesAt; rw [if_neg h2, if_neg h]

/-- AN OPERATION IS DONE. -/
theorem does_any (B t d : Nat) (v : Value) (os : List CObj) (ht : t < 100000) (vold : Value) (p : POp) (w : World) (h : isDoc B t w d v os) (hold : isIds w vold p.old) :
    Calls Tryz.prog 192 #[.pointer (some ⟨d, 0, none⟩), opV p vold] w fun e w' =>
      e = .returned (.tuple #[]) ∧ ∃ v' os', isDoc B (t + 1) w' d v' os' ∧ os'.map CObj.p = doesP (os.map CObj.p) p ∧ DFrame B w w' := by
  obtain ⟨⟨i1, i2⟩, kind, lst, ⟨ob1, ob2⟩, key, ⟨e1, e2⟩, ⟨be1, be2⟩, n, ⟨v1, v2⟩, old⟩ := p
  unfold opV
  by_cases hk1 : kind = 1
  · subst hk1
    obtain ⟨ao, co, rfl, _⟩ := owns_form hold
    refine (does_make B t d v os ht _ i1 i2 ob1 ob2 e1 e2 be1 be2 n v1 v2 lst key w h ⟨_, _, _, rfl⟩).mono fun e w' ⟨he, v', h1, h2⟩ => ⟨he, v', _, h1, ?_, h2⟩
    simp [doesP, CObj.p]
  · have hlt := firstI_lt (objIs (ob1, ob2)) os
    have hge := firstI_ge (objIs (ob1, ob2)) os
    by_cases hn : firstI (objIs (ob1, ob2)) os < 0
    · refine (does_none B t d v os ht vold old i1 i2 kind ob1 ob2 e1 e2 be1 be2 n v1 v2 lst key w h hold hk1 (by omega)).mono fun e w' ⟨he, h1, h2⟩ => ⟨he, v, os, h1.mono (by omega), ?_, h2⟩
      unfold doesP; simp only [first_o, if_neg hk1, if_pos hn]
    · obtain ⟨k, hk⟩ := Int.eq_ofNat_of_zero_le (a := firstI (objIs (ob1, ob2)) os) (by omega)
      have hkl : k < os.length := by omega
      have hkl' : k < (os.map CObj.p).length := by simpa using hkl
      have hd : ∀ f, (f os[k].p = os[k].p → (os.map CObj.p).modify k f = os.map CObj.p) := fun f hf => modify_same _ _ _ hkl' (by simpa using hf)
      have hP : ∀ p : POp, p.kind = kind → p.object = (ob1, ob2) → doesP (os.map CObj.p) p = (os.map CObj.p).modify k (doesAt p) := by
        intro p hp1 hp2
        unfold doesP
        rw [hp1, hp2, first_o, if_neg hk1, if_neg hn, hk]; rfl
      rw [hP _ rfl rfl]
      by_cases hk2 : kind = 2
      · cases hl : os[k].list
        · refine (does_layno B t d v os ht vold old i1 i2 kind ob1 ob2 e1 e2 be1 be2 n v1 v2 lst key w h hold hk1 k hkl hk hk2 hl).mono fun e w' ⟨he, h1, h2⟩ => ⟨he, v, os, h1.mono (by omega), ?_, h2⟩
          rw [hd _ (by simp [doesAt, hk2, CObj.p, hl])]
        · refine (does_lay B t d v os ht vold old i1 i2 kind ob1 ob2 e1 e2 be1 be2 n v1 v2 lst key w h hold hk1 k hkl hk hk2 hl).mono fun e w' ⟨he, ⟨v', h1⟩, h2⟩ => ⟨he, v, _, h1, ?_, h2⟩
          exact objs_set hkl v' _ _ (by simp [doesAt, hk2, CObj.p, hl, laid_p])
      · by_cases hbl : os[k].list = key.toList.isEmpty
        · refine (does_val B t d v os ht vold old i1 i2 kind ob1 ob2 e1 e2 be1 be2 n v1 v2 lst key w h hold hk1 k hkl hk hk2 os[k].list rfl hbl.symm).mono fun e w' ⟨he, ⟨v', l', h1, h3⟩, h2⟩ => ⟨he, v, _, h1, ?_, h2⟩
          refine objs_set hkl v' _ _ ?_
          rw [doesAt_yes (by exact hk2) (by exact hbl), h3]; rfl
        · have hbn : key.toList.isEmpty = !os[k].list := by
            revert hbl; cases os[k].list <;> cases key.toList.isEmpty <;> simp
          refine (does_valno B t d v os ht vold old i1 i2 kind ob1 ob2 e1 e2 be1 be2 n v1 v2 lst key w h hold hk1 k hkl hk hk2 os[k].list rfl hbn).mono fun e w' ⟨he, h1, h2⟩ => ⟨he, v, os, h1.mono (by omega), ?_, h2⟩
          rw [hd _ (doesAt_no (by exact hk2) (by exact hbl))]

end Go.Proofs.YtnkpogjiiohapaaGreatDoor

/-! PureO: Plain facts: the least of those that are not taken yet is the next one of the sorted list. -/
namespace Go.Proofs.YtnkpogjiiohapaaGreatDoor
open Go.RowKit

def idLess (a b : PId) : Bool := decide (a.1 < b.1 ∨ (a.1 = b.1 ∧ a.2 < b.2))
theorem idLess_irrefl (a : PId) : idLess a a = false := by simp [idLess]
theorem idLess_trans {a b c : PId} (h1 : idLess a b = true) (h2 : idLess b c = true) : idLess a c = true := by
  simp [idLess] at *; omega

def Sorted (S : List POp) : Prop := S.Pairwise fun a b => idLess a.id b.id = true

/-- What the search for the least has found among the first k. -/
def BestUpto (ids : List PId) (fl : Nat → Bool) (k : Nat) (r : Int) : Prop :=
  (r = -1 ∧ ∀ j, j < k → fl j = true) ∨
  ∃ i, ∃ hi : i < ids.length, i < k ∧ r = (i : Int) ∧ fl i = false ∧ ∀ j (hj : j < ids.length), j < k → fl j = false → idLess ids[j] ids[i] = false

theorem BestUpto.taken {ids : List PId} {fl : Nat → Bool} {k : Nat} {r : Int} (h : BestUpto ids fl k r) (hn : fl k = true) : BestUpto ids fl (k + 1) r := by
  rcases h with ⟨h1, h2⟩ | ⟨i, hi, h0, h1, h2, h3⟩
  · refine .inl ⟨h1, fun j hjk => ?_⟩
    by_cases e : j = k
    · subst e; exact hn
    · exact h2 j (by omega)
  · refine .inr ⟨i, hi, by omega, h1, h2, fun j hj hjk hl => ?_⟩
    by_cases e : j = k
    · subst e; rw [hn] at hl; cases hl
    · exact h3 j hj (by omega) hl
theorem BestUpto.first {ids : List PId} {fl : Nat → Bool} {k : Nat} (hk : k < ids.length) (h : BestUpto ids fl k (-1)) (hn : fl k = false) : BestUpto ids fl (k + 1) k := by
  rcases h with ⟨_, h2⟩ | ⟨i, hi, h0, h1, _⟩
  · refine .inr ⟨k, hk, by omega, rfl, hn, fun j hj hjk hl => ?_⟩
    by_cases e : j = k
    · subst e; exact idLess_irrefl _
    · rw [h2 j (by omega)] at hl; cases hl
  · omega
theorem BestUpto.better {ids : List PId} {fl : Nat → Bool} {k m : Nat} (hk : k < ids.length) (hm : m < ids.length) (h : BestUpto ids fl k m) (hn : fl k = false) (hb : idLess ids[k] ids[m] = true) : BestUpto ids fl (k + 1) k := by
  rcases h with ⟨h1, _⟩ | ⟨i, hi, h0, h1, h2, h3⟩
  · omega
  · have : m = i := by omega
    subst this
    refine .inr ⟨k, hk, by omega, rfl, hn, fun j hj hjk hl => ?_⟩
    by_cases e : j = k
    · subst e; exact idLess_irrefl _
    · have := h3 j hj (by omega) hl
      cases hc : idLess ids[j] ids[k]
      · rfl
      · rw [idLess_trans hc hb] at this; cases this
theorem BestUpto.worse {ids : List PId} {fl : Nat → Bool} {k m : Nat} (hk : k < ids.length) (hm : m < ids.length) (h : BestUpto ids fl k m) (hb : idLess ids[k] ids[m] = false) : BestUpto ids fl (k + 1) m := by
  rcases h with ⟨h1, _⟩ | ⟨i, hi, h0, h1, h2, h3⟩
  · omega
  · have : m = i := by omega
    subst this
    refine .inr ⟨m, hm, by omega, rfl, h2, fun j hj hjk hl => ?_⟩
    by_cases e : j = k
    · subst e; exact hb
    · exact h3 j hj (by omega) hl
theorem BestUpto.shape {ids : List PId} {fl : Nat → Bool} {k : Nat} {r : Int} (h : BestUpto ids fl k r) : r = -1 ∨ ∃ m : Nat, ∃ _ : m < ids.length, r = (m : Int) := by
  rcases h with ⟨h1, _⟩ | ⟨i, hi, _, h1, _⟩
  · exact .inl h1
  · exact .inr ⟨i, hi, h1⟩

theorem sorted_nodup {S : List POp} (h : Sorted S) : (S.map (·.id)).Nodup := by
  unfold Sorted at h
  rw [List.Nodup, List.pairwise_map]
  exact h.imp fun {a b} hab e => by rw [e, idLess_irrefl] at hab; cases hab

theorem sorted_lt {S : List POp} (h : Sorted S) {i j : Nat} (hi : i < S.length) (hj : j < S.length) (hij : i < j) : idLess S[i].id S[j].id = true :=
  List.pairwise_iff_getElem.1 h i j hi hj hij

theorem mem_take_ids {S : List POp} (h : Sorted S) {m q : Nat} (hq : q < S.length) : S[q].id ∈ (S.take m).map (·.id) ↔ q < m := by
  rw [List.mem_map]
  constructor
  · rintro ⟨a, ha, e⟩
    obtain ⟨i, hi, rfl⟩ := List.mem_iff_getElem.1 ha
    rw [List.length_take] at hi
    rw [List.getElem_take] at e
    have hiS : i < S.length := by omega
    by_cases hlt : i < q
    · have := sorted_lt h hiS hq hlt
      rw [e, idLess_irrefl] at this; cases this
    · by_cases hgt : q < i
      · have := sorted_lt h hq hiS hgt
        rw [e, idLess_irrefl] at this; cases this
      · omega
  · intro hm
    exact ⟨S[q], by rw [List.mem_iff_getElem]; exact ⟨q, by rw [List.length_take]; omega, by rw [List.getElem_take]⟩, rfl⟩

/-- THE NEXT ONE. -/
theorem best_next {ops S : List POp} (hp : S.Perm ops) (hs : Sorted S) {fl : Nat → Bool} {m : Nat} (hm : m < ops.length) (hf : ∀ i (hi : i < ops.length), fl i = decide (ops[i].id ∈ (S.take m).map (·.id)))
    {r : Int} (hb : BestUpto (ops.map (·.id)) fl ops.length r) : ∃ i, ∃ hi : i < ops.length, r = (i : Int) ∧ ops[i] = S[m]'(by rw [hp.length_eq]; exact hm) := by
  have hmS : m < S.length := by rw [hp.length_eq]; exact hm
  obtain ⟨j, hj, ej⟩ : ∃ j, ∃ hj : j < ops.length, ops[j] = S[m] := by
    have : S[m] ∈ ops := hp.mem_iff.1 (List.getElem_mem _)
    obtain ⟨j, hj, e⟩ := List.mem_iff_getElem.1 this
    exact ⟨j, hj, e⟩
  have hfj : fl j = false := by
    rw [hf j hj, ej, decide_eq_false_iff_not, mem_take_ids hs hmS]; omega
  rcases hb with ⟨_, h2⟩ | ⟨i, hi, _, h1, h2, h3⟩
  · rw [h2 j hj] at hfj; cases hfj
  · rw [List.length_map] at hi
    refine ⟨i, hi, h1, ?_⟩
    have hiS : ops[i] ∈ S := hp.mem_iff.2 (List.getElem_mem _)
    obtain ⟨q, hq, eq⟩ := List.mem_iff_getElem.1 hiS
    rw [hf i hi, ← eq, decide_eq_false_iff_not, mem_take_ids hs hq] at h2
    by_cases hqm : q = m
    · subst hqm; exact eq.symm
    · have hlt := sorted_lt hs hmS hq (by omega)
      have := h3 j (by simpa using hj) hj hfj
      rw [List.getElem_map, List.getElem_map, ej, ← eq, hlt] at this
      cases this

theorem flags_next {ops S : List POp} (hp : S.Perm ops) (hs : Sorted S) {fl : Nat → Bool} {m i : Nat} (hm : m < ops.length) (hf : ∀ i (hi : i < ops.length), fl i = decide (ops[i].id ∈ (S.take m).map (·.id)))
    (hi : i < ops.length) (e : ops[i] = S[m]'(by rw [hp.length_eq]; exact hm)) :
    ∀ j (hj : j < ops.length), (if j = i then true else fl j) = decide (ops[j].id ∈ (S.take (m + 1)).map (·.id)) := by
  intro j hj
  have hmS : m < S.length := by rw [hp.length_eq]; exact hm
  have hn : (ops.map (·.id)).Nodup := (hp.map _).nodup_iff.1 (sorted_nodup hs)
  rw [List.take_succ_eq_append_getElem hmS, List.map_append, List.map_singleton]
  by_cases hji : j = i
  · subst hji; rw [if_pos rfl]; symm; rw [decide_eq_true_eq, e]; simp
  · rw [if_neg hji, hf j hj]
    have hne : ops[j].id ≠ S[m].id := by
      rw [← e]; intro he
      have := (List.nodup_iff_pairwise_ne.1 hn)
      rw [List.pairwise_iff_getElem] at this
      rcases Nat.lt_or_gt_of_ne hji with hlt | hgt
      · exact this j i (by simpa using hj) (by simpa using hi) hlt (by simpa using he)
      · exact this i j (by simpa using hi) (by simpa using hj) hgt (by simpa using he.symm)
    simp [hne]

end Go.Proofs.YtnkpogjiiohapaaGreatDoor

/-! RefO: The contract of the reference's Done: what the operations make of a document, done in the order of their Ids. -/
namespace Go.Proofs.YtnkpogjiiohapaaGreatDoor
open Go.RowKit

structure COp where
  p : POp
  vold : Value
def opC (o : COp) : List Value := [.int .i64 o.p.id.1, .int .i64 o.p.id.2, .int .i64 o.p.kind, .bool o.p.list, .int .i64 o.p.object.1, .int .i64 o.p.object.2, .string o.p.key, .int .i64 o.p.element.1, .int .i64 o.p.element.2, .int .i64 o.p.behind.1, .int .i64 o.p.behind.2, .int .i64 o.p.num, .int .i64 o.p.obj.1, .int .i64 o.p.obj.2, o.vold]
/-- A row of operations. -/
def isOps (w : World) (v : Value) (l : List COp) : Prop := w.ownsRow 0 233 15 v l.length (l.flatMap opC) ∧ ∀ o ∈ l, isIds w o.vold o.p.old
theorem isOps.keep {w w' : World} {v : Value} {l : List COp} (h : isOps w v l) (hb : Below w.heap.size w w') : isOps w' v l := ⟨owns_keep h.1 hb, fun o ho => (h.2 o ho).keep hb⟩

theorem isOps.cell {w : World} {g n cap : Nat} {l : List COp} (h : isOps w (.slice (some ⟨g, 0, none⟩) n cap) l) (hn : n = l.length) (i : Nat) (hi : i < l.length) (j : Nat) (hj : j < 15) : w.cell? ⟨g, i * 15 + j, none⟩ = (opC l[i])[j]? := by
  subst hn
  exact owns_cell (f := opC) (fun _ => rfl) h.1 rfl i hi j hj

/-- The flags. -/
def ownFl (B : Nat) (w : World) (v : Value) (n : Nat) (fl : Nat → Bool) : Prop := w.ownsRow B 4 1 v n ((List.range n).map fun i => Value.bool (fl i))
theorem ownFl.cell {B : Nat} {w : World} {g n cap : Nat} {fl : Nat → Bool} (h : ownFl B w (.slice (some ⟨g, 0, none⟩) n cap) n fl) {i : Nat} (hi : i < n) : w.cell? ⟨g, i, none⟩ = some (.bool (fl i)) := by
  rw [World.ownsRow.cellAt h i (by omega)]; simp [hi]
theorem ownFl.fz {B : Nat} {w : World} {g n cap : Nat} {fl : Nat → Bool} (h : ownFl B w (.slice (some ⟨g, 0, none⟩) n cap) n fl) (i : Nat) : w.frozen? ⟨g, i, none⟩ = false := World.ownsRow.frozenAt h i
theorem ownFl.store {B : Nat} {w : World} {g n cap : Nat} {fl : Nat → Bool} (h : ownFl B w (.slice (some ⟨g, 0, none⟩) n cap) n fl) (i : Nat) :
    ownFl B (w.setCell ⟨g, i, none⟩ (.bool true)) (.slice (some ⟨g, 0, none⟩) n cap) n (fun j => if j = i then true else fl j) := by
  have := (World.ownsRow.stored h i (.bool true)).1
  unfold ownFl
  have e : ((List.range n).map fun i => Value.bool (fl i)).set i (.bool true) = (List.range n).map fun j => Value.bool (if j = i then true else fl j) := by
    apply List.ext_getElem?
    intro j
    rw [List.getElem?_set]
    by_cases hji : i = j
    · subst hji
      by_cases hjn : i < n
      · simp [hjn]
      · simp [hjn]
    · by_cases hjn : j < n
      · simp [hji, hjn, Ne.symm hji]
      · simp [hji, hjn]
  rw [← e]; exact this

def rootP : List PObj := [⟨(0, 0), false, []⟩]

theorem doc_start {w w1 : World} (hg1 : ((w.alloc (.cells #[.int .i64 0, .int .i64 0, .bool false, .slice none 0 0] 272)).alloc (.cells #[.slice (some ⟨w.heap.size, 0, none⟩) 1 1] 277)).grownBy w1 none) :
    isDoc w.heap.size 0 w1 (w.heap.size + 1) (.slice (some ⟨w.heap.size, 0, none⟩) 1 1) [⟨(0, 0), false, .slice none 0 0, []⟩] := by
  refine ⟨?_, by omega, ⟨⟨by simp [objC], .inr ⟨w.heap.size, 1, #[.int .i64 0, .int .i64 0, .bool false, .slice none 0 0], rfl, Nat.le_refl _, ?_, by simp, by simp [maxLen], rfl, by simp [objC]⟩⟩, ?_, ?_⟩, by simp, ?_⟩
  · rw [hg1.block (w.heap.size + 1) (by simp) (by simp)]
    have : w.heap.size + 1 = (w.alloc (.cells #[.int .i64 0, .int .i64 0, .bool false, .slice none 0 0] 272)).heap.size := by simp
    rw [this]; exact heap_alloc_new _ _
  · rw [hg1.block w.heap.size (by simp; omega) (by simp), heap_alloc_old _ _ (by simp)]
    exact heap_alloc_new _ _
  · intro o ho; simp at ho; subst ho; exact ⟨World.ownsRow_nil _ _ _ _, fun s hs => by simp at hs⟩
  · intro i j hi hj hij; simp at hi hj; omega
  · intro o ho; simp at ho; subst ho; exact ⟨by simp, fun s hs => by simp at hs⟩

theorem fl_start {B n : Nat} {w : World} {v : Value} (h : w.ownsRow B 4 1 v n (madeCells (Value.bool false).cells (n * 1)).toList) : ownFl B w v n (fun _ => false) := by
  unfold ownFl
  have e : (madeCells (Value.bool false).cells (n * 1)).toList = (List.range n).map fun _ => Value.bool false := by
    show (madeCells #[Value.bool false] (n * 1)).toList = _
    rw [toList_madeCells_one, Nat.mul_one]
    apply List.ext_getElem?
    intro j
    by_cases hj : j < n <;> simp [hj]
  rw [← e]; exact h

theorem ownFl.keep {B n : Nat} {w w' : World} {v : Value} {fl : Nat → Bool} (h : ownFl B w v n fl) (hb : Below w.heap.size w w') : ownFl B w' v n fl := owns_keep h hb
theorem ids_get (l : List COp) (k : Nat) (hk : k < (l.map fun o => o.p.id).length) : (l.map fun o => o.p.id)[k] = (l[k]'(by simpa using hk)).p.id := by simp

/-- A store into another row keeps the document. -/
theorem isDoc.store {B t : Nat} {w : World} {d : Nat} {v : Value} {os : List CObj} (h : isDoc B t w d v os) {g o : Nat} {c : Array Value} {e : TypeId} (hg : w.heap[g]? = some (.cells c e (0, 0))) (h1 : e ≠ 277) (h2 : e ≠ 272) (h3 : e ≠ 269) (h4 : e ≠ 243) (u : Value) :
    isDoc B t (w.setCell ⟨g, o, none⟩ u) d v os := by
  have hoth : ∀ i, i ≠ g → (w.setCell ⟨g, o, none⟩ u).heap[i]? = w.heap[i]? := fun i hi => Below.heap_setCell _ _ _ _ hi
  have hty : ∀ (i : Nat) (c' : Array Value) (e' : TypeId), w.heap[i]? = some (.cells c' e' (0, 0)) → e' ≠ e → (w.setCell ⟨g, o, none⟩ u).heap[i]? = w.heap[i]? := by
    intro i c' e' hi hne
    exact hoth i (fun e2 => by subst e2; exact hne (cells_type hi hg))
  refine ⟨by rw [hty d _ _ h.hd (Ne.symm h1)]; exact h.hd, h.hB, ⟨⟨h.ho.1.1, ?_⟩, fun o' ho' => slots_block (h.ho.2.1 o' ho') (fun i hi => ?_) (fun i c' hc' => hty i c' _ hc' (Ne.symm h4)), h.ho.2.2⟩, h.hn, h.hs⟩
  · rcases h.ho.1.2 with hn | ⟨i, cap, cur, e1, hb, hi, rest⟩
    · exact .inl hn
    · exact .inr ⟨i, cap, cur, e1, hb, by rw [hty i _ _ hi (Ne.symm h2)]; exact hi, rest⟩
  · obtain ⟨c', hc'⟩ := own_type (h.ho.2.1 o' ho').1 hi
    exact hty i c' _ hc' (Ne.symm h3)

theorem less_id (x y : PId) (w : World) : Calls Tryz.prog 158 #[.agg #[.int .i64 x.1, .int .i64 x.2], .agg #[.int .i64 y.1, .int .i64 y.2]] w fun e w' => e = .returned (.bool (idLess x y)) ∧ Below w.heap.size w w' :=
  less_any x.1 x.2 y.1 y.2 w

/-- The outer loop's relation. -/
def DoneInv (w : World) (l : List COp) (S : List POp) (d gt m : Nat) (wr : World) : Prop :=
  ∃ vd os fl, isDoc w.heap.size m wr d vd os ∧ os.map CObj.p = (S.take m).foldl doesP rootP ∧ ownFl w.heap.size wr (.slice (some ⟨gt, 0, none⟩) l.length l.length) l.length fl ∧
    (∀ i (hi : i < (l.map COp.p).length), fl i = decide ((l.map COp.p)[i].id ∈ (S.take m).map POp.id)) ∧ Below w.heap.size w wr
/-- The inner one's. -/
def BestInv (w : World) (l : List COp) (fl : Nat → Bool) (k : Nat) (r : Int) (wr wq : World) : Prop := BestUpto ((l.map COp.p).map POp.id) fl k r ∧ Below wr.heap.size wr wq

set_option maxRecDepth 1000000 in
set_option maxHeartbeats 3200000 in
theorem done_any (v : Value) (l : List COp) (S : List POp) (hS : S.Perm (l.map COp.p)) (hsort : Sorted S) (hl : l.length < 10000) (w : World) (h : isOps w v l) :
    Calls Tryz.prog 175 #[v] w fun e w' =>
      ∃ d vd os, e = .returned (.pointer (some ⟨d, 0, none⟩)) ∧ isDoc w.heap.size l.length w' d vd os ∧ os.map CObj.p = S.foldl doesP rootP ∧ Below w.heap.size w w' := by
  obtain ⟨a, cap, rfl, hlc, hcm, hform⟩ := owns_form h.1
  unfold maxLen at hcm
  have HF := hid hform; clear hform
  have HH := hid h; clear h
  have HS := hid hS; clear hS
  have HSO := hid hsort; clear hsort
  obtain ⟨i0, hi0, hz0, hz1, hz2⟩ := info_parts (P := Tryz.prog) (e := 4) (z := .bool false) (size := 1) (bytes := 1) (by kernel_rfl)
  go_enter Tryz.func175, Tryz.ntmps175
  go_wp2_with (at_make; go_must (refine wpList_make_full _ rfl (.tmp 14) (.tmp 14) 299 rfl (w.heap.size + 2) 4 i0 (.bool false) 1 Tryz.underlying299 hi0 hz0 hz1 _ _ _ _ l.length rfl rfl ?h1 ?h2 ?h3 ?h4 ?h5 ?_; (case h1 => rfl); (case h2 => rfl); (case h3 => rw [hz2]; omega); (case h4 => unfold maxLen; omega); (case h5 => simp); intro w1 hown1 hg1))
  have hb1 : Below w.heap.size w w1 := (((Below.refl _ w).alloc (Nat.le_refl _) _).alloc (by simp) _).grown hg1 (by simp; omega) (fun k hk => by cases hk)
  have HD1 := hid (doc_start hg1)
  rw [show ((w.alloc (.cells #[.int .i64 0, .int .i64 0, .bool false, .slice none 0 0] 272)).alloc (.cells #[.slice (some ⟨w.heap.size, 0, none⟩) 1 1] 277)).heap.size = w.heap.size + 1 + 1 by simp] at hown1
  have HFL1 : Hid (ownFl w.heap.size w1 (.slice (some ⟨w.heap.size + 1 + 1, 0, none⟩) l.length l.length) l.length (fun _ => false)) := owns_mono (base' := w.heap.size) (fl_start hown1) (by omega)
  clear hg1 hown1 hi0 hz0 hz1 hz2 i0
  have HB1 := hid hb1; clear hb1
  generalize w.heap.size + 1 = d at *
  generalize d + 1 = gt at *
  go_loopw [5] (fun nn wr => ∃ m : Nat, m ≤ l.length ∧ nn = .int .i64 m ∧ DoneInv w l S d gt m wr) (fun nn _ => l.length - (intOf nn).toNat)
  case atStart => exact ⟨0, Nat.zero_le _, rfl, _, _, fun _ => false, HD1.out, rfl, HFL1.out, fun i hi => by simp, HB1.out⟩
  case round =>
    obtain ⟨m, hm, rfl, hinv⟩ := hrel
    obtain ⟨ws, hws⟩ : ∃ ws, ws = wr := ⟨_, rfl⟩
    subst hws
    obtain ⟨vd, os, fl, hdoc, hfo, hfl, hfm, hbel⟩ := hinv
    have HDOC := hid hdoc; clear hdoc
    have HFO := hid hfo; clear hfo
    have HFM := hid hfm; clear hfm
    have HFL := hid hfl; clear hfl
    have HBEL := hid hbel; clear hbel
    by_cases hlt : m < l.length
    · obtain ⟨g, rfl⟩ := HF.out m hlt
      go_wp2
      go_loopw [6, 7] (fun b i wq => ∃ k : Nat, ∃ r : Int, k ≤ l.length ∧ i = .int .i64 k ∧ b = .int .i64 r ∧ BestInv w l fl k r ws wq) (fun _ i _ => l.length - (intOf i).toNat)
      case atStart => exact ⟨0, -1, Nat.zero_le _, rfl, rfl, .inl ⟨rfl, fun j hj => absurd hj (Nat.not_lt_zero _)⟩, Below.refl _ _⟩
      case round =>
        obtain ⟨k, r, hk, rfl, rfl, hbi⟩ := hrel
        obtain ⟨hbu, hbq⟩ := hbi
        have HBU := hid hbu; clear hbu
        have hfq := HFL.out.keep hbq
        by_cases hkl : k < l.length
        · have c0 := ownFl.cell hfq hkl
          have o0 := (isOps.cell (HH.out.keep (HBEL.out.trans (hbq.mono HBEL.out.size))) rfl k hkl 0 (by omega))
          have o1 := (isOps.cell (HH.out.keep (HBEL.out.trans (hbq.mono HBEL.out.size))) rfl k hkl 1 (by omega))
          simp only [opC, List.getElem?_cons_zero, List.getElem?_cons_succ, Nat.add_zero] at o0 o1
          have hgl : g < wr.heap.size := World.block_lt_of_cell? wr _ o0
          have HBQ := hid hbq; clear hbq
          have HFQ := hid hfq; clear hfq
          cases hf : fl k
          · rw [hf] at c0
            rcases HBU.out.shape with rfl | ⟨j, hj, rfl⟩
            · go_wp2
              go_roundw
              case rel => exact ⟨k + 1, k, by omega, by go_num, rfl, HBU.out.first (by simpa using hkl) hf, HBQ.out⟩
              case measure => simp [intOf]; omega
            · have hjl : j < l.length := by simpa using hj
              have q0 := (isOps.cell (HH.out.keep (HBEL.out.trans (HBQ.out.mono HBEL.out.size))) rfl j hjl 0 (by omega))
              have q1 := (isOps.cell (HH.out.keep (HBEL.out.trans (HBQ.out.mono HBEL.out.size))) rfl j hjl 1 (by omega))
              simp only [opC, List.getElem?_cons_zero, List.getElem?_cons_succ, Nat.add_zero] at q0 q1
              have hj0 : ¬ (j : Int) < 0 := by omega
              have HL := hid (less_id l[k].p.id l[j].p.id)
              go_wp2
              go_region_with (go_at_call 158; refine (HL.out _).mono ?_; rintro e w' ⟨rfl, hbl⟩; have HBL := hid hbl; clear hbl)
              all_goals cases hb : idLess l[k].p.id l[j].p.id
              all_goals go_wp2
              all_goals go_roundw
              all_goals first | (simp [intOf]; omega) | exact ⟨k + 1, j, by omega, by go_num, rfl, HBU.out.worse (by simpa using hkl) hj (by simpa using hb), HBQ.out.trans (((Below.refl _ wr).drew.trans HBL.out).mono HBQ.out.size)⟩ | exact ⟨k + 1, k, by omega, by go_num, rfl, HBU.out.better (by simpa using hkl) hj hf (by simpa using hb), HBQ.out.trans (((Below.refl _ wr).drew.trans HBL.out).mono HBQ.out.size)⟩
          · rw [hf] at c0
            go_wp2
            go_roundw
            case rel => exact ⟨k + 1, r, by omega, by go_num, rfl, HBU.out.taken hf, HBQ.out⟩
            case measure => simp [intOf]; omega
        · have ek : k = l.length := by omega
          subst ek
          obtain ⟨i, hi, rfl, ei⟩ := best_next HS.out HSO.out (by simpa using hlt) HFM.out (by simpa using HBU.out)
          have hil : i < l.length := by simpa using hi
          have hww : Below w.heap.size w wr := HBEL.out.trans (hbq.mono HBEL.out.size)
          have hops := HH.out.keep hww
          have c0 := ownFl.cell hfq hil
          have cf := ownFl.fz hfq i
          have hgl : g < w.heap.size := by
            have := isOps.cell HH.out rfl i hil 0 (by omega)
            simp only [opC, List.getElem?_cons_zero] at this
            exact World.block_lt_of_cell? w _ this
          have hgt : w.heap.size ≤ gt := (World.ownsRow.lt hfq gt rfl).1
          have hne : g ≠ gt := by omega
          have o0 := isOps.cell hops rfl i hil 0 (by omega)
          have o1 := isOps.cell hops rfl i hil 1 (by omega)
          have o2 := isOps.cell hops rfl i hil 2 (by omega)
          have o3 := isOps.cell hops rfl i hil 3 (by omega)
          have o4 := isOps.cell hops rfl i hil 4 (by omega)
          have o5 := isOps.cell hops rfl i hil 5 (by omega)
          have o6 := isOps.cell hops rfl i hil 6 (by omega)
          have o7 := isOps.cell hops rfl i hil 7 (by omega)
          have o8 := isOps.cell hops rfl i hil 8 (by omega)
          have o9 := isOps.cell hops rfl i hil 9 (by omega)
          have o10 := isOps.cell hops rfl i hil 10 (by omega)
          have o11 := isOps.cell hops rfl i hil 11 (by omega)
          have o12 := isOps.cell hops rfl i hil 12 (by omega)
          have o13 := isOps.cell hops rfl i hil 13 (by omega)
          have o14 := isOps.cell hops rfl i hil 14 (by omega)
          simp only [opC, List.getElem?_cons_zero, List.getElem?_cons_succ, Nat.add_zero] at o0 o1 o2 o3 o4 o5 o6 o7 o8 o9 o10 o11 o12 o13 o14
          have hi0 : (0 : Int) ≤ (i : Int) := by omega
          have HEI := hid ei; clear ei
          have HDW := hid (((HDOC.out.keep hbq).store (own_type hfq (g := gt) rfl).choose_spec (by decide) (by decide) (by decide) (by decide) (.bool true) (o := i)))
          have HFW := hid (ownFl.store hfq i)
          have HWW := hid (hww.setCell (p := ⟨gt, i, none⟩) hgt (.bool true))
          have HID := hid ((HH.out.2 l[i] (List.getElem_mem _)).keep HWW.out)
          clear hfq hops hww
          go_wp2_with (go_at_call 192; go_must (refine (does_any w.heap.size m d vd os (by omega) l[i].vold l[i].p _ ?ha ?hb).mono ?_; (case ha => exact HDW.out); (case hb => exact HID.out); rintro e w2 ⟨rfl, vd2, os2, hd2, ho2, hf2⟩; have H2 := hid (And.intro hd2 (And.intro ho2 hf2)); clear hd2 ho2 hf2))
          go_roundw
          case rel =>
            have hmS : m < S.length := by rw [HS.out.length_eq]; simpa using hlt
            refine ⟨m + 1, by omega, by go_num, vd2, os2, _, H2.out.1, ?_, H2.out.2.2.row HFW.out (by decide) (by decide) (by decide), flags_next HS.out HSO.out (by simpa using hlt) HFM.out hi HEI.out, HWW.out.trans H2.out.2.2.below⟩
            have ei := HEI.out
            rw [List.getElem_map] at ei
            rw [H2.out.2.1, HFO.out, ei, List.take_succ_eq_append_getElem hmS, List.foldl_append]
            rfl
          case measure => simp [intOf]; omega
    · go_wp2
      go_ret
      have e : m = l.length := by omega
      subst e
      refine ⟨d, vd, os, rfl, HDOC.out, ?_, HBEL.out⟩
      have := HFO.out
      rwa [List.take_of_length_le (by rw [HS.out.length_eq]; simp)] at this

end Go.Proofs.YtnkpogjiiohapaaGreatDoor
