/- Our own text (RefS, PureT, RefT, RefX, RefY, RefZ). -/
import Derived.Deep.DeepCutAuto
import Derived.Test.YtnkpogjiiohapaaGreatDoorW05
set_option linter.unusedSimpArgs false
set_option linter.unusedVariables false

/-! RefS: The contract of the reference's Text, one level, given the level below. -/
namespace Go.Proofs.YtnkpogjiiohapaaGreatDoor
open Go.RowKit

/-- What the object's text takes of its slots, in the order in which they are gone through. -/
structure OrdOf (list : Bool) (ss M : List CSlot) : Prop where
  perm : M.Perm ss
  same : list = true → M = ss
  sorted : list = false → KSorted M
  keys : list = false → ∀ s ∈ ss, keyLess ⟨#[]⟩ s.key = true
  size : ∀ s ∈ ss, s.key.size ≤ 1000

theorem box_keep {w w1 : World} {o1 : Obj} (hb : Below ((w.alloc o1).alloc (.cells #[.int .i64 0, .int .i64 0, .bool false, .slice none 0 0] 272)).drew.heap.size ((w.alloc o1).alloc (.cells #[.int .i64 0, .int .i64 0, .bool false, .slice none 0 0] 272)).drew w1) :
    w1.cell? ⟨w.heap.size + 1, 0, none⟩ = some (.int .i64 0) ∧ w1.cell? ⟨w.heap.size + 1, 1, none⟩ = some (.int .i64 0) ∧ w1.cell? ⟨w.heap.size + 1, 2, none⟩ = some (.bool false) ∧ w1.cell? ⟨w.heap.size + 1, 3, none⟩ = some (.slice none 0 0) ∧ (∀ j, w1.frozen? ⟨w.heap.size + 1, j, none⟩ = false) := by
  refine ⟨keep hb (by simp [go_sem]), keep hb (by simp [go_sem]), keep hb (by simp [go_sem]), keep hb (by simp [go_sem]), fun j => ?_⟩
  rw [hb.frozen (p := ⟨w.heap.size + 1, j, none⟩) (by simp)]
  show ((w.alloc o1).alloc (.cells #[.int .i64 0, .int .i64 0, .bool false, .slice none 0 0] 272)).frozen? ⟨w.heap.size + 1, j, none⟩ = false
  exact World.frozen?_alloc_at _ _ _ _ (by simp)

/-- The object, taken out into a box of its own. -/
def BoxInv (w : World) (oi1 oi2 : Int) (lst : Bool) (vs : Value) (p : Value) (wc : World) : Prop :=
  ∃ bo, p = .pointer (some ⟨bo, 0, none⟩) ∧ wc.cell? ⟨bo, 0, none⟩ = some (.int .i64 oi1) ∧ wc.cell? ⟨bo, 1, none⟩ = some (.int .i64 oi2) ∧ wc.cell? ⟨bo, 2, none⟩ = some (.bool lst) ∧ wc.cell? ⟨bo, 3, none⟩ = some vs ∧ Below w.heap.size w wc

theorem boxA {w w1 : World} {oi1 oi2 : Int} {lst : Bool} {vs : Value} (hb : Below w.heap.size w w1) : BoxInv w oi1 oi2 lst vs (.pointer (some ⟨w1.heap.size, 0, none⟩)) (w1.alloc (.cells #[.int .i64 oi1, .int .i64 oi2, .bool lst, vs] 272)) :=
  ⟨w1.heap.size, rfl, by simp [go_sem], by simp [go_sem], by simp [go_sem], by simp [go_sem], hb.alloc hb.size _⟩
theorem boxB {w w1 : World} {oi1 oi2 : Int} {lst : Bool} {vs : Value} (y0 : w1.cell? ⟨w.heap.size + 1, 0, none⟩ = some (.int .i64 0)) (y1 : w1.cell? ⟨w.heap.size + 1, 1, none⟩ = some (.int .i64 0)) (y2 : w1.cell? ⟨w.heap.size + 1, 2, none⟩ = some (.bool false)) (y3 : w1.cell? ⟨w.heap.size + 1, 3, none⟩ = some (.slice none 0 0))
    (hb : Below w.heap.size w w1) : BoxInv w oi1 oi2 lst vs (.pointer (some ⟨w.heap.size + 1, 0, none⟩)) ((((w1.setCell ⟨w.heap.size + 1, 0, none⟩ (.int .i64 oi1)).setCell ⟨w.heap.size + 1, 1, none⟩ (.int .i64 oi2)).setCell ⟨w.heap.size + 1, 2, none⟩ (.bool lst)).setCell ⟨w.heap.size + 1, 3, none⟩ vs) :=
  ⟨w.heap.size + 1, rfl, by simp [go_sem, y0], by simp [go_sem, y1], by simp [go_sem, y2], by simp [go_sem, y3], (((hb.setCell (by simp) _).setCell (by simp) _).setCell (by simp) _).setCell (by simp) _⟩

set_option maxRecDepth 1000000 in
set_option maxHeartbeats 3200000 in
theorem text_obj (B t d : Nat) (vd : Value) (os : List CObj) (T : PId → ByteArray) (G : PId → Prop) (depth : Nat) (hdp : depth ≤ 4) (ht : t < 100000)
    (HT : ∀ (x : PId) (W : World), G x → isDoc B t W d vd os → Calls Tryz.prog 153 #[.pointer (some ⟨d, 0, none⟩), .agg #[.int .i64 x.1, .int .i64 x.2], .int .i64 ((depth : Int) + 1)] W fun e w' => e = .returned (.string (T x)) ∧ Below W.heap.size W w')
    (x1 x2 : Int) (ko : Nat) (hko : ko < os.length) (hfi : firstI (objIs (x1, x2)) os = (ko : Int)) (M : List CSlot) (hM : OrdOf os[ko].list os[ko].ss M)
    (hg : ∀ s ∈ os[ko].ss, ∀ x ∈ s.hs, idEq x.obj.1 x.obj.2 0 0 = false → G x.obj) (hn : ∀ s ∈ os[ko].ss, ∀ x ∈ s.hs, intOk x.num) (hsz : (objBody T os[ko].list (M.map CSlot.p)).size ≤ 1125899906842620)
    (w : World) (hd : isDoc B t w d vd os) :
    Calls Tryz.prog 153 #[.pointer (some ⟨d, 0, none⟩), .agg #[.int .i64 x1, .int .i64 x2], .int .i64 depth] w fun e w' => e = .returned (.string (objText T os[ko].list (M.map CSlot.p))) ∧ Below w.heap.size w w' := by
  obtain ⟨go, cap, curO, hv, hBgo, hgo, hoc, hcm, hcs, htk, hol, hos⟩ := hd.row hko
  unfold maxLen at hcm
  subst hv
  have hp := hd.cell
  have c0 := isObjs.cells hd.ho rfl ko hko
  obtain ⟨c0, c1, c2, c3⟩ := c0
  have hgl : go < w.heap.size := World.block_lt_of_cell? w _ c0
  have hdl := hd.lt
  have hsl := hd.ho.2.1 os[ko] (List.getElem_mem _)
  obtain ⟨va, vc, hvs, hvl, hvm, hvf⟩ := owns_form hsl.1
  unfold maxLen at hvm
  have hssl := (hd.hs os[ko] (List.getElem_mem _)).1
  rw [hvs] at c3 hsl
  clear hgo hol hos hcs htk hBgo
  have HHD := hid hd; clear hd
  have HSL := hid hsl; clear hsl
  have HVF := hid hvf; clear hvf
  have HVS := hid hvs; clear hvs
  have HTT := hid HT; clear HT
  have HG := hid hg; clear hg
  have HN := hid hn; clear hn
  have HM := hid hM; clear hM
  have HP0 := hid hp
  have hlen : M.length = os[ko].ss.length := HM.out.perm.length_eq
  have HLEN := hid hlen; clear hlen
  have HFD := hid (fun W (hW : Below w.heap.size w W) => find_any B d _ os x1 x2 W (HHD.out.keep hW).cell (HHD.out.keep hW).ho)
  generalize hL : os[ko].list = lst at *
  generalize hSS : os[ko].ss = ss at *
  have HSS := hid hSS
  generalize os[ko].id.1 = oi1 at *
  generalize os[ko].id.2 = oi2 at *
  clear hL hSS
  go_enter Tryz.func153, Tryz.ntmps153
  go_wp2
  go_cut [7] (fun p wc => BoxInv w oi1 oi2 lst (.slice va ss.length vc) p wc)
  case first =>
    go_region_with (go_at_call 174; refine (HFD.out _ ?hw).mono ?_; (case hw => first | exact ((Below.refl _ w).alloc (Nat.le_refl _) _).drew | exact (((Below.refl _ w).alloc (Nat.le_refl _) _).alloc (by simp) _).drew); rintro e w1 ⟨rfl, hb1⟩; have hbb : Below w.heap.size w w1 := (by first | exact (((Below.refl _ w).alloc (Nat.le_refl _) _).drew).trans (hb1.mono (by simp)) | exact ((((Below.refl _ w).alloc (Nat.le_refl _) _).alloc (by simp) _).drew).trans (hb1.mono (by simp; omega))); replace hp := keep hbb hp; replace c0 := keep hbb c0; replace c1 := keep hbb c1; replace c2 := keep hbb c2; replace c3 := keep hbb c3; have hgl1 : go < w1.heap.size := World.block_lt_of_cell? w1 _ c0; have hdl1 : d < w1.heap.size := World.block_lt_of_cell? w1 _ hp; have HB1 := hid hbb; clear hbb; try (obtain ⟨y0, y1, y2, y3, yf⟩ := box_keep hb1); have HB0 := hid hb1; clear hb1)
    all_goals (go_wp2_with fail; go_meet)
    all_goals first | exact boxA HB1.out | exact boxB y0 y1 y2 y3 HB1.out
  case rest =>
    obtain ⟨bo, rfl, b0, b1, b2, b3, hbel0⟩ := hcut
    have HC2 := hid b2; have HC3 := hid b3; have HBEL0 := hid hbel0
    clear b0 b1 b2 b3 hbel0
    clear c0 c1 c2 c3 hp
    go_wp2
    go_loopw [8, 9, 10] (fun s la nn wr => ∃ n : Nat, ∃ lk : ByteArray, n ≤ ss.length ∧ nn = .int .i64 n ∧ s = .string (objBody T lst ((M.map CSlot.p).take n)) ∧ la = .string lk ∧ Hid (lk.size ≤ 1000 ∧ (lst = false → lk = lastKey M n)) ∧ Below wc.heap.size wc wr) (fun _ _ nn _ => ss.length - (intOf nn).toNat)
    case atStart => exact ⟨0, _, Nat.zero_le _, rfl, rfl, rfl, ⟨by show 0 ≤ 1000; omega, fun _ => (lastKey_zero M).symm⟩, Below.refl _ _⟩
    case round =>
      obtain ⟨n, lk, hn, rfl, rfl, rfl, hlk, hbel⟩ := hrel
      have b2 := keep hbel HC2.out
      have b3 := keep hbel HC3.out
      have hbol : bo < wr.heap.size := World.block_lt_of_cell? wr _ b2
      have hMl : (M.map CSlot.p).length = ss.length := by rw [List.length_map, HLEN.out]
      have hS := body_le T lst (M.map CSlot.p) ((M.map CSlot.p).length - n) n (by omega)
      have HWW := hid (HBEL0.out.trans (hbel.mono HBEL0.out.size))
      have HBEL := hid hbel; clear hbel
      by_cases hlt : n < ss.length
      · obtain ⟨gs, rfl⟩ := HVF.out n hlt
        have hnM : n < (M.map CSlot.p).length := by omega
        have hnM' : n < M.length := by rw [HLEN.out]; exact hlt
        have HSW := hid (HSL.out.keep HWW.out)
        -- slot i is the next one: what the rest of the round needs of it
        have ROUND : ∀ i (hi : i < ss.length), ss[i] = M[n] → ∃ va' vc', wr.cell? ⟨gs, i * 4, none⟩ = some (.string ss[i].key) ∧ wr.cell? ⟨gs, i * 4 + 3, none⟩ = some (.slice va' ss[i].hs.length vc') ∧ ss[i].hs.length ≤ 1000000000 ∧
            (∀ W, Below wr.heap.size wr W → Calls Tryz.prog 177 #[.pointer (some ⟨d, 0, none⟩), .slice va' ss[i].hs.length vc', .int .i64 depth] W fun e w' => e = .returned (.string (valsText T ss[i].hs)) ∧ Below W.heap.size W w') ∧
            (valsText T ss[i].hs).size ≤ 1125899906842620 ∧ ss[i].key.size ≤ 1000 := by
          intro i hi ei
          obtain ⟨k0, k1, k2, k3⟩ := isSlots.cells HSW.out rfl i hi
          have hhd := HSL.out.2 ss[i] (List.getElem_mem _)
          obtain ⟨va', vc', hv', hvl', hvm', _⟩ := owns_form hhd
          rw [hv'] at k3 hhd
          have hvb := (vals_le_body T lst (M.map CSlot.p) n hnM).1
          have hmn : (M.map CSlot.p)[n].hs = ss[i].hs := by rw [List.getElem_map, ei]; rfl
          rw [hmn] at hvb
          refine ⟨va', vc', k0, k3, ?_, fun W hW => ?_, by omega, HM.out.size _ (List.getElem_mem _)⟩
          · have := (HHD.out.hs _ (List.getElem_mem hko)).2 ss[i] (by rw [HSS.out]; exact List.getElem_mem _); omega
          · have hwW : Below w.heap.size w W := HWW.out.trans (hW.mono HWW.out.size)
            exact values_any B t d _ os T G depth hdp HTT.out _ ss[i].hs W (HHD.out.keep hwW) (hhd.keep hwW) (fun x hx => HG.out ss[i] (List.getElem_mem _) x hx) (fun x hx => HN.out ss[i] (List.getElem_mem _) x hx) (by omega)
        have HROUND := hid ROUND; clear ROUND
        cases lst
        · have hlk1 := hlk.out.1
          have HLK2 := hid (hlk.out.2 rfl)
          have HAF := hid (after_any B bo 0 (.slice (some ⟨gs, 0, none⟩) ss.length vc) ss lk wr b3 HSW.out (fun s hs => by have := HM.out.size s hs; unfold maxLen; omega) (by unfold maxLen; omega))
          go_wp2_with fail
          refine HAF.out.mono ?_
          rintro e w2 ⟨r, rfl, hr, n', rfl⟩
          rw [HLK2.out] at hr
          obtain ⟨i, hi, rfl, ei⟩ := after_next HM.out.perm (HM.out.sorted rfl) (HM.out.keys rfl) hlt hr
          obtain ⟨va', vc', k0, k3, hhl, HV, hvz, hkz⟩ := HROUND.out i hi ei
          have HV := hid HV
          have EI := hid ei; clear ei hr
          have hgsl : gs < wr.heap.size := World.block_lt_of_cell? wr _ k0
          have HNEXT := hid (show objBody T false ((M.map CSlot.p).take (n + 1)) = objStep T false (objBody T false ((M.map CSlot.p).take n)) ss[i].p by rw [body_snoc T false hnM, List.getElem_map, ← EI.out])
          generalize objBody T false ((M.map CSlot.p).take n) = S at *
          have hSc : (S ++ comma).size = S.size + 1 := ba_size_append _ _
          have hSk : (S ++ ss[i].key).size = S.size + ss[i].key.size := ba_size_append _ _
          have hSk' : ((S ++ comma) ++ ss[i].key).size = S.size + 1 + ss[i].key.size := by rw [ba_size_append, hSc]
          have hSl : ((S ++ ss[i].key) ++ colon).size = S.size + ss[i].key.size + 1 := by rw [ba_size_append, hSk]; rfl
          have hSl' : (((S ++ comma) ++ ss[i].key) ++ colon).size = S.size + 1 + ss[i].key.size + 1 := by rw [ba_size_append, hSk']; rfl
          have hcd : (⟨#[44]⟩ : ByteArray) = comma := rfl
          have hcl : (⟨#[58]⟩ : ByteArray) = colon := rfl
          have hc1 : comma.size = 1 := rfl
          have hc2 : colon.size = 1 := rfl
          by_cases hz : ss[i].hs.length = 0
          · go_wp2
            go_roundw
            case rel => exact ⟨n + 1, _, by omega, by go_num, by rw [HNEXT.out]; unfold objStep; rw [if_pos (by exact hz)], rfl, ⟨hkz, fun _ => by rw [lastKey_succ M hnM', ← EI.out]⟩, below_drewN HBEL.out _⟩
            case measure => simp [intOf]; omega
          · cases hE : S.toList.isEmpty
            · go_wp2_with (go_at_call 177; go_must (refine (HV.out _ ?hw).mono ?_; (case hw => exact below_drewN (Below.refl _ _) _); rintro e w3 ⟨rfl, hb3⟩; have HB3 := hid hb3; clear hb3))
              go_roundw
              case rel => exact ⟨n + 1, _, by omega, by go_num, by rw [HNEXT.out]; unfold objStep; rw [if_neg (by exact hz), hE]; rfl, rfl, ⟨hkz, fun _ => by rw [lastKey_succ M hnM', ← EI.out]⟩, (below_drewN HBEL.out _).trans (HB3.out.mono (by exact (below_drewN HBEL.out _).size))⟩
              case measure => simp [intOf]; omega
            · go_wp2_with (go_at_call 177; go_must (refine (HV.out _ ?hw).mono ?_; (case hw => exact below_drewN (Below.refl _ _) _); rintro e w3 ⟨rfl, hb3⟩; have HB3 := hid hb3; clear hb3))
              go_roundw
              case rel => exact ⟨n + 1, _, by omega, by go_num, by rw [HNEXT.out]; unfold objStep; rw [if_neg (by exact hz), hE]; rfl, rfl, ⟨hkz, fun _ => by rw [lastKey_succ M hnM', ← EI.out]⟩, (below_drewN HBEL.out _).trans (HB3.out.mono (by exact (below_drewN HBEL.out _).size))⟩
              case measure => simp [intOf]; omega
        · have EI := hid (show ss[n] = M[n] by have := HM.out.same rfl; subst this; rfl)
          obtain ⟨va', vc', k0, k3, hhl, HV, hvz, hkz⟩ := HROUND.out n hlt EI.out
          have HV := hid HV
          have hgsl : gs < wr.heap.size := World.block_lt_of_cell? wr _ k0
          have HNEXT := hid (show objBody T true ((M.map CSlot.p).take (n + 1)) = objStep T true (objBody T true ((M.map CSlot.p).take n)) ss[n].p by rw [body_snoc T true hnM, List.getElem_map, ← EI.out])
          generalize objBody T true ((M.map CSlot.p).take n) = S at *
          have hSc : (S ++ comma).size = S.size + 1 := ba_size_append _ _
          have hcd : (⟨#[44]⟩ : ByteArray) = comma := rfl
          have hcl : (⟨#[58]⟩ : ByteArray) = colon := rfl
          have hc1 : comma.size = 1 := rfl
          have hc2 : colon.size = 1 := rfl
          by_cases hz : ss[n].hs.length = 0
          · go_wp2
            go_roundw
            case rel => exact ⟨n + 1, _, by omega, by go_num, by rw [HNEXT.out]; unfold objStep; rw [if_pos (by exact hz)], rfl, ⟨hkz, fun h => by cases h⟩, HBEL.out⟩
            case measure => simp [intOf]; omega
          · cases hE : S.toList.isEmpty
            · go_wp2_with (go_at_call 177; go_must (refine (HV.out _ ?hw).mono ?_; (case hw => exact Below.refl _ _); rintro e w3 ⟨rfl, hb3⟩; have HB3 := hid hb3; clear hb3))
              go_roundw
              case rel => exact ⟨n + 1, _, by omega, by go_num, by rw [HNEXT.out]; unfold objStep; rw [if_neg (by exact hz), hE]; rfl, rfl, ⟨hkz, fun h => by cases h⟩, (HBEL.out).trans (HB3.out.mono (by exact (HBEL.out).size))⟩
              case measure => simp [intOf]; omega
            · go_wp2_with (go_at_call 177; go_must (refine (HV.out _ ?hw).mono ?_; (case hw => exact Below.refl _ _); rintro e w3 ⟨rfl, hb3⟩; have HB3 := hid hb3; clear hb3))
              go_roundw
              case rel => exact ⟨n + 1, _, by omega, by go_num, by rw [HNEXT.out]; unfold objStep; rw [if_neg (by exact hz), hE]; rfl, rfl, ⟨hkz, fun h => by cases h⟩, (HBEL.out).trans (HB3.out.mono (by exact (HBEL.out).size))⟩
              case measure => simp [intOf]; omega
      · have hML : (M.map CSlot.p).take n = M.map CSlot.p := List.take_of_length_le (by omega)
        rw [hML]
        have hsz' := hsz
        have HOT := hid (show ∀ S, S = objBody T lst (M.map CSlot.p) → objText T lst (M.map CSlot.p) = if lst then ((⟨#[91]⟩ : ByteArray) ++ S) ++ ⟨#[93]⟩ else ((⟨#[123]⟩ : ByteArray) ++ S) ++ ⟨#[125]⟩ from fun S e => by rw [e]; rfl)
        have HOT := hid (HOT.out _ rfl)
        generalize objBody T lst (M.map CSlot.p) = S at *
        have hS1 : ((⟨#[91]⟩ : ByteArray) ++ S).size = 1 + S.size := ba_size_append _ _
        have hS2 : ((⟨#[123]⟩ : ByteArray) ++ S).size = 1 + S.size := ba_size_append _ _
        cases lst
        · go_wp2
          go_ret
          exact ⟨ret_str HOT.out.symm, HWW.out⟩
        · go_wp2
          go_ret
          exact ⟨ret_str HOT.out.symm, HWW.out⟩

end Go.Proofs.YtnkpogjiiohapaaGreatDoor

/-! PureT: Plain facts: keys in their order; the text of a document as a plain function. -/
namespace Go.Proofs.YtnkpogjiiohapaaGreatDoor
open Go.RowKit

theorem less_total : ∀ (a b : List UInt8), Op.bytesLess a b = false → Op.bytesLess b a = false → a = b
  | [], [], _, _ => rfl
  | [], _ :: _, h, _ => by simp [Op.bytesLess] at h
  | _ :: _, [], _, h => by simp [Op.bytesLess] at h
  | x :: a, y :: b, h1, h2 => by
    simp [Op.bytesLess, UInt8.lt_iff_toNat_lt, UInt8.le_iff_toNat_le] at h1 h2
    have e : x = y := UInt8.toNat_inj.1 (by omega)
    subst e
    rw [less_total a b (h1.2 rfl) (h2.2 rfl)]
theorem keyLess_total {a b : ByteArray} (h1 : keyLess a b = false) (h2 : keyLess b a = false) : a = b := by
  apply ByteArray.ext
  apply Array.toList_inj.1
  exact less_total _ _ h1 h2

/-- The slots of a map by their keys. -/
def slotLe (a b : PSlot) : Bool := !keyLess b.key a.key
def sortP (l : List PSlot) : List PSlot := l.mergeSort slotLe
def cslotLe (a b : CSlot) : Bool := !keyLess b.key a.key
def sortC (l : List CSlot) : List CSlot := l.mergeSort cslotLe
theorem sort_map (l : List CSlot) : (sortC l).map CSlot.p = sortP (l.map CSlot.p) := by
  unfold sortC sortP
  exact List.map_mergeSort (fun a _ b _ => rfl)
theorem sortC_perm (l : List CSlot) : (sortC l).Perm l := List.mergeSort_perm _ _
theorem cslotLe_trans (a b c : CSlot) (h1 : cslotLe a b = true) (h2 : cslotLe b c = true) : cslotLe a c = true := by
  unfold cslotLe at *
  simp at *
  cases h : keyLess c.key a.key
  · rfl
  · cases hab : keyLess a.key b.key
    · have e := keyLess_total hab h1
      rw [e] at h; rw [h2] at h; cases h
    · have := keyLess_trans h hab
      rw [h2] at this; cases this
theorem cslotLe_total (a b : CSlot) : (cslotLe a b || cslotLe b a) = true := by
  unfold cslotLe
  cases h : keyLess b.key a.key
  · simp
  · cases h2 : keyLess a.key b.key
    · simp
    · have := keyLess_trans h h2
      rw [keyLess_irrefl] at this; cases this
theorem sortC_sorted (l : List CSlot) (hn : l.Pairwise fun a b => a.key ≠ b.key) : KSorted (sortC l) := by
  unfold KSorted
  have h1 : (sortC l).Pairwise fun a b => cslotLe a b = true := List.pairwise_mergeSort cslotLe_trans cslotLe_total l
  have h2 : (sortC l).Pairwise fun a b => a.key ≠ b.key := (List.Perm.pairwise_iff (fun {a b} h => Ne.symm h) (sortC_perm l)).2 hn
  refine (h1.and h2).imp fun {a b} ⟨h, hne⟩ => ?_
  unfold cslotLe at h
  simp at h
  cases hab : keyLess a.key b.key
  · exact absurd (keyLess_total hab h) hne
  · rfl

def ordP (o : PObj) : List PSlot := if o.list then o.ss else sortP o.ss
/-- THE TEXT OF AN OBJECT; r levels are shown. -/
def textP (D : List PObj) : Nat → PId → ByteArray
  | 0, _ => ⟨#[35]⟩
  | r + 1, x => match D.find? (pobjIs x) with
    | some o => objText (textP D r) o.list (ordP o)
    | none => ⟨#[]⟩

/-- What the text's contract asks of a document. -/
structure TextOk (D : List PObj) : Prop where
  keys : ∀ o ∈ D, o.list = false → (o.ss.Pairwise fun a b => a.key ≠ b.key) ∧ ∀ s ∈ o.ss, s.key ≠ ⟨#[]⟩
  ksize : ∀ o ∈ D, ∀ s ∈ o.ss, s.key.size ≤ 1000
  nums : ∀ o ∈ D, ∀ s ∈ o.ss, ∀ h ∈ s.hs, intOk h.num
  objs : ∀ o ∈ D, ∀ s ∈ o.ss, ∀ h ∈ s.hs, h.obj = (0, 0) ∨ ∃ o' ∈ D, o'.id = h.obj
  size : ∀ r, r ≤ 4 → ∀ o ∈ D, (objBody (textP D r) o.list (ordP o)).size ≤ 1125899906842620

theorem key_pos {k : ByteArray} (h : k ≠ ⟨#[]⟩) : keyLess ⟨#[]⟩ k = true := by
  unfold keyLess
  show Op.bytesLess [] k.data.toList = true
  cases hk : k.data.toList with
  | nil => exact absurd (by apply ByteArray.ext; apply Array.toList_inj.1; rw [hk]) h
  | cons a l => rfl

theorem first_find {D : List PObj} {x : PId} {k : Nat} (h : firstI (pobjIs x) D = (k : Int)) : ∃ hk : k < D.length, D.find? (pobjIs x) = some D[k] := by
  unfold firstI at h
  split at h
  · rename_i i hi
    have e : i = k := by omega
    subst e
    obtain ⟨hk, h1, h2⟩ := List.findIdx?_eq_some_iff_getElem.1 hi
    refine ⟨hk, ?_⟩
    rw [List.find?_eq_some_iff_getElem]
    exact ⟨h1, i, hk, rfl, fun j hj => by simpa using h2 j hj⟩
  · omega

end Go.Proofs.YtnkpogjiiohapaaGreatDoor

/-! RefT: The contract of the reference's Text: the document's text, for every document that may be shown. -/
namespace Go.Proofs.YtnkpogjiiohapaaGreatDoor
open Go.RowKit

set_option maxRecDepth 1000000 in
set_option maxHeartbeats 800000 in
theorem text_deep (d : Nat) (x1 x2 : Int) (w : World) :
    Calls Tryz.prog 153 #[.pointer (some ⟨d, 0, none⟩), .agg #[.int .i64 x1, .int .i64 x2], .int .i64 5] w fun e w' => e = .returned (.string ⟨#[35]⟩) ∧ Below w.heap.size w w' := by
  go_enter Tryz.func153, Tryz.ntmps153
  go_wp2
  go_ret
  exact ⟨rfl, (Below.refl _ _).alloc (Nat.le_refl _) _⟩

theorem has_first {os : List CObj} {x : PId} (h : ∃ o ∈ os.map CObj.p, o.id = x) : ∃ k, ∃ _ : k < os.length, firstI (objIs x) os = (k : Int) := by
  obtain ⟨o, ho, e⟩ := h
  have hlt := firstI_lt (objIs x) os
  have hge := firstI_ge (objIs x) os
  by_cases hn : firstI (objIs x) os < 0
  · exfalso
    have e1 : firstI (objIs x) os = -1 := by omega
    unfold firstI at e1
    split at e1
    · omega
    · rename_i hnone
      rw [List.findIdx?_eq_none_iff] at hnone
      obtain ⟨c, hc, rfl⟩ := List.mem_map.1 ho
      have := hnone c hc
      unfold objIs at this
      rw [idEq_false] at this
      exact this (by have : c.id = x := e; rw [this])
  · obtain ⟨k, hk⟩ := Int.eq_ofNat_of_zero_le (a := firstI (objIs x) os) (by omega)
    exact ⟨k, by omega, hk⟩

theorem ord_of {o : CObj} (hk : o.list = false → (o.ss.Pairwise fun a b => a.key ≠ b.key) ∧ ∀ s ∈ o.ss, s.key ≠ ⟨#[]⟩) (hs : ∀ s ∈ o.ss, s.key.size ≤ 1000) :
    OrdOf o.list o.ss (if o.list then o.ss else sortC o.ss) := by
  cases h : o.list
  · rw [h] at hk
    exact ⟨sortC_perm _, fun h => (by cases h), fun _ => sortC_sorted _ (hk rfl).1, fun _ s hs' => key_pos ((hk rfl).2 s hs'), hs⟩
  · exact ⟨List.Perm.refl _, fun _ => rfl, fun h => (by cases h), fun h => (by cases h), hs⟩

theorem text_any (B t d : Nat) (vd : Value) (os : List CObj) (ht : t < 100000) (hok : TextOk (os.map CObj.p)) :
    ∀ (r : Nat), r ≤ 4 → ∀ (x : PId) (w : World), (∃ o ∈ os.map CObj.p, o.id = x) → isDoc B t w d vd os →
      Calls Tryz.prog 153 #[.pointer (some ⟨d, 0, none⟩), .agg #[.int .i64 x.1, .int .i64 x.2], .int .i64 ((5 - r : Nat) : Int)] w fun e w' => e = .returned (.string (textP (os.map CObj.p) r x)) ∧ Below w.heap.size w w' := by
  intro r
  induction r with
  | zero => intro _ x w _ _; exact text_deep d x.1 x.2 w
  | succ r ih =>
    intro hr x w hx hd
    obtain ⟨ko, hko, hfi⟩ := has_first hx
    have hmem : os[ko].p ∈ os.map CObj.p := List.mem_map_of_mem (List.getElem_mem _)
    have hslot : ∀ s ∈ os[ko].ss, s.p ∈ os[ko].p.ss := fun s hs => List.mem_map_of_mem hs
    have hord := ord_of (o := os[ko])
      (fun hl => ⟨by
        have := (hok.keys _ hmem hl).1
        have h2 : (os[ko].ss.map CSlot.p).Pairwise fun a b => a.key ≠ b.key := this
        rw [List.pairwise_map] at h2
        exact h2, fun s hs => (hok.keys _ hmem hl).2 s.p (hslot s hs)⟩)
      (fun s hs => hok.ksize _ hmem s.p (hslot s hs))
    have hmap : (if os[ko].list then os[ko].ss else sortC os[ko].ss).map CSlot.p = ordP os[ko].p := by
      unfold ordP
      show _ = if os[ko].list then os[ko].ss.map CSlot.p else sortP (os[ko].ss.map CSlot.p)
      split
      · rfl
      · exact sort_map _
    have hfind : (os.map CObj.p).find? (pobjIs x) = some os[ko].p := by
      obtain ⟨hk', h⟩ := first_find (D := os.map CObj.p) (x := x) (k := ko) (by rw [first_o]; exact hfi)
      rw [h, List.getElem_map]
    have key := text_obj B t d vd os (textP (os.map CObj.p) r) (fun y => ∃ o ∈ os.map CObj.p, o.id = y) (5 - (r + 1)) (by omega) ht
      (fun y W hy hW => by
        have := ih (by omega) y W hy hW
        rw [show ((5 - r : Nat) : Int) = ((5 - (r + 1) : Nat) : Int) + 1 by omega] at this
        exact this)
      x.1 x.2 ko hko hfi _ hord
      (fun s hs h hh hne => by
        rcases hok.objs _ hmem s.p (hslot s hs) h hh with e | e
        · rw [e] at hne; simp [idEq] at hne
        · exact e)
      (fun s hs h hh => hok.nums _ hmem s.p (hslot s hs) h hh)
      (by rw [hmap]; exact hok.size r (by omega) _ hmem)
      w hd
    refine key.mono fun e w' ⟨he, hb⟩ => ⟨?_, hb⟩
    rw [he, hmap]
    unfold textP
    rw [hfind]
    rfl

end Go.Proofs.YtnkpogjiiohapaaGreatDoor

/-! RefX: The contracts of the reference's Elements, Values and Show. -/
namespace Go.Proofs.YtnkpogjiiohapaaGreatDoor
open Go.RowKit

theorem doesAt_id (p : POp) (o : PObj) : (doesAt p o).id = o.id := by
  unfold doesAt; split <;> split <;> rfl
theorem ids_modify {D : List PObj} {f : PObj → PObj} (hf : ∀ o, (f o).id = o.id) (k : Nat) : (D.modify k f).map PObj.id = D.map PObj.id := by
  apply List.ext_getElem?
  intro j
  rw [List.getElem?_map, List.getElem?_map, List.getElem?_modify]
  cases D[j]? with
  | none => simp
  | some o => by_cases e : k = j <;> simp [e, hf]
theorem does_ids (D : List PObj) (p : POp) : ∃ l, (doesP D p).map PObj.id = D.map PObj.id ++ l := by
  unfold doesP
  split
  · exact ⟨[p.id], by simp⟩
  · split
    · exact ⟨[], by simp⟩
    · exact ⟨[], by rw [ids_modify (doesAt_id p)]; simp⟩
theorem root_in (S : List POp) : ∀ D : List PObj, (∃ o ∈ D, o.id = (0, 0)) → ∃ o ∈ S.foldl doesP D, o.id = (0, 0) := by
  induction S with
  | nil => intro D h; exact h
  | cons p S ih =>
    intro D ⟨o, ho, e⟩
    refine ih _ ?_
    obtain ⟨l, hl⟩ := does_ids D p
    have : (0, 0) ∈ (doesP D p).map PObj.id := by rw [hl]; exact List.mem_append_left _ (List.mem_map.2 ⟨o, ho, e⟩)
    obtain ⟨o', ho', e'⟩ := List.mem_map.1 this
    exact ⟨o', ho', e'⟩

def pseen (o : PObj) : List PId := (o.ss.filter fun s => decide (0 < s.hs.length)).map PSlot.id
theorem seen_p (l : List CSlot) : seenIds l = ((l.map CSlot.p).filter fun s => decide (0 < s.hs.length)).map PSlot.id := by
  unfold seenIds; rw [List.filter_map, List.map_map]; rfl
def elementsP (D : List PObj) (x : PId) : Except Int (List PId) :=
  match objP D x true with
  | .error n => .error n
  | .ok k => .ok (match D[k]? with | some o => pseen o | none => [])

set_option maxRecDepth 1000000 in
set_option maxHeartbeats 800000 in
theorem elements_any {w : World} {r N : Nat} {vO vC vL : Value} {vops : Nat → Value} {cops : Nat → List COp} {cp : Nat → Nat → Value} {has : Nat → Nat → Nat} {c : Nat} {S : List POp} (h : Shown w r N vO vC vL vops cops cp has c S) (x1 x2 : Int) :
    Calls Tryz.prog 104 #[.pointer (some ⟨r, 0, none⟩), .int .i64 c, .agg #[.int .i64 x1, .int .i64 x2]] w fun e w' =>
      Below w.heap.size w w' ∧ ((∃ n, (n = 3 ∨ n = 4) ∧ elementsP (S.foldl doesP rootP) (x1, x2) = .error n ∧ e = .returned (.tuple #[.slice none 0 0, .int .i64 n])) ∨
      (∃ v l, elementsP (S.foldl doesP rootP) (x1, x2) = .ok l ∧ l.length ≤ 240 ∧ e = .returned (.tuple #[v, .int .i64 0]) ∧ ownIds w.heap.size w' v l)) := by
  have HH := hid h; clear h
  generalize hDD : S.foldl doesP rootP = DD
  have HDD := hid hDD; clear hDD
  go_enter Tryz.func104, Tryz.ntmps104
  go_wp2_with fail
  refine (object_p (HH.out.keep ((Below.refl _ w).alloc (Nat.le_refl _) _)) x1 x2 true).mono ?_
  rw [HDD.out]
  have HB0 := hid ((Below.refl w.heap.size w).alloc (Nat.le_refl _) (.cells #[.int .i64 x1, .int .i64 x2] 36))
  rintro e w1 (⟨n, h1, hn, rfl, hb1⟩ | ⟨k, d, go, cap, os, h1, rfl, hat⟩)
  · have HX := hid (And.intro h1 hb1); clear h1 hb1
    have HN := hid hn
    have hn0 : ¬ n = 0 := by omega
    clear hn
    go_wp2
    go_ret2
    exact ⟨HB0.out.trans (HX.out.2.mono HB0.out.size), .inl ⟨n, HN.out, by unfold elementsP; rw [HX.out.1], rfl⟩⟩
  · have H1 := hid h1; clear h1
    have HAT := hid hat; clear hat
    have HSL := hid HAT.out.slots
    have HCE := hid HAT.out.cell
    have hle := HAT.out.len
    have HLE := hid hle; clear hle
    have HSS := hid HAT.out.ss
    have hkp := HAT.out.lt
    generalize os[k] = ob at *
    have HOK := hid (show elementsP DD (x1, x2) = .ok (seenIds ob.ss) by
        unfold elementsP; rw [H1.out]
        have := HSS.out
        cases hd : DD[k]? with
        | none => rw [hd] at this; cases this
        | some o =>
          rw [hd] at this; simp at this
          simp only [hd, pseen]
          rw [this, seen_p])
    go_wp2_with fail
    refine (seen_any _ go (k * 4) _ ob.ss _ HCE.out HSL.out (by have := HLE.out.1; omega)).mono ?_
    rintro e w2 ⟨u, rfl, hu, hb2⟩
    have HU := hid hu; clear hu
    have HB2 := hid hb2; clear hb2
    go_wp2
    go_ret2
    refine ⟨HB0.out.trans ((HAT.out.below.trans (HB2.out.mono HAT.out.below.size)).mono HB0.out.size), .inr ⟨u, _, HOK.out, ?_, rfl, owns_mono HU.out ?_⟩⟩
    · have := seen_len ob.ss ob.ss.length
      rw [List.take_of_length_le (Nat.le_refl _)] at this
      have := HLE.out.1
      omega
    · have := HAT.out.below.size; have := HB0.out.size; omega

set_option maxRecDepth 1000000 in
set_option maxHeartbeats 400000 in
theorem elements_nocopy {w : World} {r N : Nat} {vO vC vL : Value} {vops : Nat → Value} {cops : Nat → List COp} {cp : Nat → Nat → Value} {has : Nat → Nat → Nat} (h : isRoom w r N vO vC vL vops cops cp has) (c x1 x2 : Int) (hc : ¬ (0 ≤ c ∧ c < N)) :
    Calls Tryz.prog 104 #[.pointer (some ⟨r, 0, none⟩), .int .i64 c, .agg #[.int .i64 x1, .int .i64 x2]] w fun e w' =>
      e = .returned (.tuple #[.slice none 0 0, .int .i64 2]) ∧ Below w.heap.size w w' := by
  have HH := hid h; clear h
  have HC := hid hc; clear hc
  have HB0 := hid ((Below.refl w.heap.size w).alloc (Nat.le_refl _) (.cells #[.int .i64 x1, .int .i64 x2] 36))
  go_enter Tryz.func104, Tryz.ntmps104
  go_wp2_with fail
  refine (object_nocopy (HH.out.keep HB0.out) c x1 x2 true HC.out).mono ?_
  rintro e w1 ⟨rfl, hb1⟩
  have HB1 := hid hb1; clear hb1
  go_wp2
  go_ret2
  exact ⟨rfl, HB0.out.trans (HB1.out.mono HB0.out.size)⟩

set_option maxRecDepth 1000000 in
set_option maxHeartbeats 400000 in
theorem keyed_nocopy {w : World} {r N : Nat} {vO vC vL : Value} {vops : Nat → Value} {cops : Nat → List COp} {cp : Nat → Nat → Value} {has : Nat → Nat → Nat} (h : isRoom w r N vO vC vL vops cops cp has) (c x1 x2 : Int) (key : ByteArray) (hc : ¬ (0 ≤ c ∧ c < N)) :
    Calls Tryz.prog 143 #[.pointer (some ⟨r, 0, none⟩), .int .i64 c, .agg #[.int .i64 x1, .int .i64 x2], .string key] w fun e w' =>
      e = .returned (.tuple #[.slice none 0 0, .int .i64 2]) ∧ Below w.heap.size w w' := by
  have HH := hid h; clear h
  have HC := hid hc; clear hc
  have HB0 := hid ((Below.refl w.heap.size w).alloc (Nat.le_refl _) (.cells #[.int .i64 x1, .int .i64 x2] 36))
  go_enter Tryz.func143, Tryz.ntmps143
  go_wp2_with fail
  refine (object_nocopy (HH.out.keep HB0.out) c x1 x2 false HC.out).mono ?_
  rintro e w1 ⟨rfl, hb1⟩
  have HB1 := hid hb1; clear hb1
  go_wp2
  go_ret2
  exact ⟨rfl, HB0.out.trans (HB1.out.mono HB0.out.size)⟩

set_option maxRecDepth 1000000 in
set_option maxHeartbeats 400000 in
theorem show_nocopy {w : World} {r N : Nat} {vO vC vL : Value} {vops : Nat → Value} {cops : Nat → List COp} {cp : Nat → Nat → Value} {has : Nat → Nat → Nat} (h : isRoom w r N vO vC vL vops cops cp has) (c : Int) (hc : ¬ (0 ≤ c ∧ c < N)) :
    Calls Tryz.prog 103 #[.pointer (some ⟨r, 0, none⟩), .int .i64 c] w fun e w' => e = .returned (.tuple #[.string ⟨#[]⟩, .int .i64 2]) ∧ Below w.heap.size w w' := by
  have HH := hid h; clear h
  have HD := hid (decide_eq_false hc); clear hc
  go_enter Tryz.func103, Tryz.ntmps103
  go_wp2_with fail
  refine (is_any HH.out c).mono ?_
  rintro e w1 ⟨he, hw⟩
  rw [HD.out] at he
  subst he; subst hw
  go_wp2
  go_ret2
  exact ⟨rfl, Below.refl _ _⟩

set_option maxRecDepth 1000000 in
set_option maxHeartbeats 400000 in
theorem show_any {w : World} {r N : Nat} {vO vC vL : Value} {vops : Nat → Value} {cops : Nat → List COp} {cp : Nat → Nat → Value} {has : Nat → Nat → Nat} {c : Nat} {S : List POp} (h : Shown w r N vO vC vL vops cops cp has c S) (hok : TextOk (S.foldl doesP rootP)) :
    Calls Tryz.prog 103 #[.pointer (some ⟨r, 0, none⟩), .int .i64 c] w fun e w' => e = .returned (.tuple #[.string (textP (S.foldl doesP rootP) 4 (0, 0)), .int .i64 0]) ∧ Below w.heap.size w w' := by
  have HD := hid (decide_eq_true (show 0 ≤ (c : Int) ∧ (c : Int) < N by have := h.hc; omega))
  have HH := hid h; clear h
  have HOK := hid hok; clear hok
  have HR := hid (root_in S rootP ⟨_, List.mem_singleton.2 rfl, rfl⟩)
  generalize hTT : textP (S.foldl doesP rootP) 4 (0, 0) = TT
  have HTT := hid hTT; clear hTT
  go_enter Tryz.func103, Tryz.ntmps103
  go_wp2_with fail
  refine (is_any HH.out.room c).mono ?_
  rintro e w1 ⟨he, hw⟩
  rw [HD.out] at he
  subst he; subst hw
  go_wp2_with fail
  refine (doc_any HH.out).mono ?_
  rintro e w1 ⟨d, vd, os, rfl, hdoc, hos, hb1⟩
  have HDOC := hid hdoc; clear hdoc
  have HB1 := hid hb1; clear hb1
  have HOS := hid hos; clear hos
  have HT := hid (text_any _ 240 d vd os (by omega) (by rw [HOS.out]; exact HOK.out) 4 (by omega) (0, 0) w1 (by rw [HOS.out]; exact HR.out) HDOC.out)
  go_wp2_with fail
  refine HT.out.mono ?_
  rintro e w2 ⟨rfl, hb2⟩
  have HB2 := hid hb2; clear hb2
  rw [HOS.out, HTT.out]
  go_wp2
  go_ret2
  exact ⟨rfl, HB1.out.trans (HB2.out.mono HB1.out.size)⟩

end Go.Proofs.YtnkpogjiiohapaaGreatDoor

/-! RefY: The contracts of the reference's Values and behind. -/
namespace Go.Proofs.YtnkpogjiiohapaaGreatDoor
open Go.RowKit

abbrev PVal := Int × PId
def valC (x : PVal) : List Value := [.int .i64 x.1, .int .i64 x.2.1, .int .i64 x.2.2]
def valOf (h : PHeld) : PVal := (h.num, h.obj)
def ownVals (B : Nat) (w : World) (v : Value) (l : List PVal) : Prop := w.ownsRow B 57 3 v l.length (l.flatMap valC)
theorem ownVals.alloc {B : Nat} {w : World} {v : Value} {l : List PVal} (h : ownVals B w v l) (o : Obj) : ownVals B (w.alloc o) v l := World.ownsRow.alloc h o
theorem ownVals.below {B : Nat} {w0 w w' : World} {v : Value} {l : List PVal} (h : ownVals B w v l) (hb : Below B w0 w) (hB : B ≤ w.heap.size) (hg : w.grownBy w' v.ownBlock) : Below B w0 w' :=
  hb.grown hg hB fun k hk => (World.ownsRow.lt h k hk).1
theorem wf_val {x : PVal} : ∀ u ∈ valC x, u.oneCell' = true := by
  intro u hu; simp [valC] at hu; rcases hu with rfl | rfl | rfl <;> rfl
theorem cells_val {w : World} {g : Nat} {x : PVal} (h0 : w.cell? ⟨g, 0, none⟩ = some (.int .i64 x.1)) (h1 : w.cell? ⟨g, 1, none⟩ = some (.int .i64 x.2.1)) (h2 : w.cell? ⟨g, 2, none⟩ = some (.int .i64 x.2.2)) :
    ∀ j u, (valC x)[j]? = some u → w.cell? ⟨g, j, none⟩ = some u := by
  intro j u hu
  match j with
  | 0 => simp [valC] at hu; rw [← hu]; exact h0
  | 1 => simp [valC] at hu; rw [← hu]; exact h1
  | 2 => simp [valC] at hu; rw [← hu]; exact h2
  | j + 3 => simp [valC] at hu
theorem app_val {ops : Array Oper} {rest : List Oper} {o : Oper} {a : Act} {Q : Exit → Act → World → Prop} {w : World} (hgd : o.guard = none) (s x : Operand)
    (ho : o.op = .call { callee := .builtin .append, args := #[s, x], argTypes := #[53, 53] }) (B : Nat) (v : Value) (l : List PVal) (hs : a.eval s = v)
    (hown : ownVals B w v l) (g c : Nat) (y : PVal) (hx : a.eval x = .slice (some ⟨g, 0, none⟩) 1 c) (hnew : ∀ j u, (valC y)[j]? = some u → w.cell? ⟨g, j, none⟩ = some u) (hlen : l.length < 1000000000) (hB : B ≤ w.heap.size)
    (h : ∀ v' w', ownVals B w' v' (l ++ [y]) → w.grownBy w' v.ownBlock → wpList Tryz.prog ops Q rest (a.put o.dst v') w') : wpList Tryz.prog ops Q (o :: rest) a w :=
  app_one valC 3 24 53 57 (.agg #[.int .i64 0, .int .i64 0, .int .i64 0]) (by kernel_rfl) Tryz.underlying53 rfl (by omega) (fun _ => rfl) hgd s x ho B v l hs hown g c y hx
    hnew wf_val (by omega) (by unfold maxLen; omega) hB (fun v' w' h2 h3 => h v' w' (by unfold ownVals; simpa using h2) h3)

def valuesAtP (D : List PObj) (x : PId) (key : ByteArray) : Except Int (List PVal) :=
  match keyedP D x key with
  | .error n => .error n
  | .ok hs => .ok (hs.map valOf)

set_option maxRecDepth 1000000 in
set_option maxHeartbeats 800000 in
theorem roomValues_any {w : World} {r N : Nat} {vO vC vL : Value} {vops : Nat → Value} {cops : Nat → List COp} {cp : Nat → Nat → Value} {has : Nat → Nat → Nat} {c : Nat} {S : List POp} (h : Shown w r N vO vC vL vops cops cp has c S) (x1 x2 : Int) (key : ByteArray) (hks : key.size ≤ maxLen) :
    Calls Tryz.prog 107 #[.pointer (some ⟨r, 0, none⟩), .int .i64 c, .agg #[.int .i64 x1, .int .i64 x2], .string key] w fun e w' =>
      Below w.heap.size w w' ∧ ((∃ n, (n = 3 ∨ n = 4 ∨ n = 5) ∧ valuesAtP (S.foldl doesP rootP) (x1, x2) key = .error n ∧ e = .returned (.tuple #[.slice none 0 0, .int .i64 n])) ∨
      (∃ v l, valuesAtP (S.foldl doesP rootP) (x1, x2) key = .ok l ∧ l.length ≤ 240 ∧ e = .returned (.tuple #[v, .int .i64 0]) ∧ ownVals w.heap.size w' v l)) := by
  have HH := hid h; clear h
  have HB0 := hid ((Below.refl w.heap.size w).alloc (Nat.le_refl _) (.cells #[.int .i64 x1, .int .i64 x2] 36))
  have HKY := hid (keyed_any (HH.out.keep HB0.out) x1 x2 key hks)
  clear hks
  generalize hDD : S.foldl doesP rootP = DD
  rw [hDD] at HKY
  clear hDD
  go_enter Tryz.func107, Tryz.ntmps107
  go_wp2_with fail
  refine HKY.out.mono ?_
  rintro e w1 ⟨hb1, ⟨n, hn, h1, rfl⟩ | ⟨v, hs, h1, hl, rfl, hh⟩⟩
  · have HX := hid (And.intro h1 hb1); clear h1 hb1
    have HN := hid hn
    have hn0 : ¬ n = 0 := by omega
    clear hn
    go_wp2
    go_ret2
    exact ⟨HB0.out.trans (HX.out.2.mono HB0.out.size), .inl ⟨n, HN.out, by unfold valuesAtP; rw [HX.out.1], rfl⟩⟩
  · have H1 := hid h1; clear h1
    have HB1 := hid (HB0.out.trans (hb1.mono HB0.out.size)); clear hb1
    obtain ⟨a, cap, rfl, hlc, hcm, hform⟩ := owns_form hh
    unfold maxLen at hcm
    have HF := hid hform; clear hform
    have HHD := hid hh; clear hh
    have hz := HB1.out.size
    go_wp2
    go_loopw [12, 13] (fun u i wr => ∃ k : Nat, k ≤ hs.length ∧ i = .int .i64 k ∧ ownVals w1.heap.size wr u ((hs.take k).map valOf) ∧ Below w1.heap.size w1 wr) (fun _ i _ => hs.length - (intOf i).toNat)
    case atStart => exact ⟨0, Nat.zero_le _, rfl, World.ownsRow_nil _ _ _ _, Below.refl _ _⟩
    case round =>
      obtain ⟨k, hk, rfl, hown, hbel⟩ := hrel
      by_cases hlt : k < hs.length
      · obtain ⟨g, rfl⟩ := HF.out k hlt
        obtain ⟨d0, d1, d2, d3, d4⟩ := isHelds.cells HHD.out rfl k hlt
        replace d2 := keep hbel d2
        replace d3 := keep hbel d3
        replace d4 := keep hbel d4
        clear d0 d1
        have HO := hid hown; clear hown
        go_wp2_with (at_builtin; go_must (refine app_val rfl (.tmp 31) (.tmp 37) rfl w1.heap.size _ ((hs.take k).map valOf) rfl ?h1 wr.heap.size 1 (valOf hs[k]) rfl ?h2 ?h4 ?h5 ?_; (case h1 => exact HO.out.alloc _); (case h2 => exact cells_val (by simp [go_sem, valOf]) (by simp [go_sem, valOf]) (by simp [go_sem, valOf])); (case h4 => simp; omega); (case h5 => have := hbel.size; simp; omega); intro v' w2 hown2 hg2; have HG := hid hg2; clear hg2; have HN := hid hown2; clear hown2))
        go_roundw
        case rel => exact ⟨k + 1, by omega, by go_num, by rw [take_map_succ _ hlt]; exact HN.out, ownVals.below (HO.out.alloc _) (hbel.alloc hbel.size _) (by have := hbel.size; simp; omega) HG.out⟩
        case measure => simp [intOf]; omega
      · go_wp2
        go_ret2
        rw [List.take_of_length_le (by omega)] at hown
        exact ⟨HB1.out.trans (hbel.mono hz), .inr ⟨_, _, by unfold valuesAtP; rw [H1.out], by simpa using hl, rfl, owns_mono hown hz⟩⟩

set_option maxRecDepth 1000000 in
set_option maxHeartbeats 400000 in
theorem values_nocopy {w : World} {r N : Nat} {vO vC vL : Value} {vops : Nat → Value} {cops : Nat → List COp} {cp : Nat → Nat → Value} {has : Nat → Nat → Nat} (h : isRoom w r N vO vC vL vops cops cp has) (c x1 x2 : Int) (key : ByteArray) (hc : ¬ (0 ≤ c ∧ c < N)) :
    Calls Tryz.prog 107 #[.pointer (some ⟨r, 0, none⟩), .int .i64 c, .agg #[.int .i64 x1, .int .i64 x2], .string key] w fun e w' =>
      e = .returned (.tuple #[.slice none 0 0, .int .i64 2]) ∧ Below w.heap.size w w' := by
  have HB0 := hid ((Below.refl w.heap.size w).alloc (Nat.le_refl _) (.cells #[.int .i64 x1, .int .i64 x2] 36))
  have HKY := hid (keyed_nocopy (h.keep HB0.out) c x1 x2 key hc)
  clear h hc
  go_enter Tryz.func107, Tryz.ntmps107
  go_wp2_with fail
  refine HKY.out.mono ?_
  rintro e w1 ⟨rfl, hb1⟩
  have HB1 := hid hb1; clear hb1
  go_wp2
  go_ret2
  exact ⟨rfl, HB0.out.trans (HB1.out.mono HB0.out.size)⟩

/-- The element ahead of an index. -/
def behindP (l : List PId) (i : Int) : Option PId := if i < 0 ∨ i > l.length then none else if i = 0 then some (0, 0) else l[(i - 1).toNat]?

set_option maxRecDepth 1000000 in
set_option maxHeartbeats 400000 in
theorem behind_any (v : Value) (l : List PId) (i : Int) (w : World) (h : isIds w v l) :
    Calls Tryz.prog 148 #[v, .int .i64 i] w fun e w' => Below w.heap.size w w' ∧
      ((behindP l i = none ∧ e = .returned (.tuple #[.agg #[.int .i64 0, .int .i64 0], .bool false])) ∨ ∃ x, behindP l i = some x ∧ e = .returned (.tuple #[.agg #[.int .i64 x.1, .int .i64 x.2], .bool true])) := by
  obtain ⟨a, cap, rfl, hlc, hcm, hform⟩ := owns_form h
  unfold maxLen at hcm
  by_cases h0 : i < 0
  · have HX := hid (show behindP l i = none by unfold behindP; rw [if_pos (.inl h0)])
    clear h hform
    go_enter Tryz.func148, Tryz.ntmps148
    go_wp2
    exact bodyPost_ret (v := .tuple #[.agg #[.int .i64 0, .int .i64 0], .bool false]) (by simp [results, Tryz.results148, go_sem]) rfl ⟨(Below.refl _ _).alloc (Nat.le_refl _) _, .inl ⟨HX.out, rfl⟩⟩
  · by_cases h1 : (l.length : Int) < i
    · have HX := hid (show behindP l i = none by unfold behindP; rw [if_pos (.inr h1)])
      clear h hform
      go_enter Tryz.func148, Tryz.ntmps148
      go_wp2
      exact bodyPost_ret (v := .tuple #[.agg #[.int .i64 0, .int .i64 0], .bool false]) (by simp [results, Tryz.results148, go_sem]) rfl ⟨(Below.refl _ _).alloc (Nat.le_refl _) _, .inl ⟨HX.out, rfl⟩⟩
    · by_cases h2 : i = 0
      · have HX := hid (show behindP l i = some (0, 0) by unfold behindP; rw [if_neg (by omega), if_pos h2])
        subst h2
        clear h hform h0 h1
        go_enter Tryz.func148, Tryz.ntmps148
        go_wp2
        exact bodyPost_ret (v := .tuple #[.agg #[.int .i64 0, .int .i64 0], .bool true]) (by simp [results, Tryz.results148, go_sem]) rfl ⟨(Below.refl _ _).alloc (Nat.le_refl _) _, .inr ⟨(0, 0), HX.out, rfl⟩⟩
      · obtain ⟨k, rfl⟩ : ∃ k : Nat, i = (k : Int) + 1 := ⟨(i - 1).toNat, by omega⟩
        have hkl : k < l.length := by omega
        obtain ⟨g, rfl⟩ := hform k hkl
        obtain ⟨c0, c1⟩ := isIds.cells h rfl k hkl
        have hgl : g < w.heap.size := World.block_lt_of_cell? w _ c0
        have HX := hid (show behindP l ((k : Int) + 1) = some l[k] by unfold behindP; rw [if_neg (by omega), if_neg (by omega)]; simp [hkl])
        clear h hform h2
        go_enter Tryz.func148, Tryz.ntmps148
        go_wp2
        exact bodyPost_ret (v := .tuple #[.agg #[.int .i64 l[k].1, .int .i64 l[k].2], .bool true]) (by simp [results, Tryz.results148, go_sem]) rfl ⟨by go_grown, .inr ⟨l[k].1, l[k].2, HX.out, rfl⟩⟩

end Go.Proofs.YtnkpogjiiohapaaGreatDoor

/-! RefZ: The reference's add: one operation more of a copy. What it leaves of the room; its walk up to the append. -/
namespace Go.Proofs.YtnkpogjiiohapaaGreatDoor
open Go.RowKit

/-- The rows of the room that are written lie apart. -/
structure Apart (N : Nat) (vops : Nat → Value) (cp : Nat → Nat → Value) : Prop where
  ops : ∀ i j, i < N → j < N → i ≠ j → (vops i).ownBlock = none ∨ (vops i).ownBlock ≠ (vops j).ownBlock
  has : ∀ c c', c < N → c' < N → c ≠ c' → (cp c 0).ownBlock ≠ (cp c' 0).ownBlock

def upd {α : Type} (f : Nat → α) (c : Nat) (x : α) : Nat → α := fun i => if i = c then x else f i
theorem upd_same {α : Type} (f : Nat → α) (c : Nat) (x : α) : upd f c x c = x := by simp [upd]
theorem upd_ne {α : Type} (f : Nat → α) {c i : Nat} (x : α) (h : i ≠ c) : upd f c x i = f i := by simp [upd, h]
theorem range_upd {α β : Type} (f : Nat → α) (g : α → β) (c : Nat) (x : α) (N : Nat) : (List.range N).map (fun i => g (upd f c x i)) = ((List.range N).map fun i => g (f i)).set c (g x) := by
  apply List.ext_getElem?
  intro j
  rw [List.getElem?_set]
  by_cases hc : c = j
  · subst hc
    by_cases hn : c < N <;> simp [hn, upd]
  · by_cases hn : j < N
    · simp [hn, hc, upd, Ne.symm hc]
    · simp [hn, hc]

/-- ONE OPERATION MORE: from what the blocks hold to the room. -/
theorem isRoom.add {w W : World} {r N : Nat} {vO vC vL : Value} {vops : Nat → Value} {cops : Nat → List COp} {cp : Nat → Nat → Value} {has : Nat → Nat → Nat} (h : isRoom w r N vO vC vL vops cops cp has) (ha : Apart N vops cp) {c : Nat} (hc : c < N)
    {gO gH : Nat} (hgO : vO.ownBlock = some gO) (hgH : (cp c 0).ownBlock = some gH) {v' : Value} {o : COp}
    (hO : W.ownsRow 0 255 1 vO N (((List.range N).map vops).set c v')) (hH : W.ownsRow 0 3 1 (cp c 0) N (((List.range N).map fun i => Value.int .i64 (has c i)).set c (.int .i64 ((has c c : Int) + 1))))
    (hv : W.ownsRow 0 233 15 v' ((cops c).length + 1) ((cops c ++ [o]).flatMap opC)) (ho : isIds W o.vold o.p.old) (hids : ∀ (g : Nat) (cur : Array Value), w.heap[g]? = some (.cells cur 36 (0, 0)) → W.heap[g]? = w.heap[g]?)
    (hoth : ∀ k, k < w.heap.size → k ≠ gO → k ≠ gH → some k ≠ (vops c).ownBlock → W.heap[k]? = w.heap[k]?) (hnew : newOr w (vops c) v') (hfull : (cops c).length < 60) (hall : has c c = (cops c).length) :
    isRoom W r N vO vC vL (upd vops c v') (upd cops c (cops c ++ [o])) cp (fun d i => if d = c ∧ i = c then has c c + 1 else has d i) ∧ Apart N (upd vops c v') cp := by
  have hrl : r < w.heap.size := (Array.getElem?_eq_some_iff.1 h.hr).1
  obtain ⟨cO, hcO⟩ := own_type h.hO hgO
  obtain ⟨cH, hcH⟩ := own_type (h.hH c hc) hgH
  have hkeep : ∀ (k : Nat) (cs : Array Value) (e : TypeId), w.heap[k]? = some (.cells cs e (0, 0)) → e ≠ 255 → e ≠ 3 → e ≠ 233 → W.heap[k]? = w.heap[k]? := by
    intro k cs e hk h1 h2 h3
    refine hoth k (Array.getElem?_eq_some_iff.1 hk).1 ?_ ?_ ?_
    · intro e'; subst e'; exact h1 (cells_type hk hcO)
    · intro e'; subst e'; exact h2 (cells_type hk hcH)
    · intro e'; obtain ⟨c', hc'⟩ := own_type (h.hops c hc).1 e'.symm; exact h3 (cells_type hk hc')
  have hidsk : ∀ {u : Value} {l : List PId}, isIds w u l → isIds W u l := by
    intro u l hu
    refine ⟨hu.1, ?_⟩
    rcases hu.2 with hn | ⟨g, cap, cur, e1, hb, hg, rest⟩
    · exact .inl hn
    · exact .inr ⟨g, cap, cur, e1, hb, by rw [hids g cur hg]; exact hg, rest⟩
  have hrow : ∀ {e : TypeId} {size : Nat} {u : Value} {n : Nat} {xs : List Value}, w.ownsRow 0 e size u n xs → (∀ g, u.ownBlock = some g → W.heap[g]? = w.heap[g]?) → W.ownsRow 0 e size u n xs := by
    intro e size u n xs hu hg
    refine ⟨hu.1, ?_⟩
    rcases hu.2 with hn | ⟨g, cap, cur, rfl, hb, hgg, rest⟩
    · exact .inl hn
    · exact .inr ⟨g, cap, cur, rfl, hb, by rw [hg g rfl]; exact hgg, rest⟩
  refine ⟨⟨?_, h.hN, ?_, ?_, ?_, ?_, ?_, ?_⟩, ?_⟩
  · rw [hkeep r _ _ h.hr (by decide) (by decide) (by decide)]; exact h.hr
  · have := range_upd vops id c v' N
    simp only [id] at this
    rw [show (List.range N).map (upd vops c v') = (List.range N).map (fun i => upd vops c v' i) from rfl, this]; exact hO
  · intro i hi
    by_cases e : i = c
    · subst e
      rw [upd_same, upd_same]
      refine ⟨by rw [List.length_append]; exact hv, fun o' ho' => ?_⟩
      rcases List.mem_append.1 ho' with h1 | h1
      · exact hidsk ((h.hops i hi).2 o' h1)
      · simp at h1; subst h1; exact ho
    · rw [upd_ne _ _ e, upd_ne _ _ e]
      refine ⟨hrow (h.hops i hi).1 (fun g hg => ?_), fun o' ho' => hidsk ((h.hops i hi).2 o' ho')⟩
      obtain ⟨cs, hcs⟩ := own_type (h.hops i hi).1 hg
      refine hoth g (Array.getElem?_eq_some_iff.1 hcs).1 ?_ ?_ ?_
      · intro e'; subst e'; exact absurd (cells_type hcs hcO) (by decide)
      · intro e'; subst e'; exact absurd (cells_type hcs hcH) (by decide)
      · intro e'
        rcases ha.ops i c hi hc e with hx | hx
        · rw [hx] at hg; cases hg
        · exact hx (by rw [hg, e'])
  · exact hrow h.hC (fun g hg => by obtain ⟨cs, hcs⟩ := own_type h.hC hg; exact hkeep g cs _ hcs (by decide) (by decide) (by decide))
  · intro d hd
    by_cases e : d = c
    · subst e
      have e2 : (List.range N).map (fun i => Value.int .i64 ((if d = d ∧ i = d then has d d + 1 else has d i : Nat) : Int)) = ((List.range N).map fun i => Value.int .i64 (has d i)).set d (.int .i64 ((has d d : Int) + 1)) := by
        have := range_upd (fun i => has d i) (fun n => Value.int .i64 (n : Int)) d (has d d + 1) N
        rw [show ((has d d : Int) + 1) = ((has d d + 1 : Nat) : Int) by omega, ← this]
        apply List.map_congr_left
        intro i _
        simp [upd]
      rw [e2]; exact hH
    · have e2 : (List.range N).map (fun i => Value.int .i64 ((if d = c ∧ i = c then has c c + 1 else has d i : Nat) : Int)) = (List.range N).map fun i => Value.int .i64 (has d i) := by
        apply List.map_congr_left
        intro i _
        simp [e]
      rw [e2]
      refine hrow (h.hH d hd) (fun g hg => ?_)
      obtain ⟨cs, hcs⟩ := own_type (h.hH d hd) hg
      refine hoth g (Array.getElem?_eq_some_iff.1 hcs).1 ?_ ?_ ?_
      · intro e'; subst e'; exact absurd (cells_type hcs hcO) (by decide)
      · intro e'; subst e'; exact ha.has d c hd hc e (by rw [hg, hgH])
      · intro e'; obtain ⟨c', hc'⟩ := own_type (h.hops c hc).1 e'.symm; exact absurd (cells_type hcs hc') (by decide)
  · intro d i hd hi
    by_cases e : i = c
    · subst e
      rw [upd_same, List.length_append]
      have := h.hle d i hd hi
      split
      · simp; omega
      · simp; omega
    · rw [upd_ne _ _ e]
      rw [if_neg (by intro hx; exact e hx.2)]
      exact h.hle d i hd hi
  · intro i hi
    by_cases e : i = c
    · subst e; rw [upd_same, List.length_append]; simp; omega
    · rw [upd_ne _ _ e]; exact h.hsz i hi
  · refine ⟨fun i j hi hj hij => ?_, ha.has⟩
    have hlt : ∀ i, i < N → ∀ g, (vops i).ownBlock = some g → g < w.heap.size := fun i hi g hg => (World.ownsRow.lt (h.hops i hi).1 g hg).2
    by_cases ei : i = c
    · subst ei
      rw [upd_same, upd_ne _ _ (Ne.symm hij)]
      rcases hnew with hn | hn
      · rw [hn]; exact ha.ops i j hi hj hij
      · cases hb : v'.ownBlock with
        | none => exact .inl rfl
        | some g => right; intro e; have := hlt j hj g e.symm; have := hn g hb; omega
    · by_cases ej : j = c
      · subst ej
        rw [upd_same, upd_ne _ _ ei]
        rcases hnew with hn | hn
        · rw [hn]; exact ha.ops i j hi hj hij
        · cases hb : (vops i).ownBlock with
          | none => exact .inl rfl
          | some g => right; intro e; have := hlt i hi g hb; have := hn g e.symm; omega
      · rw [upd_ne _ _ ei, upd_ne _ _ ej]; exact ha.ops i j hi hj hij

/-- The greatest counter. -/
def maxC (l : List COp) : Int := l.foldl (fun m o => if m < o.p.id.1 then o.p.id.1 else m) 0
theorem maxC_succ {l : List COp} {k : Nat} (h : k < l.length) : maxC (l.take (k + 1)) = if maxC (l.take k) < l[k].p.id.1 then l[k].p.id.1 else maxC (l.take k) := by
  unfold maxC; rw [List.take_succ_eq_append_getElem h, List.foldl_append]; rfl
theorem maxC_bd (l : List COp) (h : ∀ o ∈ l, o.p.id.1 ≤ 1000000) : ∀ k, k ≤ l.length → 0 ≤ maxC (l.take k) ∧ maxC (l.take k) ≤ 1000000
  | 0, _ => by simp [maxC]
  | k + 1, hk => by
    have := maxC_bd l h k (by omega)
    have := h l[k] (List.getElem_mem _)
    rw [maxC_succ (by omega)]
    split <;> omega

end Go.Proofs.YtnkpogjiiohapaaGreatDoor
