/- Our own text (PTextB, PTextC, PTextD, PTextE, PLawB, PLawC). -/
import Derived.Deep.RegionLaw
import Derived.Test.YtnkpogjiiohapaaGreatDoorP11
set_option linter.unusedSimpArgs false
set_option linter.unusedVariables false

/-! PTextB: The program's text: a value, the values of a place. -/
namespace Go.Proofs.YtnkpogjiiohapaaGreatDoor
open Go.RowKit

/-- A document whose text is to be told. -/
structure Txt (w : World) (d bo be : Nat) (D : QDoc) (R : List PObj) (t : Int) (n : Nat) : Prop where
  q : isQ w d bo be D.1 D.2
  ag : Agree R D
  ok : RefOk R t n
  nd : QNd D
  pow : Pow w
  n60 : n ≤ 60
  kl : ∀ p ∈ D.1, p.2.ks.length ≤ n
theorem Txt.keep {w w' : World} {d bo be : Nat} {D : QDoc} {R : List PObj} {t : Int} {n : Nat} (h : Txt w d bo be D R t n) (hb : Below w.heap.size w w') : Txt w' d bo be D R t n := ⟨h.q.keep hb, h.ag, h.ok, h.nd, h.pow.keep hb, h.n60, h.kl⟩
/-- What objectText answers with r levels left. -/
def ObjTx (w : World) (d : Nat) (R : List PObj) (r : Nat) : Prop := ∀ W, Below w.heap.size w W → ∀ (x : PId) (o : PObj), objOf R x = some o →
  Calls Tryz.prog 88 #[.pointer (some ⟨d, 0, none⟩), .agg #[.int .i64 x.1, .int .i64 x.2], .int .i64 (5 - (r : Int))] W fun e w' => e = .returned (.string (textP R r x)) ∧ Below W.heap.size W w'
theorem ObjTx.keep {w w' : World} {d : Nat} {R : List PObj} {r : Nat} (h : ObjTx w d R r) (hb : Below w.heap.size w w') : ObjTx w' d R r := fun W hW x o ho => h W (hb.trans (hW.mono hb.size)) x o ho

theorem vals_join (T : PId → ByteArray) (l : List PHeld) : valsText T l = joinB bar (l.map (itemText T)) := by
  cases l with
  | nil => rfl
  | cons x l => simp only [valsText, List.map_cons, joinB, List.foldl_map]

set_option maxRecDepth 1000000 in
set_option maxHeartbeats 1000000 in
theorem valueText_q {w : World} {d bo be : Nat} {D : QDoc} {R : List PObj} {t : Int} {n r : Nat} (h : Txt w d bo be D R t n) (hr : r ≤ 3) (ih : ObjTx w d R r) (x : PHeld) (hn : intOk x.num) (ho : ∃ o, objOf R x.obj = some o) :
    Calls Tryz.prog 184 #[.pointer (some ⟨d, 0, none⟩), .agg #[.int .i64 x.num, .int .i64 x.obj.1, .int .i64 x.obj.2], .int .i64 (4 - (r : Int))] w fun e w' => e = .returned (.string (itemText (textP R r) x)) ∧ Below w.heap.size w w' := by
  obtain ⟨o, ho⟩ := ho
  have HB := hid ((Below.refl w.heap.size w).alloc (Nat.le_refl _) (.cells #[.int .i64 x.num, .int .i64 x.obj.1, .int .i64 x.obj.2] 57))
  have HI := hid (itoa_q x.num hn (h.pow.keep HB.out))
  have HO := hid (ih _ HB.out x.obj o ho)
  clear h ih ho
  unfold itemText
  have heq := run_idEq
  cases he : idEq x.obj.1 x.obj.2 0 0
  · have hw : IntKind.i64.wrap (4 - (r : Int) + 1) = 5 - (r : Int) := by rw [Go.IntWalk.i64_in _ (by omega)]; omega
    have hs : (4 - (r : Int)) + 1 = 5 - (r : Int) := by omega
    go_enter Tryz.func184, Tryz.ntmps184
    go_wp2_with fail
    refine HO.out.mono ?_
    rintro e w1 ⟨rfl, hb1⟩
    have HB1 := hid (HB.out.trans (hb1.mono HB.out.size)); clear hb1
    go_wp2
    go_ret
    exact ⟨by simp, HB1.out⟩
  · go_enter Tryz.func184, Tryz.ntmps184
    go_wp2_with fail
    refine HI.out.mono ?_
    rintro e w1 ⟨rfl, hb1⟩
    have HB1 := hid (HB.out.trans (hb1.mono HB.out.size)); clear hb1
    go_wp2
    go_ret
    exact ⟨by simp, HB1.out⟩

theorem below_grown {B : Nat} {w0 w w' : World} {o : Obj} {row : Option Nat} (h : Below B w0 w) (hg : (w.alloc o).grownBy w' row) (hB : B ≤ w.heap.size) (hr : ∀ k, row = some k → B ≤ k) : Below B w0 w' :=
  (h.alloc hB o).grown hg (by simp; omega) hr

set_option maxRecDepth 1000000 in
set_option maxHeartbeats 2000000 in
/-- THE VALUES OF A PLACE. -/
theorem valuesText_q {w : World} {d bo be : Nat} {D : QDoc} {R : List PObj} {t : Int} {n r : Nat} (h : Txt w d bo be D R t n) (hr : r ≤ 3) (ih : ObjTx w d R r) (o1 o2 e1 e2 : Int) (key : ByteArray) (hs : List PHeld) (hN : hs.length ≤ 1) (hat : (atPl D.1 D.2 (o1, o2) key (e1, e2)).vs = hs.map hpair) (hnum : ∀ x ∈ hs, intOk x.num) (hobj : ∀ x ∈ hs, ∃ o, objOf R x.obj = some o) (hsz : (valsText (textP R r) hs).size ≤ 140737488355328) :
    Calls Tryz.prog 167 #[.pointer (some ⟨d, 0, none⟩), .agg #[.int .i64 o1, .int .i64 o2, .string key, .int .i64 e1, .int .i64 e2], .int .i64 (4 - (r : Int))] w fun e w' => e = .returned (.string (valsText (textP R r) hs)) ∧ Below w.heap.size w w' := by
  have HB := hid ((Below.refl w.heap.size w).alloc (Nat.le_refl _) (.cells #[.int .i64 o1, .int .i64 o2, .string key, .int .i64 e1, .int .i64 e2] 97))
  have HV := hid (show Calls Tryz.prog 49 #[.pointer (some ⟨d, 0, none⟩), .agg #[.int .i64 o1, .int .i64 o2, .string key, .int .i64 e1, .int .i64 e2]] (w.alloc (.cells #[.int .i64 o1, .int .i64 o2, .string key, .int .i64 e1, .int .i64 e2] 97)) fun e w' => ∃ u, e = .returned u ∧ ownVals (w.alloc (.cells #[.int .i64 o1, .int .i64 o2, .string key, .int .i64 e1, .int .i64 e2] 97)).heap.size w' u (hs.map valOf) ∧ Below (w.alloc (.cells #[.int .i64 o1, .int .i64 o2, .string key, .int .i64 e1, .int .i64 e2] 97)).heap.size (w.alloc (.cells #[.int .i64 o1, .int .i64 o2, .string key, .int .i64 e1, .int .i64 e2] 97)) w' from by
    have := qvalues_q (h.q.keep HB.out) o1 o2 e1 e2 key (by rw [hat, List.length_map]; exact hN)
    rw [hat, List.map_map] at this
    exact this)
  have HVT := hid (fun W (hb : Below w.heap.size w W) x (hx : x ∈ hs) => valueText_q (h.keep hb) hr (ih.keep hb) x (hnum x hx) (hobj x hx))
  rw [vals_join] at hsz ⊢
  have HSZ := hid hsz
  clear h ih hat hnum hobj hsz
  go_enter Tryz.func167, Tryz.ntmps167
  go_wp2_with fail
  refine HV.out.mono ?_
  rintro e w1 ⟨u, rfl, hu, hb1⟩
  have HB1 := hid (HB.out.trans (hb1.mono HB.out.size)); clear hb1
  have hz1 := HB1.out.size
  have HU := hid (show isVals3 w1 u (hs.map valOf) from owns_mono hu (Nat.zero_le _))
  have HUG := hid (World.ownsRow.lt hu)
  obtain ⟨ua, uc, rfl, hul, hum, huf⟩ := owns_form hu
  clear hu
  unfold maxLen at hum
  rw [List.length_map] at hul
  clear HV HUG
  go_wp2_with fail
  go_loopw [7, 14] (fun u i wr => ∃ k : Nat, k ≤ hs.length ∧ i = .int .i64 k ∧ ownStrs w1.heap.size wr u ((hs.take k).map (itemText (textP R r))) ∧ Below w1.heap.size w1 wr) (fun _ i _ => hs.length - (intOf i).toNat)
  case atStart => exact ⟨0, Nat.zero_le _, rfl, World.ownsRow_nil _ _ _ _, Below.refl _ _⟩
  case round =>
    obtain ⟨k, hk, rfl, hown, hbel⟩ := hrel
    have hbz := hbel.size
    have HBW := hid (HB1.out.trans (hbel.mono hz1))
    by_cases hlt : k < hs.length
    · obtain ⟨g, rfl⟩ := huf k (by simpa using hlt)
      obtain ⟨c0, c1, c2⟩ := isVals3.cells HU.out (by simp) k (by simpa using hlt)
      simp only [List.getElem_map, valOf] at c0 c1 c2
      replace c0 := keep hbel c0
      replace c1 := keep hbel c1
      replace c2 := keep hbel c2
      have hgl := World.block_lt_of_cell? wr _ c0
      have hk1 : (k : Int) < (hs.length : Int) := by omega
      have HO := hid hown; clear hown
      have HBE := hid hbel; clear hbel
      have HBA := hid (show Below wr.heap.size wr (wr.alloc (.cells #[.int .i64 hs[k].num, .int .i64 hs[k].obj.1, .int .i64 hs[k].obj.2] 57)) from (Below.refl _ wr).alloc (Nat.le_refl _) _)
      have HCV := hid (HVT.out _ (HBW.out.trans (HBA.out.mono HBW.out.size)) hs[k] (List.getElem_mem hlt))
      go_wp2_with fail
      refine HCV.out.mono ?_
      rintro e w2 ⟨rfl, hb2⟩
      have HB2 := hid (HBA.out.trans (hb2.mono HBA.out.size)); clear hb2
      have hz2 := HB2.out.size
      have HO2 := hid (show ownStrs w1.heap.size w2 _ ((hs.take k).map (itemText (textP R r))) from owns_keep HO.out HB2.out)
      have hll : ((hs.take k).map (itemText (textP R r))).length = k := by rw [List.length_map, List.length_take]; omega
      go_wp2_with (at_builtin; go_must (refine app_str rfl (.tmp 18) (.tmp 23) rfl w1.heap.size _ ((hs.take k).map (itemText (textP R r))) rfl ?h1 w2.heap.size 1 (itemText (textP R r) hs[k]) rfl ?h2 ?h4 ?h5 ?_; (case h1 => exact World.ownsRow.alloc HO2.out _); (case h2 => exact blk1 (blk_new w2 _)); (case h4 => omega); (case h5 => simp; omega); intro v' w3 hown3 hg3; have HG3 := hid hg3; clear hg3; have HN3 := hid hown3; clear hown3))
      go_roundw
      case rel =>
        have hb3 : Below w1.heap.size w1 w3 := below_grown (HBE.out.trans (HB2.out.mono HBE.out.size)) (o := .cells #[.string (itemText (textP R r) hs[k])] 9) HG3.out (by omega) fun g hg => (World.ownsRow.lt HO2.out g hg).1
        exact ⟨k + 1, by omega, by go_num, by rw [take_map_succ _ hlt]; exact HN3.out, hb3⟩
      case measure => simp [intOf]; omega
    · have hke : k = hs.length := by omega
      subst hke
      rw [List.take_of_length_le (Nat.le_refl _)] at hown
      have HJ := hid (join_q hown bar (by rw [List.length_map]; omega) HSZ.out)
      clear hown
      go_wp2_with fail
      refine HJ.out.mono ?_
      rintro e w2 ⟨rfl, hb2⟩
      have HB2 := hid (HBW.out.trans (hb2.mono HBW.out.size)); clear hb2
      go_wp2
      go_ret
      exact ⟨rfl, HB2.out⟩

end Go.Proofs.YtnkpogjiiohapaaGreatDoor

/-! PTextC: The program's text: a list. -/
namespace Go.Proofs.YtnkpogjiiohapaaGreatDoor
open Go.RowKit

theorem seen_slots (o : PObj) : pseen o = (o.ss.filter seenS).map PSlot.id := rfl

theorem text_pos {R : List PObj} {x : PId} {o : PObj} (ho : objOf R x = some o) (r : Nat) : 0 < (textP R r x).size := by
  cases r with
  | zero => show 0 < 1; omega
  | succ r =>
    unfold textP
    unfold objOf at ho
    rw [ho]
    simp only
    unfold objText
    split
    · rw [ba_size_append, ba_size_append]; show 0 < 1 + _ + 1; omega
    · rw [ba_size_append, ba_size_append]; show 0 < 1 + _ + 1; omega

set_option maxRecDepth 1000000 in
set_option maxHeartbeats 2000000 in
theorem listText_q {w : World} {d bo be : Nat} {D : QDoc} {R : List PObj} {t : Int} {n r : Nat} (h : Txt w d bo be D R t n) (hr : r ≤ 3) (ih : ObjTx w d R r) (x : PId) {o : PObj} (ho : objOf R x = some o) (hl : o.list = true) :
    Calls Tryz.prog 140 #[.pointer (some ⟨d, 0, none⟩), .agg #[.int .i64 x.1, .int .i64 x.2], .int .i64 (4 - (r : Int))] w fun e w' => e = .returned (.string (objText (textP R r) o.list (ordP o))) ∧ Below w.heap.size w w' := by
  have HB := hid ((Below.refl w.heap.size w).alloc (Nat.le_refl _) (.cells #[.int .i64 x.1, .int .i64 x.2] 36))
  have HX0 := hid (blk_new w (.cells #[.int .i64 x.1, .int .i64 x.2] 36))
  obtain ⟨ob, hob, hag⟩ := h.ag.o1 x o ho
  have hol : o.ss.length ≤ 60 := Nat.le_trans (h.ok.cnt o (objOf_mem ho)) h.n60
  have HE := hid (show Calls Tryz.prog 57 #[.pointer (some ⟨d, 0, none⟩), .agg #[.int .i64 x.1, .int .i64 x.2]] (w.alloc (.cells #[.int .i64 x.1, .int .i64 x.2] 36)) _ from elements_q (h.q.keep HB.out) x.1 x.2 hob (hag.list.trans hl) (hag.chain hl) (by rw [List.length_map]; omega))
  rw [hag.seen hl, seen_slots] at HE
  -- each slot's text
  have hT := h.ok.text_size h.n60 r
  have hTB := TB_le (r := r) (by omega)
  have HVT := hid (show ∀ s ∈ o.ss, ∀ W, Below w.heap.size w W → Calls Tryz.prog 167 #[.pointer (some ⟨d, 0, none⟩), .agg #[.int .i64 x.1, .int .i64 x.2, .string ⟨#[]⟩, .int .i64 s.id.1, .int .i64 s.id.2], .int .i64 (4 - (r : Int))] W fun e w' => e = .returned (.string (slotText (textP R r) o.list s)) ∧ Below W.heap.size W w' from fun s hs W hb => by
    have h1 := h.ok.one o (objOf_mem ho) s hs
    have hk := (hag.elems hl s hs).1
    have hhe : heldsAt o ⟨#[]⟩ s.id = s.hs := hag.heldsOf hs (slotIs_true.2 ⟨hk, rfl⟩)
    have hp := perm_one (h.ag.atE ho hl (List.mem_map.2 ⟨s, hs, rfl⟩)).2 (by rw [List.length_map, hhe]; exact h1)
    rw [hhe] at hp
    have hsz := h.ok.vals_size hT (objOf_mem ho) hs
    have := valuesText_q (h.keep hb) hr (ih.keep hb) x.1 x.2 s.id.1 s.id.2 ⟨#[]⟩ s.hs h1 hp (h.ok.nums o (objOf_mem ho) s hs) (h.ok.objs o (objOf_mem ho) s hs) (by omega)
    unfold slotText
    rw [hl]
    exact this)
  have hbs := h.ok.body_size h.n60 hT (objOf_mem ho)
  have hbj : objBody (textP R r) o.list (ordP o) = joinB comma ((o.ss.filter seenS).map (slotText (textP R r) o.list)) := by
    have ho' : ordP o = o.ss := by unfold ordP; rw [hl]; rfl
    rw [ho']
    refine body_join _ _ _ fun s hs hsn => ?_
    unfold slotText
    rw [hl, if_pos rfl, vals_join]
    refine join_pos _ ?_ ?_
    · intro e
      unfold seenS at hsn
      have h2 := congrArg List.length e
      rw [List.length_map] at h2
      rw [decide_eq_true_eq, h2] at hsn
      exact absurd hsn (by decide)
    · intro y hy
      obtain ⟨z, hz, rfl⟩ := List.mem_map.1 hy
      unfold itemText
      split
      · exact numText_pos _
      · obtain ⟨o', ho'⟩ := h.ok.objs o (objOf_mem ho) s hs z hz
        exact text_pos ho' r
  have HJS := hid (show (joinB comma ((o.ss.filter seenS).map (slotText (textP R r) o.list))).size ≤ 140737488355328 by rw [← hbj]; omega)
  have HBJ := hid hbj
  have hfl : (o.ss.filter seenS).length ≤ 60 := Nat.le_trans (List.length_filter_le _ _) hol
  have HFM := hid (show ∀ s ∈ o.ss.filter seenS, s ∈ o.ss from fun s hs => (List.mem_filter.1 hs).1)
  have HOL := hid hl
  clear h ih hob hag hol hT hTB hbs hbj ho hl
  generalize hL : o.ss.filter seenS = L at *
  clear hL
  go_enter Tryz.func140, Tryz.ntmps140
  go_wp2_with fail
  refine HE.out.mono ?_
  rintro e w1 ⟨u, rfl, hu, hb1⟩
  have HX1 := hid (blk_keep HX0.out hb1)
  have HB1 := hid (HB.out.trans (hb1.mono HB.out.size)); clear hb1
  have hz1 := HB1.out.size
  have HU := hid (show isIds w1 u (L.map PSlot.id) from hu.ids)
  obtain ⟨ua, uc, rfl, hul, hum, huf⟩ := owns_form hu
  clear hu HE
  unfold maxLen at hum
  rw [List.length_map] at hul
  go_wp2_with fail
  go_loopw [7, 14] (fun u i wr => ∃ k : Nat, k ≤ L.length ∧ i = .int .i64 k ∧ ownStrs w1.heap.size wr u ((L.take k).map (slotText (textP R r) o.list)) ∧ Below w1.heap.size w1 wr) (fun _ i _ => L.length - (intOf i).toNat)
  case atStart => exact ⟨0, Nat.zero_le _, rfl, World.ownsRow_nil _ _ _ _, Below.refl _ _⟩
  case round =>
    obtain ⟨k, hk, rfl, hown, hbel⟩ := hrel
    have hbz := hbel.size
    have HBW := hid (HB1.out.trans (hbel.mono hz1))
    by_cases hlt : k < L.length
    · obtain ⟨g, rfl⟩ := huf k (by simpa using hlt)
      obtain ⟨c0, c1⟩ := isIds.cells HU.out (by simp) k (by simpa using hlt)
      simp only [List.getElem_map] at c0 c1
      replace c0 := keep hbel c0
      replace c1 := keep hbel c1
      have HX2 := hid (blk_keep HX1.out hbel)
      obtain ⟨b0, b1⟩ := blk2 HX2.out
      have hbl := blk_lt HX2.out
      have hgl := World.block_lt_of_cell? wr _ c0
      have hk1 : (k : Int) < (L.length : Int) := by omega
      have HO := hid hown; clear hown
      have HBE := hid hbel; clear hbel
      have HBA := hid (show Below wr.heap.size wr (wr.alloc (.cells #[.int .i64 L[k].id.1, .int .i64 L[k].id.2] 36)) from (Below.refl _ wr).alloc (Nat.le_refl _) _)
      go_wp2_with fail
      refine (elementOf_q _ _ _ _ _).mono ?_
      rintro e w2 ⟨rfl, hb2⟩
      have HB2 := hid (HBA.out.trans (hb2.mono HBA.out.size)); clear hb2
      have HCV := hid (HVT.out L[k] (HFM.out _ (List.getElem_mem hlt)) w2 (HBW.out.trans (HB2.out.mono HBW.out.size)))
      go_wp2_with fail
      refine HCV.out.mono ?_
      rintro e w3 ⟨rfl, hb3⟩
      have HB3 := hid (HB2.out.trans (hb3.mono HB2.out.size)); clear hb3
      have hz3 := HB3.out.size
      have HO3 := hid (show ownStrs w1.heap.size w3 _ ((L.take k).map (slotText (textP R r) o.list)) from owns_keep HO.out HB3.out)
      have hll : ((L.take k).map (slotText (textP R r) o.list)).length = k := by rw [List.length_map, List.length_take]; omega
      go_wp2_with (at_builtin; go_must (refine app_str rfl (.tmp 18) (.tmp 25) rfl w1.heap.size _ ((L.take k).map (slotText (textP R r) o.list)) rfl ?h1 w3.heap.size 1 (slotText (textP R r) o.list L[k]) rfl ?h2 ?h4 ?h5 ?_; (case h1 => exact World.ownsRow.alloc HO3.out _); (case h2 => exact blk1 (blk_new w3 _)); (case h4 => omega); (case h5 => simp; omega); intro v' w4 hown4 hg4; have HG4 := hid hg4; clear hg4; have HN4 := hid hown4; clear hown4))
      go_roundw
      case rel =>
        have hb4 : Below w1.heap.size w1 w4 := below_grown (HBE.out.trans (HB3.out.mono HBE.out.size)) (o := .cells #[.string (slotText (textP R r) o.list L[k])] 9) HG4.out (by omega) fun g hg => (World.ownsRow.lt HO3.out g hg).1
        exact ⟨k + 1, by omega, by go_num, by rw [take_map_succ _ hlt]; exact HN4.out, hb4⟩
      case measure => simp [intOf]; omega
    · have hke : k = L.length := by omega
      subst hke
      rw [List.take_of_length_le (Nat.le_refl _)] at hown
      have HJ := hid (join_q hown comma (by rw [List.length_map]; omega) HJS.out)
      clear hown
      go_wp2_with fail
      refine HJ.out.mono ?_
      rintro e w2 ⟨rfl, hb2⟩
      have HB2 := hid (HBW.out.trans (hb2.mono HBW.out.size)); clear hb2
      have hjz := HJS.out
      clear HJ
      go_wp2
      go_ret
      refine ⟨ret_str ?_, HB2.out⟩
      unfold objText
      rw [HBJ.out, HOL.out, if_pos rfl]

end Go.Proofs.YtnkpogjiiohapaaGreatDoor

/-! PTextD: The program's text: a map. -/
namespace Go.Proofs.YtnkpogjiiohapaaGreatDoor
open Go.RowKit

/-- The keys that can be seen, in their order. -/
theorem keys_sorted {R : List PObj} {D : QDoc} {x : PId} {o : PObj} {ob : CQObj} (hnd : QNd D) (hob : lookI x D.1 = some ob) (hag : ObjAg D.2 x o ob) (hl : o.list = false) : srtB (seenKeys ob.ks) = ((sortP o.ss).filter seenS).map PSlot.key := by
  have hkn : (ob.ks.map (·.1)).Nodup := hnd.ks _ (look_mem hob)
  have hone := hag.kone hl
  have hkeys := hag.keys hl
  have hheld : ∀ s ∈ o.ss, heldsAt o s.key (0, 0) = s.hs := fun s hs => hag.heldsOf hs (slotIs_true.2 ⟨rfl, (hkeys s hs).2⟩)
  have hlook : ∀ key c, (key, c) ∈ ob.ks → c.vs.length = (heldsAt o key (0, 0)).length := fun key c hc => by
    have := hag.kval hl key
    rw [look_of_mem hkn hc] at this
    have := this.length_eq
    rw [List.length_map] at this
    exact this
  have hsl := List.mergeSort_perm o.ss slotLe
  have hnodS : ((sortP o.ss).map PSlot.key).Nodup := ((hsl.map PSlot.key).nodup_iff).2 hone
  apply srtB_eq
  · rw [List.perm_ext_iff_of_nodup]
    · intro key
      unfold seenKeys
      constructor
      · intro hm
        obtain ⟨⟨k, c⟩, hc, rfl⟩ := List.mem_map.1 hm
        obtain ⟨hc1, hc2⟩ := List.mem_filter.1 hc
        have h1 := hlook k c hc1
        have h2 : 0 < c.vs.length := by simpa using hc2
        rw [h1] at h2
        obtain ⟨h, hh⟩ := List.exists_mem_of_length_pos h2
        obtain ⟨s, hs, hsi, hse⟩ := helds_mem hh
        refine List.mem_map.2 ⟨s, List.mem_filter.2 ⟨hsl.mem_iff.2 hs, ?_⟩, (slotIs_true.1 hsi).1⟩
        unfold seenS
        rw [hse]; simpa using h2
      · intro hm
        obtain ⟨s, hs, rfl⟩ := List.mem_map.1 hm
        obtain ⟨hs1, hs2⟩ := List.mem_filter.1 hs
        have hs3 : s ∈ o.ss := hsl.mem_iff.1 hs1
        have h2 : 0 < s.hs.length := by unfold seenS at hs2; simpa using hs2
        have := hag.kval hl s.key
        rw [hheld s hs3] at this
        cases hlk : lookI s.key ob.ks with
        | none =>
          rw [hlk] at this
          have := this.length_eq
          rw [List.length_map] at this
          simp at this
          omega
        | some c =>
          rw [hlk] at this
          have hle := this.length_eq
          rw [List.length_map] at hle
          refine List.mem_map.2 ⟨(s.key, c), List.mem_filter.2 ⟨look_mem hlk, ?_⟩, rfl⟩
          have : c.vs.length = s.hs.length := hle
          simp only [this]
          simpa using h2
    · exact (List.filter_sublist.map _).nodup hkn
    · exact (List.filter_sublist.map _).nodup hnodS
  · rw [List.pairwise_map]
    refine List.Pairwise.filter _ ?_
    have h1 : (sortP o.ss).Pairwise fun a b => slotLe a b = true := List.pairwise_mergeSort (fun a b c h1 h2 => cslotLe_trans ⟨a.key, a.id, .slice none 0 0, a.hs⟩ ⟨b.key, b.id, .slice none 0 0, b.hs⟩ ⟨c.key, c.id, .slice none 0 0, c.hs⟩ h1 h2) (fun a b => cslotLe_total ⟨a.key, a.id, .slice none 0 0, a.hs⟩ ⟨b.key, b.id, .slice none 0 0, b.hs⟩) o.ss
    refine h1.imp fun {a b} h => less_le _ _ ?_
    unfold slotLe keyLess at h
    simpa using h

set_option maxRecDepth 1000000 in
set_option maxHeartbeats 2000000 in
theorem mapText_q {w : World} {d bo be : Nat} {D : QDoc} {R : List PObj} {t : Int} {n r : Nat} (h : Txt w d bo be D R t n) (hr : r ≤ 3) (ih : ObjTx w d R r) (x : PId) {o : PObj} (ho : objOf R x = some o) (hl : o.list = false) :
    Calls Tryz.prog 141 #[.pointer (some ⟨d, 0, none⟩), .agg #[.int .i64 x.1, .int .i64 x.2], .int .i64 (4 - (r : Int))] w fun e w' => e = .returned (.string (objText (textP R r) o.list (ordP o))) ∧ Below w.heap.size w w' := by
  have HB := hid ((Below.refl w.heap.size w).alloc (Nat.le_refl _) (.cells #[.int .i64 x.1, .int .i64 x.2] 36))
  have HX0 := hid (blk_new w (.cells #[.int .i64 x.1, .int .i64 x.2] 36))
  obtain ⟨ob, hob, hag⟩ := h.ag.o1 x o ho
  have hol : o.ss.length ≤ 60 := Nat.le_trans (h.ok.cnt o (objOf_mem ho)) h.n60
  have HE := hid (show Calls Tryz.prog 169 #[.pointer (some ⟨d, 0, none⟩), .agg #[.int .i64 x.1, .int .i64 x.2]] (w.alloc (.cells #[.int .i64 x.1, .int .i64 x.2] 36)) _ from keys_of (h.q.keep HB.out) x.1 x.2 hob (by have h1 := h.kl _ (look_mem hob); have h2 := h.n60; simp only at h1; omega) srtB (fun W v l hv hvl => sort_q _ W v l hv hvl) srtB_cong)
  rw [keys_sorted (R := R) h.nd hob hag hl] at HE
  have hT := h.ok.text_size h.n60 r
  have hTB := TB_le (r := r) (by omega)
  have HVT := hid (show ∀ s ∈ o.ss, ∀ W, Below w.heap.size w W → Calls Tryz.prog 167 #[.pointer (some ⟨d, 0, none⟩), .agg #[.int .i64 x.1, .int .i64 x.2, .string s.key, .int .i64 0, .int .i64 0], .int .i64 (4 - (r : Int))] W fun e w' => e = .returned (.string (valsText (textP R r) s.hs)) ∧ Below W.heap.size W w' from fun s hs W hb => by
    have h1 := h.ok.one o (objOf_mem ho) s hs
    have hk := hag.keys hl s hs
    have hhe : heldsAt o s.key (0, 0) = s.hs := hag.heldsOf hs (slotIs_true.2 ⟨rfl, hk.2⟩)
    have hp := perm_one (h.ag.atK ho hl hk.1 (0, 0)).2 (by rw [List.length_map, hhe]; exact h1)
    rw [hhe] at hp
    have hsz := h.ok.vals_size hT (objOf_mem ho) hs
    exact valuesText_q (h.keep hb) hr (ih.keep hb) x.1 x.2 0 0 s.key s.hs h1 hp (h.ok.nums o (objOf_mem ho) s hs) (h.ok.objs o (objOf_mem ho) s hs) (by omega))
  have HSZ := hid (show ∀ s ∈ o.ss, s.key.size ≤ 4 ∧ (valsText (textP R r) s.hs).size ≤ 140737488355 from fun s hs => ⟨h.ok.ksz o (objOf_mem ho) s hs, by have := h.ok.vals_size hT (objOf_mem ho) hs; omega⟩)
  have hbs := h.ok.body_size h.n60 hT (objOf_mem ho)
  have hso : ordP o = sortP o.ss := by unfold ordP; rw [hl]; rfl
  have hbj : objBody (textP R r) o.list (ordP o) = joinB comma (((sortP o.ss).filter seenS).map (slotText (textP R r) o.list)) := by
    rw [hso]
    refine body_join _ _ _ fun s hs hsn => ?_
    unfold slotText
    rw [hl]
    rw [if_neg (by decide), ba_size_append, ba_size_append]
    show 0 < _ + 1 + _
    omega
  have HJS := hid (show (joinB comma (((sortP o.ss).filter seenS).map (slotText (textP R r) o.list))).size ≤ 140737488355328 by rw [← hbj]; omega)
  have HBJ := hid hbj
  have hfl : ((sortP o.ss).filter seenS).length ≤ 60 := Nat.le_trans (List.length_filter_le _ _) (by unfold sortP; rw [(List.mergeSort_perm o.ss slotLe).length_eq]; exact hol)
  have HFM := hid (show ∀ s ∈ (sortP o.ss).filter seenS, s ∈ o.ss from fun s hs => (List.mergeSort_perm o.ss slotLe).mem_iff.1 (List.mem_filter.1 hs).1)
  have HOL := hid hl
  have hsf : ∀ s, slotText (textP R r) o.list s = (s.key ++ colon) ++ valsText (textP R r) s.hs := fun s => by unfold slotText; rw [hl, if_neg (by decide)]
  have HSF := hid hsf
  clear h ih hob hag hol hT hTB hbs hbj ho hl hso hsf
  generalize hL : (sortP o.ss).filter seenS = L at *
  clear hL
  go_enter Tryz.func141, Tryz.ntmps141
  go_wp2_with fail
  refine HE.out.mono ?_
  rintro e w1 ⟨u, rfl, hu, hb1⟩
  have HX1 := hid (blk_keep HX0.out hb1)
  have HB1 := hid (HB.out.trans (hb1.mono HB.out.size)); clear hb1
  have hz1 := HB1.out.size
  obtain ⟨ua, uc, rfl, hul, hum, huf⟩ := owns_form hu
  have HU := hid hu
  clear hu HE
  unfold maxLen at hum
  rw [List.length_map] at hul
  go_wp2_with fail
  go_loopw [7, 14] (fun u i wr => ∃ k : Nat, k ≤ L.length ∧ i = .int .i64 k ∧ ownStrs w1.heap.size wr u ((L.take k).map (slotText (textP R r) o.list)) ∧ Below w1.heap.size w1 wr) (fun _ i _ => L.length - (intOf i).toNat)
  case atStart => exact ⟨0, Nat.zero_le _, rfl, World.ownsRow_nil _ _ _ _, Below.refl _ _⟩
  case round =>
    obtain ⟨k, hk, rfl, hown, hbel⟩ := hrel
    have hbz := hbel.size
    have HBW := hid (HB1.out.trans (hbel.mono hz1))
    by_cases hlt : k < L.length
    · obtain ⟨g, rfl⟩ := huf k (by simpa using hlt)
      have c0 := strs_cells HU.out k L[k].key (by simp [hlt])
      rw [Nat.zero_add] at c0
      replace c0 := keep hbel c0
      have HX2 := hid (blk_keep HX1.out hbel)
      obtain ⟨b0, b1⟩ := blk2 HX2.out
      have hbl := blk_lt HX2.out
      have hgl := World.block_lt_of_cell? wr _ c0
      have hk1 : (k : Int) < (L.length : Int) := by omega
      have HO := hid hown; clear hown
      have HBE := hid hbel; clear hbel
      obtain ⟨hks, hvs⟩ := HSZ.out L[k] (HFM.out _ (List.getElem_mem hlt))
      go_wp2_with fail
      refine (keyOf_q _ _ _ _).mono ?_
      rintro e w2 ⟨rfl, hb2⟩
      have HB2 := hid hb2; clear hb2
      have HCV := hid (HVT.out L[k] (HFM.out _ (List.getElem_mem hlt)) w2 (HBW.out.trans (HB2.out.mono HBW.out.size)))
      go_wp2_with fail
      refine HCV.out.mono ?_
      rintro e w3 ⟨rfl, hb3⟩
      have HB3 := hid (HB2.out.trans (hb3.mono HB2.out.size)); clear hb3
      have hz3 := HB3.out.size
      have HO3 := hid (show ownStrs w1.heap.size w3 _ ((L.take k).map (slotText (textP R r) o.list)) from owns_keep HO.out HB3.out)
      have hll : ((L.take k).map (slotText (textP R r) o.list)).length = k := by rw [List.length_map, List.length_take]; omega
      go_wp2_with (at_builtin; go_must (refine app_str rfl (.tmp 18) (.tmp 28) rfl w1.heap.size _ ((L.take k).map (slotText (textP R r) o.list)) rfl ?h1 w3.heap.size 1 ((L[k].key ++ colon) ++ valsText (textP R r) L[k].hs) rfl ?h2 ?h4 ?h5 ?_; (case h1 => exact World.ownsRow.alloc HO3.out _); (case h2 => exact blk1 (blk_new w3 _)); (case h4 => omega); (case h5 => simp; omega); intro v' w4 hown4 hg4; have HG4 := hid hg4; clear hg4; have HN4 := hid hown4; clear hown4))
      go_roundw
      case rel =>
        have hb4 : Below w1.heap.size w1 w4 := below_grown (HBE.out.trans (HB3.out.mono HBE.out.size)) HG4.out (by omega) fun g hg => (World.ownsRow.lt HO3.out g hg).1
        exact ⟨k + 1, by omega, by go_num, by rw [take_map_succ _ hlt, HSF.out L[k]]; exact HN4.out, hb4⟩
      case measure => simp [intOf]; omega
    · have hke : k = L.length := by omega
      subst hke
      rw [List.take_of_length_le (Nat.le_refl _)] at hown
      have HJ := hid (join_q hown comma (by rw [List.length_map]; omega) HJS.out)
      clear hown
      go_wp2_with fail
      refine HJ.out.mono ?_
      rintro e w2 ⟨rfl, hb2⟩
      have HB2 := hid (HBW.out.trans (hb2.mono HBW.out.size)); clear hb2
      have hjz := HJS.out
      clear HJ
      go_wp2
      go_ret
      refine ⟨ret_str ?_, HB2.out⟩
      unfold objText
      rw [HBJ.out, HOL.out, if_neg (by decide)]

end Go.Proofs.YtnkpogjiiohapaaGreatDoor

/-! PTextE: The program's text: an object, the document; Show. -/
namespace Go.Proofs.YtnkpogjiiohapaaGreatDoor
open Go.RowKit
attribute [local go_sem ↓] Go.wp_at_zero Go.wp_at_succ

set_option maxRecDepth 1000000 in
set_option maxHeartbeats 2000000 in
theorem objectText_q {d bo be : Nat} {D : QDoc} {R : List PObj} {t : Int} {n : Nat} : ∀ (r : Nat), r ≤ 4 → ∀ w, Txt w d bo be D R t n → ObjTx w d R r := by
  intro r
  induction r with
  | zero =>
    intro _ w h W hb x o ho
    have HB := hid ((Below.refl W.heap.size W).alloc (Nat.le_refl _) (.cells #[.int .i64 x.1, .int .i64 x.2] 36))
    have h5 : (5 : Int) - ((0 : Nat) : Int) = 5 := by omega
    rw [h5]
    clear h ho
    go_enter Tryz.func88, Tryz.ntmps88
    go_wp2
    go_ret
    exact ⟨rfl, HB.out⟩
  | succ r ih =>
    intro hr w h W hb x o ho
    have HB := hid ((Below.refl W.heap.size W).alloc (Nat.le_refl _) (.cells #[.int .i64 x.1, .int .i64 x.2] 36))
    have HX0 := hid (blk_new W (.cells #[.int .i64 x.1, .int .i64 x.2] 36))
    have h5 : (5 : Int) - ((r + 1 : Nat) : Int) = 4 - (r : Int) := by omega
    rw [h5]
    have hW := h.keep hb
    have HIL := hid (show Calls Tryz.prog 90 #[.pointer (some ⟨d, 0, none⟩), .agg #[.int .i64 x.1, .int .i64 x.2]] (W.alloc (.cells #[.int .i64 x.1, .int .i64 x.2] 36)) fun e w' => e = .returned (.bool o.list) ∧ Below (W.alloc (.cells #[.int .i64 x.1, .int .i64 x.2] 36)).heap.size (W.alloc (.cells #[.int .i64 x.1, .int .i64 x.2] 36)) w' from by
      rw [← hW.ag.lst ho]; exact isList_q (hW.q.keep HB.out) x.1 x.2)
    have HLT := hid (fun V (hv : Below W.heap.size W V) (hl : o.list = true) => listText_q (hW.keep hv) (by omega) (ih (by omega) V (hW.keep hv)) x ho hl)
    have HMT := hid (fun V (hv : Below W.heap.size W V) (hl : o.list = false) => mapText_q (hW.keep hv) (by omega) (ih (by omega) V (hW.keep hv)) x ho hl)
    have htx : textP R (r + 1) x = objText (textP R r) o.list (ordP o) := by
      unfold textP
      unfold objOf at ho
      rw [ho]
    rw [htx]
    clear h hW ho ih htx hb
    cases hl : o.list
    · rw [hl] at HIL HMT
      go_enter Tryz.func88, Tryz.ntmps88
      go_wp2_with fail
      refine HIL.out.mono ?_
      rintro e w1 ⟨rfl, hb1⟩
      have HX1 := hid (blk_keep HX0.out hb1)
      have HB1 := hid (HB.out.trans (hb1.mono HB.out.size)); clear hb1
      obtain ⟨b0, b1⟩ := blk2 HX1.out
      have HM2 := hid (HMT.out w1 HB1.out (by trivial))
      go_wp2_with fail
      refine HM2.out.mono ?_
      rintro e w2 ⟨rfl, hb2⟩
      have HB2 := hid (HB1.out.trans (hb2.mono HB1.out.size)); clear hb2
      go_wp2
      go_ret
      exact ⟨rfl, HB2.out⟩
    · rw [hl] at HIL HLT
      go_enter Tryz.func88, Tryz.ntmps88
      go_wp2_with fail
      refine HIL.out.mono ?_
      rintro e w1 ⟨rfl, hb1⟩
      have HX1 := hid (blk_keep HX0.out hb1)
      have HB1 := hid (HB.out.trans (hb1.mono HB.out.size)); clear hb1
      obtain ⟨b0, b1⟩ := blk2 HX1.out
      have HM2 := hid (HLT.out w1 HB1.out (by trivial))
      go_wp2_with fail
      refine HM2.out.mono ?_
      rintro e w2 ⟨rfl, hb2⟩
      have HB2 := hid (HB1.out.trans (hb2.mono HB1.out.size)); clear hb2
      go_wp2
      go_ret
      exact ⟨rfl, HB2.out⟩

set_option maxRecDepth 1000000 in
set_option maxHeartbeats 2000000 in
theorem docText_q {w : World} {d bo be : Nat} {D : QDoc} {R : List PObj} {t : Int} {n : Nat} (h : Txt w d bo be D R t n) :
    Calls Tryz.prog 55 #[.pointer (some ⟨d, 0, none⟩)] w fun e w' => e = .returned (.string (textP R 4 (0, 0))) ∧ Below w.heap.size w w' := by
  obtain ⟨o, ho, _⟩ := h.ok.root
  have HO := hid (show Calls Tryz.prog 88 #[.pointer (some ⟨d, 0, none⟩), .agg #[.int .i64 0, .int .i64 0], .int .i64 1] w _ from objectText_q 4 (by omega) w h w (Below.refl _ _) (0, 0) o ho)
  clear h ho
  go_enter Tryz.func55, Tryz.ntmps55
  go_wp2_with fail
  refine HO.out.mono ?_
  rintro e w1 ⟨rfl, hb1⟩
  have HB1 := hid hb1; clear hb1
  go_wp2
  go_ret
  exact ⟨rfl, HB1.out⟩

set_option maxRecDepth 1000000 in
set_option maxHeartbeats 2000000 in
theorem prog_show {w : World} {r : Nat} {F : Nat → Prop} {N sp : Nat} {P : Nat → List POp} (h : isPr w r F N sp P) (hp : Pow w) {c : Nat} (hc : c < N) :
    Calls Tryz.prog 28 #[.pointer (some ⟨r, 0, none⟩), .int .i64 c] w fun e w' => e = .returned (.tuple #[.string (textP ((P c).foldl doesP rootP) 4 (0, 0)), .int .i64 0]) ∧ LeftPr F N sp P r w w' := by
  obtain ⟨gC, cC, bl, rbs, Fc, h⟩ := h
  obtain ⟨gh, hb, bE, bN, vo, vr, ops, rs, d, bo, be, D, hrep⟩ := h.reps c hc
  have HC := hid (inCopy_q h c hc)
  have HD := hid (document_q hrep)
  have HT := hid (fun W (hb : Below w.heap.size w W) => docText_q (w := W) (⟨hrep.hist.q.keep hb, hrep.agree, hrep.ok, hrep.hist.nd, hp.keep hb, hrep.len, hrep.kl⟩ : Txt W d bo be D ((P c).foldl doesP rootP) (topP (P c)) (P c).length))
  have HH := hid h
  clear h hrep hp
  go_enter Tryz.func28, Tryz.ntmps28
  go_wp2_with fail
  refine HC.out.mono ?_
  rintro e w1 ⟨rfl, hw1⟩
  subst hw1
  go_wp2_with fail
  refine HD.out.mono ?_
  rintro e w2 ⟨rfl, hb2⟩
  have HB2 := hid hb2; clear hb2
  go_wp2_with fail
  refine (HT.out w2 HB2.out).mono ?_
  rintro e w3 ⟨rfl, hb3⟩
  have HB3 := hid (HB2.out.trans (hb3.mono HB2.out.size)); clear hb3
  go_wp2
  go_ret2
  exact ⟨rfl, HH.out.left HB3.out⟩

end Go.Proofs.YtnkpogjiiohapaaGreatDoor

/-! PLawB: The law: a room of the program's beside the document's. -/
namespace Go.Proofs.YtnkpogjiiohapaaGreatDoor
open Go.RowKit

/-- Copies that have heard of none but themselves. -/
def hasW (P : Nat → List POp) (d i : Nat) : Nat := if d = i then (P d).length else 0

theorem range_one {α : Type} (f : Nat → List α) (c : Nat) : ∀ n, ((List.range n).flatMap fun i => if i = c then f i else []) = if c < n then f c else []
  | 0 => by simp
  | n + 1 => by
    rw [List.range_succ, List.flatMap_append, range_one f c n]
    by_cases h : c < n
    · have h1 : c < n + 1 := by omega
      have h2 : ¬ n = c := by omega
      simp [h, h1, h2]
    · by_cases e : n = c
      · subst e; simp
      · have h1 : ¬ c < n + 1 := by omega
        simp [h, h1, e]
theorem isPr.own {w : World} {x : Nat} {F : Nat → Prop} {N sp : Nat} {P : Nat → List POp} (h : isPr w x F N sp P) {c : Nat} (hc : c < N) : Own N P (hasW P) c (P c) := by
  obtain ⟨gC, cC, bl, rbs, Fc, h⟩ := h
  obtain ⟨gh, hb, bE, bN, vo, vr, ops, rs, d, bo, be, D, hrep⟩ := h.reps c hc
  refine ⟨hc, ?_, hrep.sort, by simp [hasW], fun p hp => ?_⟩
  · have : ((List.range N).flatMap fun i => (P i).take (hasW P c i)) = P c := by
      have h1 : (fun i => (P i).take (hasW P c i)) = fun i => if i = c then P i else [] := by
        funext i
        by_cases e : i = c
        · subst e; simp [hasW]
        · simp [hasW, e, Ne.symm e]
      rw [h1, range_one, if_pos hc]
    rw [this]
  · have := (topP_spec (P c)).2.1 p hp
    rw [hrep.top] at this
    have := hrep.len
    omega
theorem isPr.textOk {w : World} {x : Nat} {F : Nat → Prop} {N sp : Nat} {P : Nat → List POp} (h : isPr w x F N sp P) {c : Nat} (hc : c < N) : TextOk ((P c).foldl doesP rootP) := by
  obtain ⟨gC, cC, bl, rbs, Fc, h⟩ := h
  obtain ⟨gh, hb, bE, bN, vo, vr, ops, rs, d, bo, be, D, hrep⟩ := h.reps c hc
  exact RefOk.textOk hrep.ok hrep.len hrep.agree
theorem isPr.keepF {w w' : World} {x : Nat} {F : Nat → Prop} {N sp : Nat} {P : Nat → List POp} (h : isPr w x F N sp P) (hs : w.heap.size ≤ w'.heap.size) (hk : ∀ k, F k → w'.heap[k]? = w.heap[k]?) : isPr w' x F N sp P := by
  obtain ⟨gC, cC, bl, rbs, Fc, h⟩ := h
  exact ⟨gC, cC, bl, rbs, Fc, h.keepF hs hk⟩
theorem isPr.lt {w : World} {x : Nat} {F : Nat → Prop} {N sp : Nat} {P : Nat → List POp} (h : isPr w x F N sp P) : ∀ k, F k → k < w.heap.size := by
  obtain ⟨gC, cC, bl, rbs, Fc, h⟩ := h
  exact h.lt
theorem hasW_upd (P : Nat → List POp) (c : Nat) (ps : List POp) : (fun d i => if d = c ∧ i = c then (P c ++ ps).length else hasW P d i) = hasW (upd P c (P c ++ ps)) := by
  funext d i
  unfold hasW
  by_cases h1 : d = c
  · subst h1
    by_cases h2 : i = d
    · subst h2; simp [upd_same]
    · simp [h2, Ne.symm h2]
  · by_cases h2 : d = i
    · subst h2; simp [h1, upd_ne]
    · simp [h1, h2]

/-- A room of the program's, and the document's; the Ids that were told: with all that it is made of. -/
structure PairAt (w : World) (gp : Nat) (F : Nat → Prop) (x r : Nat) (vt : Value) (told : List PId) (FP FR : Nat → Prop) (N sp : Nat) (P : Nat → List POp) : Prop where
  blk : w.heap[gp]? = some (.cells #[.pointer (some ⟨x, 0, none⟩), .pointer (some ⟨r, 0, none⟩), vt] 135 (0, 0))
  told : ownIds 0 w vt told
  pr : isPr w x FP N sp P
  rf : isRef w r FR N P (hasW P)
  fp : ∀ k, FP k → F k
  fr : ∀ k, FR k → F k
  fg : F gp
  ft : ∀ k, vt.ownBlock = some k → F k
  dis : ∀ k, FP k → ¬ FR k
  gpP : ¬ FP gp
  gpR : ¬ FR gp
  vtP : ∀ k, vt.ownBlock = some k → ¬ FP k
  vtR : ∀ k, vt.ownBlock = some k → ¬ FR k
  lt : ∀ k, F k → k < w.heap.size
def isPair (w : World) (gp : Nat) (F : Nat → Prop) (nt : Nat) : Prop := ∃ x r vt told FP FR N sp P, told.length ≤ nt ∧ PairAt w gp F x r vt told FP FR N sp P

section
theorem PairAt.keepF {w w' : World} {gp : Nat} {F : Nat → Prop} {x r : Nat} {vt : Value} {told : List PId} {FP FR : Nat → Prop} {N sp : Nat} {P : Nat → List POp} (h : PairAt w gp F x r vt told FP FR N sp P) (hs : w.heap.size ≤ w'.heap.size) (hk : ∀ k, F k → w'.heap[k]? = w.heap[k]?) : PairAt w' gp F x r vt told FP FR N sp P :=
  ⟨by rw [hk _ h.fg]; exact h.blk, row_blk h.told fun g hg => hk g (h.ft g hg), h.pr.keepF hs fun k hF => hk k (h.fp k hF), h.rf.keep hs fun k hF => hk k (h.fr k hF), h.fp, h.fr, h.fg, h.ft, h.dis, h.gpP, h.gpR, h.vtP, h.vtR, fun k hF => Nat.lt_of_lt_of_le (h.lt k hF) hs⟩
theorem PairAt.keep {w w' : World} {gp : Nat} {F : Nat → Prop} {x r : Nat} {vt : Value} {told : List PId} {FP FR : Nat → Prop} {N sp : Nat} {P : Nat → List POp} (h : PairAt w gp F x r vt told FP FR N sp P) (hb : Below w.heap.size w w') : PairAt w' gp F x r vt told FP FR N sp P := h.keepF hb.size fun k hk => hb.block k (h.lt k hk)
/-- The program's call has turned its own blocks alone: the rest of the pair stands. -/
theorem PairAt.prog {w w' : World} {gp : Nat} {F : Nat → Prop} {x r : Nat} {vt : Value} {told : List PId} {FP FR : Nat → Prop} {N sp : Nat} {P : Nat → List POp} (h : PairAt w gp F x r vt told FP FR N sp P) {FP' : Nat → Prop} (hk : Keeps FP FP' w w') : w'.heap[gp]? = w.heap[gp]? ∧ isRef w' r FR N P (hasW P) ∧ ownIds 0 w' vt told :=
  ⟨hk.other gp (h.lt _ h.fg) h.gpP, h.rf.keep hk.size fun k hF => hk.other k (h.rf.lt k hF) fun hP => h.dis k hP hF, row_blk h.told fun g hg => hk.other g (World.ownsRow.lt h.told g hg).2 (h.vtP g hg)⟩
/-- BOTH CALLS: what is left of the pair. -/
theorem PairAt.both {w : World} {gp : Nat} {F : Nat → Prop} {x r : Nat} {vt : Value} {told : List PId} {FP FR : Nat → Prop} {N sp : Nat} {P : Nat → List POp} (h : PairAt w gp F x r vt told FP FR N sp P) {w1 w2 : World} {FP' FR' : Nat → Prop} {P' : Nat → List POp} (hk1 : Keeps FP FP' w w1) (hp : isPr w1 x FP' N sp P') (hk2 : Keeps FR FR' w1 w2) (hr : isRef w2 r FR' N P' (hasW P')) :
    ∃ F', PairAt w2 gp F' x r vt told FP' FR' N sp P' ∧ Keeps F F' w w2 ∧ ∀ k, F' k → F k ∨ FP' k ∨ FR' k := by
  have hw := hk1.size
  have hP'R : ∀ k, FP' k → ¬ FR k := fun k h1 h2 => (hk1.sub k h1).elim (fun h3 => h.dis k h3 h2) fun h3 => by have := h.rf.lt k h2; omega
  have hgp1 : gp < w1.heap.size := Nat.lt_of_lt_of_le (h.lt _ h.fg) hw
  have hvt : ∀ k, vt.ownBlock = some k → k < w.heap.size := fun k hk => (World.ownsRow.lt h.told k hk).2
  have hb : ∀ k, k < w.heap.size → ¬ FP k → ¬ FR k → w2.heap[k]? = w.heap[k]? := fun k hk h1 h2 => (hk2.other k (by omega) h2).trans (hk1.other k hk h1)
  refine ⟨fun k => F k ∨ FP' k ∨ FR' k, ⟨?_, row_blk h.told fun g hg => hb g (hvt g hg) (h.vtP g hg) (h.vtR g hg), hp.keepF hk2.size fun k hF => hk2.other k (hp.lt k hF) (hP'R k hF), hr, fun k hk => .inr (.inl hk), fun k hk => .inr (.inr hk), .inl h.fg, fun k hk => .inl (h.ft k hk), ?_, ?_, ?_, ?_, ?_, ?_⟩, ?_, fun k hk => hk⟩
  · rw [hb gp (h.lt _ h.fg) h.gpP h.gpR]; exact h.blk
  · intro k h1 h2
    rcases hk2.sub k h2 with h3 | h3
    · exact hP'R k h1 h3
    · have := hp.lt k h1; omega
  · intro h1
    rcases hk1.sub gp h1 with h2 | h2
    · exact h.gpP h2
    · have := h.lt _ h.fg; omega
  · intro h1
    rcases hk2.sub gp h1 with h2 | h2
    · exact h.gpR h2
    · omega
  · intro k hk h1
    rcases hk1.sub k h1 with h2 | h2
    · exact h.vtP k hk h2
    · have := hvt k hk; omega
  · intro k hk h1
    rcases hk2.sub k h1 with h2 | h2
    · exact h.vtR k hk h2
    · have := hvt k hk; omega
  · intro k hk
    rcases hk with hk | hk | hk
    · exact Nat.lt_of_lt_of_le (h.lt k hk) (Nat.le_trans hw hk2.size)
    · exact Nat.lt_of_lt_of_le (hp.lt k hk) hk2.size
    · exact hr.lt k hk
  · refine ⟨hk2.os.trans hk1.os, hk2.tape.trans hk1.tape, hk2.output.trans hk1.output, Nat.le_trans hw hk2.size, fun k hk hF => hb k hk (fun h1 => hF (h.fp k h1)) (fun h1 => hF (h.fr k h1)), fun k hk => ?_⟩
    rcases hk with hk | hk | hk
    · exact .inl hk
    · exact (hk1.sub k hk).imp (h.fp k) id
    · exact (hk2.sub k hk).imp (h.fr k) fun h1 => Nat.le_trans hw h1
end

end Go.Proofs.YtnkpogjiiohapaaGreatDoor

/-! PLawC: The law: tells. -/
namespace Go.Proofs.YtnkpogjiiohapaaGreatDoor
open Go.RowKit
attribute [local go_sem ↓] Go.wp_at_zero Go.wp_at_succ

theorem set3_2 {w : World} {g : Nat} {a b c u : Value} {t : TypeId} (h : w.heap[g]? = some (.cells #[a, b, c] t (0, 0))) : (w.setCell ⟨g, 2, none⟩ u).heap[g]? = some (.cells #[a, b, u] t (0, 0)) := by
  have h1 := setRow (i := 2) (u := u) h
  simpa using h1

/-- The Ids that were told are others: what is left of the pair. -/
theorem PairAt.retold {w w2 : World} {gp : Nat} {F : Nat → Prop} {x r : Nat} {vt vt' : Value} {told told' : List PId} {FP FR : Nat → Prop} {N sp : Nat} {P : Nat → List POp} (h : PairAt w gp F x r vt told FP FR N sp P)
    (ht : Turned (fun k => k = gp ∨ vt.ownBlock = some k) w w2) (hb : w2.heap[gp]? = some (.cells #[.pointer (some ⟨x, 0, none⟩), .pointer (some ⟨r, 0, none⟩), vt'] 135 (0, 0))) (hn : newOr w vt vt') (ho : ownIds 0 w2 vt' told') :
    ∃ F', PairAt w2 gp F' x r vt' told' FP FR N sp P ∧ Keeps F F' w w2 := by
  have hP : ∀ k, FP k → w2.heap[k]? = w.heap[k]? := fun k hk => ht.other k (h.pr.lt k hk) fun hS => hS.elim (fun e => h.gpP (e ▸ hk)) fun e => h.vtP k e hk
  have hR : ∀ k, FR k → w2.heap[k]? = w.heap[k]? := fun k hk => ht.other k (h.rf.lt k hk) fun hS => hS.elim (fun e => h.gpR (e ▸ hk)) fun e => h.vtR k e hk
  have hvt : ∀ (Q : Nat → Prop), (∀ k, vt.ownBlock = some k → ¬ Q k) → (∀ k, Q k → k < w.heap.size) → ∀ k, vt'.ownBlock = some k → ¬ Q k := fun Q h1 h2 k hk hq => by
    rcases hn with hn | hn
    · rw [hn] at hk; exact h1 k hk hq
    · have := hn k hk; have := h2 k hq; omega
  refine ⟨fun k => F k ∨ (w.heap.size ≤ k ∧ k < w2.heap.size), ⟨hb, ho, h.pr.keepF ht.size hP, h.rf.keep ht.size hR, fun k hk => .inl (h.fp k hk), fun k hk => .inl (h.fr k hk), .inl h.fg, fun k hk => ?_, h.dis, h.gpP, h.gpR, hvt FP h.vtP h.pr.lt, hvt FR h.vtR h.rf.lt, ?_⟩, ?_⟩
  · rcases hn with hn | hn
    · rw [hn] at hk; exact .inl (h.ft k hk)
    · exact .inr ⟨hn k hk, (World.ownsRow.lt ho k hk).2⟩
  · intro k hk
    rcases hk with hk | hk
    · exact Nat.lt_of_lt_of_le (h.lt k hk) ht.size
    · exact hk.2
  · exact ⟨ht.os, ht.tape, ht.output, ht.size, fun k hk hF => ht.other k hk fun hS => hF (hS.elim (fun e => e ▸ h.fg) fun e => h.ft k e), fun k hk => hk.imp id (·.1)⟩

set_option maxRecDepth 1000000 in
set_option maxHeartbeats 2000000 in
theorem tells_err (w : World) (gp : Nat) (i1 i2 m : Int) (hm : m ≠ 0) :
    Calls Tryz.prog 96 #[.pointer (some ⟨gp, 0, none⟩), .agg #[.int .i64 i1, .int .i64 i2], .int .i64 m, .agg #[.int .i64 i1, .int .i64 i2], .int .i64 m] w fun e w' => e = .returned (.bool true) ∧ Below w.heap.size w w' := by
  have HB := hid (((Below.refl w.heap.size w).alloc (Nat.le_refl _) (.cells #[.int .i64 i1, .int .i64 i2] 36)).alloc (by simp) (.cells #[.int .i64 i1, .int .i64 i2] 36))
  have heq := run_idEq
  have hie : idEq i1 i2 i1 i2 = true := by simp [idEq]
  go_enter Tryz.func96, Tryz.ntmps96
  go_wp2
  go_ret
  exact ⟨rfl, HB.out⟩

section
set_option maxRecDepth 1000000 in
set_option maxHeartbeats 4000000 in
theorem tells_ok {w : World} {gp : Nat} {F : Nat → Prop} {x r : Nat} {vt : Value} {told : List PId} {FP FR : Nat → Prop} {N sp : Nat} {P : Nat → List POp} (h : PairAt w gp F x r vt told FP FR N sp P) (i1 i2 : Int) (hl : told.length < 3000000000000) :
    Calls Tryz.prog 96 #[.pointer (some ⟨gp, 0, none⟩), .agg #[.int .i64 i1, .int .i64 i2], .int .i64 0, .agg #[.int .i64 i1, .int .i64 i2], .int .i64 0] w fun e w' => e = .returned (.bool true) ∧ ∃ F' vt', PairAt w' gp F' x r vt' (told ++ [(i1, i2)]) FP FR N sp P ∧ Keeps F F' w w' := by
  have HB := hid (((Below.refl w.heap.size w).alloc (Nat.le_refl _) (.cells #[.int .i64 i1, .int .i64 i2] 36)).alloc (by simp) (.cells #[.int .i64 i1, .int .i64 i2] 36)).drew
  have heq := run_idEq
  have hie : idEq i1 i2 i1 i2 = true := by simp [idEq]
  obtain ⟨a, c, rfl, hc1, hc2, hf⟩ := owns_form h.told
  clear hf
  unfold maxLen at hc2
  obtain ⟨c0, c1, c2⟩ := blk3 h.blk
  clear c0 c1
  have hgl := blk_lt h.blk
  have hn0 := World.new_ne w ⟨gp, 2, none⟩ c2
  have hn1 : w.heap.size + 1 ≠ gp := by omega
  have hn2 : w.heap.size + 1 + 1 ≠ gp := by omega
  have HNP := hid (show some gp ≠ (Value.slice a told.length c).ownBlock from fun e => by
    obtain ⟨cur, hc⟩ := own_type h.told e.symm
    exact absurd (cells_type hc h.blk) (by decide))
  have HH := hid h; clear h
  have HO3 := hid (show ownIds 0 (((w.alloc (.cells #[.int .i64 i1, .int .i64 i2] 36)).alloc (.cells #[.int .i64 i1, .int .i64 i2] 36)).alloc (.cells #[.int .i64 i1, .int .i64 i2] 36)).drew (.slice a told.length c) told from owns_keep HH.out.told (by go_grown))
  have HC3 := hid (show ∀ j u, (idC (i1, i2))[j]? = some u → (((w.alloc (.cells #[.int .i64 i1, .int .i64 i2] 36)).alloc (.cells #[.int .i64 i1, .int .i64 i2] 36)).alloc (.cells #[.int .i64 i1, .int .i64 i2] 36)).drew.cell? ⟨w.heap.size + 1 + 1, j, none⟩ = some u from by
    have hb : (((w.alloc (.cells #[.int .i64 i1, .int .i64 i2] 36)).alloc (.cells #[.int .i64 i1, .int .i64 i2] 36)).alloc (.cells #[.int .i64 i1, .int .i64 i2] 36)).drew.heap[w.heap.size + 1 + 1]? = some (.cells #[.int .i64 i1, .int .i64 i2] 36 (0, 0)) := blk_at (by simp)
    exact cells_ids (blk2 hb).1 (blk2 hb).2)
  have HB3 := hid (show Below w.heap.size w (((w.alloc (.cells #[.int .i64 i1, .int .i64 i2] 36)).alloc (.cells #[.int .i64 i1, .int .i64 i2] 36)).alloc (.cells #[.int .i64 i1, .int .i64 i2] 36)).drew by go_grown)
  have HX3 := hid (blk_keep HH.out.blk HB3.out)
  have c2a : (((w.alloc (.cells #[.int .i64 i1, .int .i64 i2] 36)).alloc (.cells #[.int .i64 i1, .int .i64 i2] 36)).alloc (.cells #[.int .i64 i1, .int .i64 i2] 36)).cell? ⟨gp, 2, none⟩ = some (.slice a told.length c) := (blk3 HX3.out).2.2
  have HBA := hid (show (((w.alloc (.cells #[.int .i64 i1, .int .i64 i2] 36)).alloc (.cells #[.int .i64 i1, .int .i64 i2] 36)).alloc (.cells #[.int .i64 i1, .int .i64 i2] 36)).drew.heap[w.heap.size]? = some (.cells #[.int .i64 i1, .int .i64 i2] 36 (0, 0)) from (alloc_ne (by simp; omega)).trans ((alloc_ne (by simp)).trans (blk_new w _)))
  have HBB := hid (show (((w.alloc (.cells #[.int .i64 i1, .int .i64 i2] 36)).alloc (.cells #[.int .i64 i1, .int .i64 i2] 36)).alloc (.cells #[.int .i64 i1, .int .i64 i2] 36)).drew.heap[w.heap.size + 1]? = some (.cells #[.int .i64 i1, .int .i64 i2] 36 (0, 0)) from (alloc_ne (by simp)).trans (blk_at (by simp)))
  go_enter Tryz.func96, Tryz.ntmps96
  go_wp2_with fail
  go_region_law (first
    | (refine step_app idC 2 16 65 36 (.agg #[.int .i64 0, .int .i64 0]) (by kernel_rfl) Tryz.underlying65 rfl (by omega) (fun _ => rfl) (by rfl) (.tmp 17) (.tmp 19) (by rfl) 0 (.slice a told.length c) told (by rfl) HO3.out (w.heap.size + 1 + 1) 1 (i1, i2) (by rfl) HC3.out wf_ids (by omega) (by unfold maxLen; omega) (Nat.zero_le _) ?_; intro v4 w4 ho4 hg4 hn4; have HO4 := hid ho4; have HG4 := hid hg4; have HN4 := hid hn4; have HX4 := hid ((hg4.block gp (by simp; omega) HNP.out).trans HX3.out); have hvl : ∀ k, (Value.slice a told.length c).ownBlock = some k → k < w.heap.size := (fun k hk => (World.ownsRow.lt HH.out.told k hk).2); have HA4 := hid ((hg4.block w.heap.size (by simp; omega) (fun e => by have := hvl _ e.symm; omega)).trans HBA.out); have HE4 := hid ((hg4.block (w.heap.size + 1) (by simp) (fun e => by have := hvl _ e.symm; omega)).trans HBB.out); clear ho4 hg4 hn4 hvl; obtain ⟨a4, n4c, rfl, hl4, hc4, hf4⟩ := owns_form HO4.out; clear hl4 hc4 hf4; replace c2 := (blk3 HX4.out).2.2; have hfz4 := blk_fz HX4.out 2; have g4 := blk_lt HX4.out; have q0 := (blk2 HA4.out).1; have q1 := (blk2 HA4.out).2; have q2 := (blk2 HE4.out).1; have q3 := (blk2 HE4.out).2; have hq1 : gp ≠ w.heap.size := (by omega); have hq2 : gp ≠ w.heap.size + 1 := (by omega)))
  all_goals go_wp2
  all_goals go_ret
  all_goals (
    have hne4 : (Value.slice a4 (told.length + 1) n4c).ownBlock ≠ some gp := fun e => by
      obtain ⟨cur, hc⟩ := own_type HO4.out e
      exact absurd (cells_type hc HX4.out) (by decide)
    have ht4 : Turned (fun k => k = gp ∨ (Value.slice a told.length c).ownBlock = some k) w w4 := (Turned.of_below HB3.out).trans (Turned.of_grown HG4.out fun k hk => .inr hk)
    have ht5 := ht4.trans (Turned.setC (w := w4) (g := gp) (o := 2) (.slice a4 (told.length + 1) n4c) (.inl rfl))
    obtain ⟨F', h1, h2⟩ := HH.out.retold (told' := told ++ [(i1, i2)]) ht5 (set3_2 HX4.out) (HN4.out.mono HB3.out.size) (by
      have := row_other HO4.out hne4 (o := 2) (.slice a4 (told.length + 1) n4c)
      unfold ownIds
      rw [List.length_append]
      exact this)
    exact ⟨rfl, F', _, h1, h2⟩)
end

end Go.Proofs.YtnkpogjiiohapaaGreatDoor
