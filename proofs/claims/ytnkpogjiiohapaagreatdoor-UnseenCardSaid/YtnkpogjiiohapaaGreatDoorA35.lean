/- Our own text (GTxtB, GTxtC, GTxtD, GTxtE). -/
import Derived.Test.YtnkpogjiiohapaaGreatDoorA34
set_option linter.unusedSimpArgs false
set_option linter.unusedVariables false

/-! GTxtB: The text in general: a value, the values of a place. -/
namespace Go.Proofs.YtnkpogjiiohapaaGreatDoor
open Go.RowKit

def isVal3G (w : World) (v : Value) (l : List PVal) : Prop := w.ownsRow 0 57 3 v l.length (l.flatMap valC)
theorem isVal3G.cells {w : World} {g n cap : Nat} {l : List PVal} (h : isVal3G w (.slice (some ⟨g, 0, none⟩) n cap) l) (hn : n = l.length) (i : Nat) (hi : i < l.length) :
    w.cell? ⟨g, i * 3, none⟩ = some (.int .i64 l[i].1) ∧ w.cell? ⟨g, i * 3 + 1, none⟩ = some (.int .i64 l[i].2.1) ∧ w.cell? ⟨g, i * 3 + 2, none⟩ = some (.int .i64 l[i].2.2) := by
  subst hn
  have hc := fun j (hj : j < 3) => owns_cell (f := valC) (k := 3) (fun _ => rfl) h rfl i hi j hj
  refine ⟨?_, ?_, ?_⟩
  · exact hc 0 (by omega)
  · exact hc 1 (by omega)
  · exact hc 2 (by omega)

set_option maxRecDepth 1000000 in
set_option maxHeartbeats 1000000 in
theorem valueText_g {w : World} {d bo be : Nat} {D : QDoc} {R : List PObj} {r : Nat} (h : TxtG w d bo be D R) (hr : r ≤ 3) (ih : ObjTg w d R r) (x : PHeld) (hn : intOk x.num) (ho : ∃ o, objOf R x.obj = some o) :
    Calls Tryz.prog 184 #[.pointer (some ⟨d, 0, none⟩), .agg #[.int .i64 x.num, .int .i64 x.obj.1, .int .i64 x.obj.2], .int .i64 (4 - (r : Int))] w fun e w' => e = .returned (.string (itemText (textG R r) x)) ∧ Below w.heap.size w w' := by
  obtain ⟨o, ho⟩ := ho
  have HB := hid ((Below.refl w.heap.size w).alloc (Nat.le_refl _) (.cells #[.int .i64 x.num, .int .i64 x.obj.1, .int .i64 x.obj.2] 57))
  have HI := hid (itoa_q x.num hn (h.pow.keep HB.out))
  have HO := hid (ih _ HB.out x.obj o ho)
  clear h ih ho
  unfold itemText
  have heq := run_idEq
  cases he : idEq x.obj.1 x.obj.2 0 0
  · have hw : IntKind.i64.wrap (4 - (r : Int) + 1) = 5 - (r : Int) := by rw [Go.IntWalk.i64_in _ (by omega)]; omega
    have hs : (4 - (r : Int)) + 1 = 5 - (r : Int) := by omega
    go_enter Tryz.func184, Tryz.ntmps184
    go_wp2_with fail
    refine HO.out.mono ?_
    rintro e w1 ⟨rfl, hb1⟩
    have HB1 := hid (HB.out.trans (hb1.mono HB.out.size)); clear hb1
    go_wp2
    go_ret
    exact ⟨by simp, HB1.out⟩
  · go_enter Tryz.func184, Tryz.ntmps184
    go_wp2_with fail
    refine HI.out.mono ?_
    rintro e w1 ⟨rfl, hb1⟩
    have HB1 := hid (HB.out.trans (hb1.mono HB.out.size)); clear hb1
    go_wp2
    go_ret
    exact ⟨by simp, HB1.out⟩

theorem below_grownG {B : Nat} {w0 w w' : World} {o : Obj} {row : Option Nat} (h : Below B w0 w) (hg : (w.alloc o).grownBy w' row) (hB : B ≤ w.heap.size) (hr : ∀ k, row = some k → B ≤ k) : Below B w0 w' :=
  (h.alloc hB o).grown hg (by simp; omega) hr

set_option maxRecDepth 1000000 in
set_option maxHeartbeats 2000000 in
/-- THE VALUES OF A PLACE. -/
theorem valuesText_g {w : World} {d bo be : Nat} {D : QDoc} {R : List PObj} {r : Nat} (h : TxtG w d bo be D R) (hr : r ≤ 3) (ih : ObjTg w d R r) (o1 o2 e1 e2 : Int) (key : ByteArray) (hs0 : List PHeld) (hN : hs0.length ≤ 10000) (hat : (atPl D.1 D.2 (o1, o2) key (e1, e2)).vs.Perm (hs0.map hpair)) (hnd : ((atPl D.1 D.2 (o1, o2) key (e1, e2)).vs.map (·.1)).Nodup) (hnum : ∀ x ∈ hs0, intOk x.num) (hobj : ∀ x ∈ hs0, ∃ o, objOf R x.obj = some o) (hsz : (valsG (textG R r) hs0).size ≤ 1000000000000) :
    Calls Tryz.prog 167 #[.pointer (some ⟨d, 0, none⟩), .agg #[.int .i64 o1, .int .i64 o2, .string key, .int .i64 e1, .int .i64 e2], .int .i64 (4 - (r : Int))] w fun e w' => e = .returned (.string (valsG (textG R r) hs0)) ∧ Below w.heap.size w w' := by
  have HB := hid ((Below.refl w.heap.size w).alloc (Nat.le_refl _) (.cells #[.int .i64 o1, .int .i64 o2, .string key, .int .i64 e1, .int .i64 e2] 97))
  have HV := hid (show Calls Tryz.prog 49 #[.pointer (some ⟨d, 0, none⟩), .agg #[.int .i64 o1, .int .i64 o2, .string key, .int .i64 e1, .int .i64 e2]] (w.alloc (.cells #[.int .i64 o1, .int .i64 o2, .string key, .int .i64 e1, .int .i64 e2] 97)) fun e w' => ∃ u, e = .returned u ∧ ownVals (w.alloc (.cells #[.int .i64 o1, .int .i64 o2, .string key, .int .i64 e1, .int .i64 e2] 97)).heap.size w' u ((hsG hs0).map valOf) ∧ Below (w.alloc (.cells #[.int .i64 o1, .int .i64 o2, .string key, .int .i64 e1, .int .i64 e2] 97)).heap.size (w.alloc (.cells #[.int .i64 o1, .int .i64 o2, .string key, .int .i64 e1, .int .i64 e2] 97)) w' from by
    refine (qvalues_any (h.q.keep HB.out) o1 o2 e1 e2 key (by rw [hat.length_eq, List.length_map]; exact hN) hnd).mono ?_
    rintro e w' ⟨u, vs', h1, h2, h3, h4, h5⟩
    rw [hsG_eq (h2.trans hat) h3, List.map_map] at h4
    exact ⟨u, h1, h4, h5⟩)
  rw [← hsG_len] at hN
  replace hnum : ∀ x ∈ hsG hs0, intOk x.num := fun x hx => hnum x (hsG_mem.1 hx)
  replace hobj : ∀ x ∈ hsG hs0, ∃ o, objOf R x.obj = some o := fun x hx => hobj x (hsG_mem.1 hx)
  unfold valsG at hsz ⊢
  clear hat hnd
  generalize hsG hs0 = hs at *
  have HVT := hid (fun W (hb : Below w.heap.size w W) x (hx : x ∈ hs) => valueText_g (h.keep hb) hr (ih.keep hb) x (hnum x hx) (hobj x hx))
  have HSZ := hid hsz
  clear h ih hnum hobj hsz
  go_enter Tryz.func167, Tryz.ntmps167
  go_wp2_with fail
  refine HV.out.mono ?_
  rintro e w1 ⟨u, rfl, hu, hb1⟩
  have HB1 := hid (HB.out.trans (hb1.mono HB.out.size)); clear hb1
  have hz1 := HB1.out.size
  have HU := hid (show isVal3G w1 u (hs.map valOf) from owns_mono hu (Nat.zero_le _))
  have HUG := hid (World.ownsRow.lt hu)
  obtain ⟨ua, uc, rfl, hul, hum, huf⟩ := owns_form hu
  clear hu
  unfold maxLen at hum
  rw [List.length_map] at hul
  clear HV HUG
  go_wp2_with fail
  go_loopw [7, 14] (fun u i wr => ∃ k : Nat, k ≤ hs.length ∧ i = .int .i64 k ∧ ownStrs w1.heap.size wr u ((hs.take k).map (itemText (textG R r))) ∧ Below w1.heap.size w1 wr) (fun _ i _ => hs.length - (intOf i).toNat)
  case atStart => exact ⟨0, Nat.zero_le _, rfl, World.ownsRow_nil _ _ _ _, Below.refl _ _⟩
  case round =>
    obtain ⟨k, hk, rfl, hown, hbel⟩ := hrel
    have hbz := hbel.size
    have HBW := hid (HB1.out.trans (hbel.mono hz1))
    by_cases hlt : k < hs.length
    · obtain ⟨g, rfl⟩ := huf k (by simpa using hlt)
      obtain ⟨c0, c1, c2⟩ := isVal3G.cells HU.out (by simp) k (by simpa using hlt)
      simp only [List.getElem_map, valOf] at c0 c1 c2
      replace c0 := keep hbel c0
      replace c1 := keep hbel c1
      replace c2 := keep hbel c2
      have hgl := World.block_lt_of_cell? wr _ c0
      have hk1 : (k : Int) < (hs.length : Int) := by omega
      have HO := hid hown; clear hown
      have HBE := hid hbel; clear hbel
      have HBA := hid (show Below wr.heap.size wr (wr.alloc (.cells #[.int .i64 hs[k].num, .int .i64 hs[k].obj.1, .int .i64 hs[k].obj.2] 57)) from (Below.refl _ wr).alloc (Nat.le_refl _) _)
      have HCV := hid (HVT.out _ (HBW.out.trans (HBA.out.mono HBW.out.size)) hs[k] (List.getElem_mem hlt))
      go_wp2_with fail
      refine HCV.out.mono ?_
      rintro e w2 ⟨rfl, hb2⟩
      have HB2 := hid (HBA.out.trans (hb2.mono HBA.out.size)); clear hb2
      have hz2 := HB2.out.size
      have HO2 := hid (show ownStrs w1.heap.size w2 _ ((hs.take k).map (itemText (textG R r))) from owns_keep HO.out HB2.out)
      have hll : ((hs.take k).map (itemText (textG R r))).length = k := by rw [List.length_map, List.length_take]; omega
      go_wp2_with (at_builtin; go_must (refine app_str rfl (.tmp 18) (.tmp 23) rfl w1.heap.size _ ((hs.take k).map (itemText (textG R r))) rfl ?h1 w2.heap.size 1 (itemText (textG R r) hs[k]) rfl ?h2 ?h4 ?h5 ?_; (case h1 => exact World.ownsRow.alloc HO2.out _); (case h2 => exact blk1' (blk_new w2 _)); (case h4 => omega); (case h5 => simp; omega); intro v' w3 hown3 hg3; have HG3 := hid hg3; clear hg3; have HN3 := hid hown3; clear hown3))
      go_roundw
      case rel =>
        have hb3 : Below w1.heap.size w1 w3 := below_grownG (HBE.out.trans (HB2.out.mono HBE.out.size)) (o := .cells #[.string (itemText (textG R r) hs[k])] 9) HG3.out (by omega) fun g hg => (World.ownsRow.lt HO2.out g hg).1
        exact ⟨k + 1, by omega, by go_num, by rw [take_map_succ _ hlt]; exact HN3.out, hb3⟩
      case measure => simp [intOf]; omega
    · have hke : k = hs.length := by omega
      subst hke
      rw [List.take_of_length_le (Nat.le_refl _)] at hown
      have HJ := hid (join_q hown bar (by rw [List.length_map]; omega) (Nat.le_trans HSZ.out (by omega)))
      clear hown
      go_wp2_with fail
      refine HJ.out.mono ?_
      rintro e w2 ⟨rfl, hb2⟩
      have HB2 := hid (HBW.out.trans (hb2.mono HBW.out.size)); clear hb2
      go_wp2
      go_ret
      exact ⟨rfl, HB2.out⟩

end Go.Proofs.YtnkpogjiiohapaaGreatDoor

/-! GTxtC: The text in general: a list. -/
namespace Go.Proofs.YtnkpogjiiohapaaGreatDoor
open Go.RowKit

theorem nd_at {D : QDoc} (h : QNd D) (ob : PId) (key : ByteArray) (el : PId) : ((atPl D.1 D.2 ob key el).vs.map (·.1)).Nodup := by
  unfold atPl
  split
  · split
    · split
      · rename_i e he
        exact h.ev _ (look_mem he)
      · exact List.nodup_nil
    · split
      · rename_i ob' hob
        split
        · rename_i ck hck
          exact h.kv _ (look_mem hob) _ (look_mem hck)
        · exact List.nodup_nil
      · exact List.nodup_nil
  · exact List.nodup_nil

set_option maxRecDepth 1000000 in
set_option maxHeartbeats 2000000 in
theorem listText_g {w : World} {d bo be : Nat} {D : QDoc} {R : List PObj} {r : Nat} (h : TxtG w d bo be D R) (hr : r ≤ 3) (ih : ObjTg w d R r) (x : PId) {o : PObj} (ho : objOf R x = some o) (hl : o.list = true) :
    Calls Tryz.prog 140 #[.pointer (some ⟨d, 0, none⟩), .agg #[.int .i64 x.1, .int .i64 x.2], .int .i64 (4 - (r : Int))] w fun e w' => e = .returned (.string (objG (textG R r) o.list (ordP o))) ∧ Below w.heap.size w w' := by
  have HB := hid ((Below.refl w.heap.size w).alloc (Nat.le_refl _) (.cells #[.int .i64 x.1, .int .i64 x.2] 36))
  have HX0 := hid (blk_new w (.cells #[.int .i64 x.1, .int .i64 x.2] 36))
  obtain ⟨ob, hob, hag⟩ := h.ag.o1 x o ho
  have hol : o.ss.length ≤ 10000 := h.cnt x o ho
  have HE := hid (show Calls Tryz.prog 57 #[.pointer (some ⟨d, 0, none⟩), .agg #[.int .i64 x.1, .int .i64 x.2]] (w.alloc (.cells #[.int .i64 x.1, .int .i64 x.2] 36)) _ from elements_q (h.q.keep HB.out) x.1 x.2 hob (hag.list.trans hl) (hag.chain hl) (by rw [List.length_map]; omega))
  rw [seenG hag hl, show pseen o = (o.ss.filter seenS).map PSlot.id from rfl] at HE
  -- each slot's text
  have HVT := hid (show ∀ s ∈ o.ss, ∀ W, Below w.heap.size w W → Calls Tryz.prog 167 #[.pointer (some ⟨d, 0, none⟩), .agg #[.int .i64 x.1, .int .i64 x.2, .string ⟨#[]⟩, .int .i64 s.id.1, .int .i64 s.id.2], .int .i64 (4 - (r : Int))] W fun e w' => e = .returned (.string (slotG (textG R r) o.list s)) ∧ Below W.heap.size W w' from fun s hs W hb => by
    have hk := (hag.elems hl s hs).1
    have hhe : heldsAt o ⟨#[]⟩ s.id = s.hs := hag.heldsOf hs (slotIs_true.2 ⟨hk, rfl⟩)
    have hp := (h.ag.atE ho hl (List.mem_map.2 ⟨s, hs, rfl⟩)).2
    rw [hhe] at hp
    have := valuesText_g (h.keep hb) hr (ih.keep hb) x.1 x.2 s.id.1 s.id.2 ⟨#[]⟩ s.hs (h.vl x o ho s hs).1 hp (nd_at h.nd _ _ _) (h.nums x o ho s hs) (h.objs x o ho s hs) ((h.sz r hr x o ho).2 s hs)
    unfold slotG
    rw [hl]
    exact this)
  have hbs := (h.sz r hr x o ho).1
  have hbj : bodyG (textG R r) o.list (ordP o) = joinB comma ((o.ss.filter seenS).map (slotG (textG R r) o.list)) := by
    have ho' : ordP o = o.ss := by unfold ordP; rw [hl]; rfl
    rw [ho']
    rfl
  have HJS := hid (show (joinB comma ((o.ss.filter seenS).map (slotG (textG R r) o.list))).size ≤ 140737488355328 by rw [← hbj]; omega)
  have HBJ := hid hbj
  have hfl : (o.ss.filter seenS).length ≤ 10000 := Nat.le_trans (List.length_filter_le _ _) hol
  have HFM := hid (show ∀ s ∈ o.ss.filter seenS, s ∈ o.ss from fun s hs => (List.mem_filter.1 hs).1)
  have HOL := hid hl
  clear h ih hob hag hol hbs hbj ho hl
  generalize hL : o.ss.filter seenS = L at *
  clear hL
  go_enter Tryz.func140, Tryz.ntmps140
  go_wp2_with fail
  refine HE.out.mono ?_
  rintro e w1 ⟨u, rfl, hu, hb1⟩
  have HX1 := hid (blk_keep HX0.out hb1)
  have HB1 := hid (HB.out.trans (hb1.mono HB.out.size)); clear hb1
  have hz1 := HB1.out.size
  have HU := hid (show isIds w1 u (L.map PSlot.id) from hu.ids)
  obtain ⟨ua, uc, rfl, hul, hum, huf⟩ := owns_form hu
  clear hu HE
  unfold maxLen at hum
  rw [List.length_map] at hul
  go_wp2_with fail
  go_loopw [7, 14] (fun u i wr => ∃ k : Nat, k ≤ L.length ∧ i = .int .i64 k ∧ ownStrs w1.heap.size wr u ((L.take k).map (slotG (textG R r) o.list)) ∧ Below w1.heap.size w1 wr) (fun _ i _ => L.length - (intOf i).toNat)
  case atStart => exact ⟨0, Nat.zero_le _, rfl, World.ownsRow_nil _ _ _ _, Below.refl _ _⟩
  case round =>
    obtain ⟨k, hk, rfl, hown, hbel⟩ := hrel
    have hbz := hbel.size
    have HBW := hid (HB1.out.trans (hbel.mono hz1))
    by_cases hlt : k < L.length
    · obtain ⟨g, rfl⟩ := huf k (by simpa using hlt)
      obtain ⟨c0, c1⟩ := isIds.cells HU.out (by simp) k (by simpa using hlt)
      simp only [List.getElem_map] at c0 c1
      replace c0 := keep hbel c0
      replace c1 := keep hbel c1
      have HX2 := hid (blk_keep HX1.out hbel)
      obtain ⟨b0, b1⟩ := blk2 HX2.out
      have hbl := blk_lt HX2.out
      have hgl := World.block_lt_of_cell? wr _ c0
      have hk1 : (k : Int) < (L.length : Int) := by omega
      have HO := hid hown; clear hown
      have HBE := hid hbel; clear hbel
      have HBA := hid (show Below wr.heap.size wr (wr.alloc (.cells #[.int .i64 L[k].id.1, .int .i64 L[k].id.2] 36)) from (Below.refl _ wr).alloc (Nat.le_refl _) _)
      go_wp2_with fail
      refine (elementOf_q _ _ _ _ _).mono ?_
      rintro e w2 ⟨rfl, hb2⟩
      have HB2 := hid (HBA.out.trans (hb2.mono HBA.out.size)); clear hb2
      have HCV := hid (HVT.out L[k] (HFM.out _ (List.getElem_mem hlt)) w2 (HBW.out.trans (HB2.out.mono HBW.out.size)))
      go_wp2_with fail
      refine HCV.out.mono ?_
      rintro e w3 ⟨rfl, hb3⟩
      have HB3 := hid (HB2.out.trans (hb3.mono HB2.out.size)); clear hb3
      have hz3 := HB3.out.size
      have HO3 := hid (show ownStrs w1.heap.size w3 _ ((L.take k).map (slotG (textG R r) o.list)) from owns_keep HO.out HB3.out)
      have hll : ((L.take k).map (slotG (textG R r) o.list)).length = k := by rw [List.length_map, List.length_take]; omega
      go_wp2_with (at_builtin; go_must (refine app_str rfl (.tmp 18) (.tmp 25) rfl w1.heap.size _ ((L.take k).map (slotG (textG R r) o.list)) rfl ?h1 w3.heap.size 1 (slotG (textG R r) o.list L[k]) rfl ?h2 ?h4 ?h5 ?_; (case h1 => exact World.ownsRow.alloc HO3.out _); (case h2 => exact blk1' (blk_new w3 _)); (case h4 => omega); (case h5 => simp; omega); intro v' w4 hown4 hg4; have HG4 := hid hg4; clear hg4; have HN4 := hid hown4; clear hown4))
      go_roundw
      case rel =>
        have hb4 : Below w1.heap.size w1 w4 := below_grownG (HBE.out.trans (HB3.out.mono HBE.out.size)) (o := .cells #[.string (slotG (textG R r) o.list L[k])] 9) HG4.out (by omega) fun g hg => (World.ownsRow.lt HO3.out g hg).1
        exact ⟨k + 1, by omega, by go_num, by rw [take_map_succ _ hlt]; exact HN4.out, hb4⟩
      case measure => simp [intOf]; omega
    · have hke : k = L.length := by omega
      subst hke
      rw [List.take_of_length_le (Nat.le_refl _)] at hown
      have HJ := hid (join_q hown comma (by rw [List.length_map]; omega) HJS.out)
      clear hown
      go_wp2_with fail
      refine HJ.out.mono ?_
      rintro e w2 ⟨rfl, hb2⟩
      have HB2 := hid (HBW.out.trans (hb2.mono HBW.out.size)); clear hb2
      have hjz := HJS.out
      clear HJ
      go_wp2
      go_ret
      refine ⟨ret_str ?_, HB2.out⟩
      unfold objG
      rw [HBJ.out, HOL.out, if_pos rfl]

end Go.Proofs.YtnkpogjiiohapaaGreatDoor

/-! GTxtD: The text in general: a map. -/
namespace Go.Proofs.YtnkpogjiiohapaaGreatDoor
open Go.RowKit

/-- The keys that can be seen, in their order. -/
theorem keys_sortedG {R : List PObj} {D : QDoc} {x : PId} {o : PObj} {ob : CQObj} (hnd : QNd D) (hob : lookI x D.1 = some ob) (hag : ObjAg D.2 x o ob) (hl : o.list = false) : srtB (seenKeys ob.ks) = ((sortP o.ss).filter seenS).map PSlot.key := by
  have hkn : (ob.ks.map (·.1)).Nodup := hnd.ks _ (look_mem hob)
  have hone := hag.kone hl
  have hkeys := hag.keys hl
  have hheld : ∀ s ∈ o.ss, heldsAt o s.key (0, 0) = s.hs := fun s hs => hag.heldsOf hs (slotIs_true.2 ⟨rfl, (hkeys s hs).2⟩)
  have hlook : ∀ key c, (key, c) ∈ ob.ks → c.vs.length = (heldsAt o key (0, 0)).length := fun key c hc => by
    have := hag.kval hl key
    rw [look_of_mem hkn hc] at this
    have := this.length_eq
    rw [List.length_map] at this
    exact this
  have hsl := List.mergeSort_perm o.ss slotLe
  have hnodS : ((sortP o.ss).map PSlot.key).Nodup := ((hsl.map PSlot.key).nodup_iff).2 hone
  apply srtB_eq
  · rw [List.perm_ext_iff_of_nodup]
    · intro key
      unfold seenKeys
      constructor
      · intro hm
        obtain ⟨⟨k, c⟩, hc, rfl⟩ := List.mem_map.1 hm
        obtain ⟨hc1, hc2⟩ := List.mem_filter.1 hc
        have h1 := hlook k c hc1
        have h2 : 0 < c.vs.length := by simpa using hc2
        rw [h1] at h2
        obtain ⟨h, hh⟩ := List.exists_mem_of_length_pos h2
        obtain ⟨s, hs, hsi, hse⟩ := helds_mem hh
        refine List.mem_map.2 ⟨s, List.mem_filter.2 ⟨hsl.mem_iff.2 hs, ?_⟩, (slotIs_true.1 hsi).1⟩
        unfold seenS
        rw [hse]; simpa using h2
      · intro hm
        obtain ⟨s, hs, rfl⟩ := List.mem_map.1 hm
        obtain ⟨hs1, hs2⟩ := List.mem_filter.1 hs
        have hs3 : s ∈ o.ss := hsl.mem_iff.1 hs1
        have h2 : 0 < s.hs.length := by unfold seenS at hs2; simpa using hs2
        have := hag.kval hl s.key
        rw [hheld s hs3] at this
        cases hlk : lookI s.key ob.ks with
        | none =>
          rw [hlk] at this
          have := this.length_eq
          rw [List.length_map] at this
          simp at this
          omega
        | some c =>
          rw [hlk] at this
          have hle := this.length_eq
          rw [List.length_map] at hle
          refine List.mem_map.2 ⟨(s.key, c), List.mem_filter.2 ⟨look_mem hlk, ?_⟩, rfl⟩
          have : c.vs.length = s.hs.length := hle
          simp only [this]
          simpa using h2
    · exact (List.filter_sublist.map _).nodup hkn
    · exact (List.filter_sublist.map _).nodup hnodS
  · rw [List.pairwise_map]
    refine List.Pairwise.filter _ ?_
    have h1 : (sortP o.ss).Pairwise fun a b => slotLe a b = true := List.pairwise_mergeSort (fun a b c h1 h2 => cslotLe_trans ⟨a.key, a.id, .slice none 0 0, a.hs⟩ ⟨b.key, b.id, .slice none 0 0, b.hs⟩ ⟨c.key, c.id, .slice none 0 0, c.hs⟩ h1 h2) (fun a b => cslotLe_total ⟨a.key, a.id, .slice none 0 0, a.hs⟩ ⟨b.key, b.id, .slice none 0 0, b.hs⟩) o.ss
    refine h1.imp fun {a b} h => less_le _ _ ?_
    unfold slotLe keyLess at h
    simpa using h

set_option maxRecDepth 1000000 in
set_option maxHeartbeats 2000000 in
theorem mapText_g {w : World} {d bo be : Nat} {D : QDoc} {R : List PObj} {r : Nat} (h : TxtG w d bo be D R) (hr : r ≤ 3) (ih : ObjTg w d R r) (x : PId) {o : PObj} (ho : objOf R x = some o) (hl : o.list = false) :
    Calls Tryz.prog 141 #[.pointer (some ⟨d, 0, none⟩), .agg #[.int .i64 x.1, .int .i64 x.2], .int .i64 (4 - (r : Int))] w fun e w' => e = .returned (.string (objG (textG R r) o.list (ordP o))) ∧ Below w.heap.size w w' := by
  have HB := hid ((Below.refl w.heap.size w).alloc (Nat.le_refl _) (.cells #[.int .i64 x.1, .int .i64 x.2] 36))
  have HX0 := hid (blk_new w (.cells #[.int .i64 x.1, .int .i64 x.2] 36))
  obtain ⟨ob, hob, hag⟩ := h.ag.o1 x o ho
  have hol : o.ss.length ≤ 10000 := h.cnt x o ho
  have HE := hid (show Calls Tryz.prog 169 #[.pointer (some ⟨d, 0, none⟩), .agg #[.int .i64 x.1, .int .i64 x.2]] (w.alloc (.cells #[.int .i64 x.1, .int .i64 x.2] 36)) _ from keys_of (h.q.keep HB.out) x.1 x.2 hob (h.kl _ (look_mem hob)) srtB (fun W v l hv hvl => sort_q _ W v l hv hvl) srtB_cong)
  rw [keys_sortedG (R := R) h.nd hob hag hl] at HE
  have HVT := hid (show ∀ s ∈ o.ss, ∀ W, Below w.heap.size w W → Calls Tryz.prog 167 #[.pointer (some ⟨d, 0, none⟩), .agg #[.int .i64 x.1, .int .i64 x.2, .string s.key, .int .i64 0, .int .i64 0], .int .i64 (4 - (r : Int))] W fun e w' => e = .returned (.string (valsG (textG R r) s.hs)) ∧ Below W.heap.size W w' from fun s hs W hb => by
    have hk := hag.keys hl s hs
    have hhe : heldsAt o s.key (0, 0) = s.hs := hag.heldsOf hs (slotIs_true.2 ⟨rfl, hk.2⟩)
    have hp := (h.ag.atK ho hl hk.1 (0, 0)).2
    rw [hhe] at hp
    exact valuesText_g (h.keep hb) hr (ih.keep hb) x.1 x.2 0 0 s.key s.hs (h.vl x o ho s hs).1 hp (nd_at h.nd _ _ _) (h.nums x o ho s hs) (h.objs x o ho s hs) ((h.sz r hr x o ho).2 s hs))
  have HSZ := hid (show ∀ s ∈ o.ss, s.key.size ≤ 4 ∧ (valsG (textG R r) s.hs).size ≤ 1000000000000 from fun s hs => ⟨(h.vl x o ho s hs).2, (h.sz r hr x o ho).2 s hs⟩)
  have hbs := (h.sz r hr x o ho).1
  have hso : ordP o = sortP o.ss := by unfold ordP; rw [hl]; rfl
  have hbj : bodyG (textG R r) o.list (ordP o) = joinB comma (((sortP o.ss).filter seenS).map (slotG (textG R r) o.list)) := by rw [hso]; rfl
  have HJS := hid (show (joinB comma (((sortP o.ss).filter seenS).map (slotG (textG R r) o.list))).size ≤ 140737488355328 by rw [← hbj]; omega)
  have HBJ := hid hbj
  have hfl : ((sortP o.ss).filter seenS).length ≤ 10000 := Nat.le_trans (List.length_filter_le _ _) (by unfold sortP; rw [(List.mergeSort_perm o.ss slotLe).length_eq]; exact hol)
  have HFM := hid (show ∀ s ∈ (sortP o.ss).filter seenS, s ∈ o.ss from fun s hs => (List.mergeSort_perm o.ss slotLe).mem_iff.1 (List.mem_filter.1 hs).1)
  have HOL := hid hl
  have hsf : ∀ s, slotG (textG R r) o.list s = (s.key ++ colon) ++ valsG (textG R r) s.hs := fun s => by unfold slotG; rw [hl, if_neg (by decide)]
  have HSF := hid hsf
  clear h ih hob hag hol hbs hbj ho hl hso hsf
  generalize hL : (sortP o.ss).filter seenS = L at *
  clear hL
  go_enter Tryz.func141, Tryz.ntmps141
  go_wp2_with fail
  refine HE.out.mono ?_
  rintro e w1 ⟨u, rfl, hu, hb1⟩
  have HX1 := hid (blk_keep HX0.out hb1)
  have HB1 := hid (HB.out.trans (hb1.mono HB.out.size)); clear hb1
  have hz1 := HB1.out.size
  obtain ⟨ua, uc, rfl, hul, hum, huf⟩ := owns_form hu
  have HU := hid hu
  clear hu HE
  unfold maxLen at hum
  rw [List.length_map] at hul
  go_wp2_with fail
  go_loopw [7, 14] (fun u i wr => ∃ k : Nat, k ≤ L.length ∧ i = .int .i64 k ∧ ownStrs w1.heap.size wr u ((L.take k).map (slotG (textG R r) o.list)) ∧ Below w1.heap.size w1 wr) (fun _ i _ => L.length - (intOf i).toNat)
  case atStart => exact ⟨0, Nat.zero_le _, rfl, World.ownsRow_nil _ _ _ _, Below.refl _ _⟩
  case round =>
    obtain ⟨k, hk, rfl, hown, hbel⟩ := hrel
    have hbz := hbel.size
    have HBW := hid (HB1.out.trans (hbel.mono hz1))
    by_cases hlt : k < L.length
    · obtain ⟨g, rfl⟩ := huf k (by simpa using hlt)
      have c0 := strs_cells HU.out k L[k].key (by simp [hlt])
      rw [Nat.zero_add] at c0
      replace c0 := keep hbel c0
      have HX2 := hid (blk_keep HX1.out hbel)
      obtain ⟨b0, b1⟩ := blk2 HX2.out
      have hbl := blk_lt HX2.out
      have hgl := World.block_lt_of_cell? wr _ c0
      have hk1 : (k : Int) < (L.length : Int) := by omega
      have HO := hid hown; clear hown
      have HBE := hid hbel; clear hbel
      obtain ⟨hks, hvs⟩ := HSZ.out L[k] (HFM.out _ (List.getElem_mem hlt))
      go_wp2_with fail
      refine (keyOf_q _ _ _ _).mono ?_
      rintro e w2 ⟨rfl, hb2⟩
      have HB2 := hid hb2; clear hb2
      have HCV := hid (HVT.out L[k] (HFM.out _ (List.getElem_mem hlt)) w2 (HBW.out.trans (HB2.out.mono HBW.out.size)))
      go_wp2_with fail
      refine HCV.out.mono ?_
      rintro e w3 ⟨rfl, hb3⟩
      have HB3 := hid (HB2.out.trans (hb3.mono HB2.out.size)); clear hb3
      have hz3 := HB3.out.size
      have HO3 := hid (show ownStrs w1.heap.size w3 _ ((L.take k).map (slotG (textG R r) o.list)) from owns_keep HO.out HB3.out)
      have hll : ((L.take k).map (slotG (textG R r) o.list)).length = k := by rw [List.length_map, List.length_take]; omega
      go_wp2_with (at_builtin; go_must (refine app_str rfl (.tmp 18) (.tmp 28) rfl w1.heap.size _ ((L.take k).map (slotG (textG R r) o.list)) rfl ?h1 w3.heap.size 1 ((L[k].key ++ colon) ++ valsG (textG R r) L[k].hs) rfl ?h2 ?h4 ?h5 ?_; (case h1 => exact World.ownsRow.alloc HO3.out _); (case h2 => exact blk1' (blk_new w3 _)); (case h4 => omega); (case h5 => simp; omega); intro v' w4 hown4 hg4; have HG4 := hid hg4; clear hg4; have HN4 := hid hown4; clear hown4))
      go_roundw
      case rel =>
        have hb4 : Below w1.heap.size w1 w4 := below_grownG (HBE.out.trans (HB3.out.mono HBE.out.size)) HG4.out (by omega) fun g hg => (World.ownsRow.lt HO3.out g hg).1
        exact ⟨k + 1, by omega, by go_num, by rw [take_map_succ _ hlt, HSF.out L[k]]; exact HN4.out, hb4⟩
      case measure => simp [intOf]; omega
    · have hke : k = L.length := by omega
      subst hke
      rw [List.take_of_length_le (Nat.le_refl _)] at hown
      have HJ := hid (join_q hown comma (by rw [List.length_map]; omega) HJS.out)
      clear hown
      go_wp2_with fail
      refine HJ.out.mono ?_
      rintro e w2 ⟨rfl, hb2⟩
      have HB2 := hid (HBW.out.trans (hb2.mono HBW.out.size)); clear hb2
      have hjz := HJS.out
      clear HJ
      go_wp2
      go_ret
      refine ⟨ret_str ?_, HB2.out⟩
      unfold objG
      rw [HBJ.out, HOL.out, if_neg (by decide)]

end Go.Proofs.YtnkpogjiiohapaaGreatDoor

/-! GTxtE: The text in general: an object, the document; Show. -/
namespace Go.Proofs.YtnkpogjiiohapaaGreatDoor
open Go.RowKit
attribute [local go_sem ↓] Go.wp_at_zero Go.wp_at_succ

set_option maxRecDepth 1000000 in
set_option maxHeartbeats 2000000 in
theorem objectText_g {d bo be : Nat} {D : QDoc} {R : List PObj} : ∀ (r : Nat), r ≤ 4 → ∀ w, TxtG w d bo be D R → ObjTg w d R r := by
  intro r
  induction r with
  | zero =>
    intro _ w h W hb x o ho
    have HB := hid ((Below.refl W.heap.size W).alloc (Nat.le_refl _) (.cells #[.int .i64 x.1, .int .i64 x.2] 36))
    have h5 : (5 : Int) - ((0 : Nat) : Int) = 5 := by omega
    rw [h5]
    clear h ho
    go_enter Tryz.func88, Tryz.ntmps88
    go_wp2
    go_ret
    exact ⟨rfl, HB.out⟩
  | succ r ih =>
    intro hr w h W hb x o ho
    have HB := hid ((Below.refl W.heap.size W).alloc (Nat.le_refl _) (.cells #[.int .i64 x.1, .int .i64 x.2] 36))
    have HX0 := hid (blk_new W (.cells #[.int .i64 x.1, .int .i64 x.2] 36))
    have h5 : (5 : Int) - ((r + 1 : Nat) : Int) = 4 - (r : Int) := by omega
    rw [h5]
    have hW := h.keep hb
    have HIL := hid (show Calls Tryz.prog 90 #[.pointer (some ⟨d, 0, none⟩), .agg #[.int .i64 x.1, .int .i64 x.2]] (W.alloc (.cells #[.int .i64 x.1, .int .i64 x.2] 36)) fun e w' => e = .returned (.bool o.list) ∧ Below (W.alloc (.cells #[.int .i64 x.1, .int .i64 x.2] 36)).heap.size (W.alloc (.cells #[.int .i64 x.1, .int .i64 x.2] 36)) w' from by
      rw [← hW.ag.lst ho]; exact isList_q (hW.q.keep HB.out) x.1 x.2)
    have HLT := hid (fun V (hv : Below W.heap.size W V) (hl : o.list = true) => listText_g (hW.keep hv) (by omega) (ih (by omega) V (hW.keep hv)) x ho hl)
    have HMT := hid (fun V (hv : Below W.heap.size W V) (hl : o.list = false) => mapText_g (hW.keep hv) (by omega) (ih (by omega) V (hW.keep hv)) x ho hl)
    have htx : textG R (r + 1) x = objG (textG R r) o.list (ordP o) := textG_some ho r
    rw [htx]
    clear h hW ho ih htx hb
    cases hl : o.list
    · rw [hl] at HIL HMT
      go_enter Tryz.func88, Tryz.ntmps88
      go_wp2_with fail
      refine HIL.out.mono ?_
      rintro e w1 ⟨rfl, hb1⟩
      have HX1 := hid (blk_keep HX0.out hb1)
      have HB1 := hid (HB.out.trans (hb1.mono HB.out.size)); clear hb1
      obtain ⟨b0, b1⟩ := blk2 HX1.out
      have HM2 := hid (HMT.out w1 HB1.out (by trivial))
      go_wp2_with fail
      refine HM2.out.mono ?_
      rintro e w2 ⟨rfl, hb2⟩
      have HB2 := hid (HB1.out.trans (hb2.mono HB1.out.size)); clear hb2
      go_wp2
      go_ret
      exact ⟨rfl, HB2.out⟩
    · rw [hl] at HIL HLT
      go_enter Tryz.func88, Tryz.ntmps88
      go_wp2_with fail
      refine HIL.out.mono ?_
      rintro e w1 ⟨rfl, hb1⟩
      have HX1 := hid (blk_keep HX0.out hb1)
      have HB1 := hid (HB.out.trans (hb1.mono HB.out.size)); clear hb1
      obtain ⟨b0, b1⟩ := blk2 HX1.out
      have HM2 := hid (HLT.out w1 HB1.out (by trivial))
      go_wp2_with fail
      refine HM2.out.mono ?_
      rintro e w2 ⟨rfl, hb2⟩
      have HB2 := hid (HB1.out.trans (hb2.mono HB1.out.size)); clear hb2
      go_wp2
      go_ret
      exact ⟨rfl, HB2.out⟩

set_option maxRecDepth 1000000 in
set_option maxHeartbeats 2000000 in
theorem docText_g {w : World} {d bo be : Nat} {D : QDoc} {R : List PObj} (h : TxtG w d bo be D R) :
    Calls Tryz.prog 55 #[.pointer (some ⟨d, 0, none⟩)] w fun e w' => e = .returned (.string (textG R 4 (0, 0))) ∧ Below w.heap.size w w' := by
  obtain ⟨o, ho⟩ := h.root
  have HO := hid (show Calls Tryz.prog 88 #[.pointer (some ⟨d, 0, none⟩), .agg #[.int .i64 0, .int .i64 0], .int .i64 1] w _ from objectText_g 4 (by omega) w h w (Below.refl _ _) (0, 0) o ho)
  clear h ho
  go_enter Tryz.func55, Tryz.ntmps55
  go_wp2_with fail
  refine HO.out.mono ?_
  rintro e w1 ⟨rfl, hb1⟩
  have HB1 := hid hb1; clear hb1
  go_wp2
  go_ret
  exact ⟨rfl, HB1.out⟩

set_option maxRecDepth 1000000 in
set_option maxHeartbeats 2000000 in
/-- SHOW. -/
theorem gShow {w : World} {r : Nat} {F I : Nat → Prop} {N sp : Nat} {M : Nat → List MOp} {s : RoomS} {x : RoomX} (h : RoomD w r F I N sp M s x) {c : Nat} (hc : c < N) (ht : TxtG w (x.q c).d (x.q c).bo (x.q c).be (x.q c).D (ROf (s.ops c))) :
    Calls Tryz.prog 28 #[.pointer (some ⟨r, 0, none⟩), .int .i64 c] w fun e w' => e = .returned (.tuple #[.string (textG (ROf (s.ops c)) 4 (0, 0)), .int .i64 0]) ∧ Below w.heap.size w w' := by
  have HC := hid (inCopy_any h.m c hc)
  have HD := hid (document_any (h.m.reps c hc))
  have HT := hid (fun W (hb : Below w.heap.size w W) => docText_g (ht.keep hb))
  clear h ht
  go_enter Tryz.func28, Tryz.ntmps28
  go_wp2_with fail
  refine HC.out.mono ?_
  rintro e w1 ⟨rfl, hw1⟩
  subst hw1
  go_wp2_with fail
  refine HD.out.mono ?_
  rintro e w2 ⟨rfl, hb2⟩
  have HB2 := hid hb2; clear hb2
  go_wp2_with fail
  refine (HT.out w2 HB2.out).mono ?_
  rintro e w3 ⟨rfl, hb3⟩
  have HB3 := hid (HB2.out.trans (hb3.mono HB2.out.size)); clear hb3
  go_wp2
  go_ret2
  exact ⟨rfl, HB3.out⟩

end Go.Proofs.YtnkpogjiiohapaaGreatDoor
