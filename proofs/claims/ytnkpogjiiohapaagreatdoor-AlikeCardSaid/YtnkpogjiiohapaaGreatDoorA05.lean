/- Our own text (PDocE, PKeysA). -/
import Derived.Deep.DeepCutAuto
import Derived.Test.YtnkpogjiiohapaaGreatDoorA04
set_option linter.unusedSimpArgs false
set_option linter.unusedVariables false

/-! PDocE: Elements: the elements of a list that can be seen. -/
namespace Go.Proofs.YtnkpogjiiohapaaGreatDoor
open Go.RowKit

/-- A list's elements, one behind the other, from the first on. -/
def Chain (els : List (PId × CQEl)) : PId → List PId → Prop
  | x, [] => x = (0, 0)
  | x, y :: L => x = y ∧ y ≠ (0, 0) ∧ ∃ e, lookI y els = some e ∧ Chain els e.next L
def seenEl (els : List (PId × CQEl)) (y : PId) : Bool := match lookI y els with | some e => decide (0 < e.vs.length) | none => false

theorem Chain.unique {els : List (PId × CQEl)} : ∀ {x : PId} {R R' : List PId}, Chain els x R → Chain els x R' → R = R'
  | _, [], [], _, _ => rfl
  | _, [], y :: R', h, h' => absurd (h'.1.symm.trans h) h'.2.1
  | _, y :: R, [], h, h' => absurd (h.1.symm.trans h') h.2.1
  | x, y :: R, y' :: R', h, h' => by
    obtain ⟨h1, _, e, h2, h3⟩ := h
    obtain ⟨h1', _, e', h2', h3'⟩ := h'
    have hy : y = y' := h1.symm.trans h1'
    subst hy
    rw [h2] at h2'
    cases h2'
    rw [Chain.unique h3 h3']
/-- How many are left from an element on. -/
theorem rank_ex (els : List (PId × CQEl)) : ∃ rank : PId → Nat, ∀ x R, Chain els x R → rank x = R.length := by
  have h1 : ∀ x, ∃ n : Nat, ∀ R, Chain els x R → n = R.length := fun x => by
    by_cases h : ∃ R, Chain els x R
    · obtain ⟨R, h⟩ := h
      exact ⟨R.length, fun R' h' => by rw [Chain.unique h h']⟩
    · exact ⟨0, fun R' h' => absurd ⟨R', h'⟩ h⟩
  exact ⟨fun x => Classical.choose (h1 x), fun x => Classical.choose_spec (h1 x)⟩
/-- What a box of an Id holds. -/
def boxId (w : World) : Value → PId
  | .pointer (some a) => (intOf ((w.cell? ⟨a.block, 0, none⟩).getD undef), intOf ((w.cell? ⟨a.block, 1, none⟩).getD undef))
  | _ => (0, 0)
theorem boxId_of {w : World} {g : Nat} {x : PId} (h : w.heap[g]? = some (.cells #[.int .i64 x.1, .int .i64 x.2] 36 (0, 0))) : boxId w (.pointer (some ⟨g, 0, none⟩)) = x := by
  simp [boxId, World.cell?, h, intOf]

theorem field_first (a : Value) (m : Value) (f1 f2 : Int) (W : World) : (Instr.field 170 (.agg #[a, m, .int .i64 f1, .int .i64 f2]) 2).run Tryz.prog W = .ok (.agg #[.int .i64 f1, .int .i64 f2]) W := by kernel_rfl
theorem field_next (a b m : Value) (f1 f2 : Int) (W : World) : (Instr.field 176 (.agg #[a, b, .int .i64 f1, .int .i64 f2, m]) 1).run Tryz.prog W = .ok (.agg #[.int .i64 f1, .int .i64 f2]) W := by kernel_rfl

/-- Behind a round: the box holds the next one. -/
theorem box_set {w : World} {g : Nat} {y1 y2 n1 n2 : Int} (h : w.heap[g]? = some (.cells #[.int .i64 y1, .int .i64 y2] 36 (0, 0))) : ((w.setCell ⟨g, 0, none⟩ (.int .i64 n1)).setCell ⟨g, 1, none⟩ (.int .i64 n2)).drew.heap[g]? = some (.cells #[.int .i64 n1, .int .i64 n2] 36 (0, 0)) := by
  have hl := blk_lt h
  obtain ⟨_, he⟩ := Array.getElem?_eq_some_iff.1 h
  show ((w.setCell ⟨g, 0, none⟩ (.int .i64 n1)).setCell ⟨g, 1, none⟩ (.int .i64 n2)).heap[g]? = _
  simp [World.setCell, hl, Array.getElem_modify_self, he]
theorem chain_rel {w w3 : World} {els : List (PId × CQEl)} {L done rest : List PId} {y1 y2 n1 n2 : Int} {g : Nat} {v : Value} (hdr : done ++ (y1, y2) :: rest = L) (hg : w.heap.size ≤ g) (hx : w3.heap[g]? = some (.cells #[.int .i64 y1, .int .i64 y2] 36 (0, 0)))
    (hch : Chain els (n1, n2) rest) (hown : ownIds w.heap.size w3 v ((done ++ [(y1, y2)]).filter (seenEl els))) (hne : v.ownBlock ≠ some g) (hb : Below w.heap.size w w3) :
    ∃ done rest y gb, done ++ rest = L ∧ Value.pointer (some ⟨g, 0, none⟩) = Value.pointer (some ⟨gb, 0, none⟩) ∧ w.heap.size ≤ gb ∧ ((w3.setCell ⟨g, 0, none⟩ (.int .i64 n1)).setCell ⟨g, 1, none⟩ (.int .i64 n2)).drew.heap[gb]? = some (.cells #[.int .i64 y.1, .int .i64 y.2] 36 (0, 0)) ∧
      Chain els y rest ∧ ownIds w.heap.size ((w3.setCell ⟨g, 0, none⟩ (.int .i64 n1)).setCell ⟨g, 1, none⟩ (.int .i64 n2)).drew v (done.filter (seenEl els)) ∧ v.ownBlock ≠ some gb ∧ Below w.heap.size w ((w3.setCell ⟨g, 0, none⟩ (.int .i64 n1)).setCell ⟨g, 1, none⟩ (.int .i64 n2)).drew :=
  ⟨done ++ [(y1, y2)], rest, (n1, n2), g, by simpa using hdr, rfl, hg, box_set hx, hch, World.ownsRow.drew (row_other (row_other hown hne _) hne _), hne, ((hb.setCell hg _).setCell hg _).drew⟩
theorem chain_less {wr w3 : World} {els : List (PId × CQEl)} {rank : PId → Nat} (hrk : ∀ x R, Chain els x R → rank x = R.length) {rest : List PId} {y1 y2 n1 n2 : Int} {g gb : Nat} {e : CQEl} (hel : lookI (y1, y2) els = some e) (hn : e.next = (n1, n2)) (h0 : (y1, y2) ≠ ((0 : Int), (0 : Int))) (hch : Chain els (n1, n2) rest)
    (hgb : wr.heap[gb]? = some (.cells #[.int .i64 y1, .int .i64 y2] 36 (0, 0))) (hx : w3.heap[g]? = some (.cells #[.int .i64 y1, .int .i64 y2] 36 (0, 0))) :
    rank (boxId ((w3.setCell ⟨g, 0, none⟩ (.int .i64 n1)).setCell ⟨g, 1, none⟩ (.int .i64 n2)).drew (.pointer (some ⟨g, 0, none⟩))) < rank (boxId wr (.pointer (some ⟨gb, 0, none⟩))) := by
  rw [boxId_of (x := (n1, n2)) (box_set hx), boxId_of (x := (y1, y2)) hgb, hrk _ _ hch]
  have : Chain els (y1, y2) ((y1, y2) :: rest) := ⟨rfl, h0, e, hel, by rw [hn]; exact hch⟩
  rw [hrk _ _ this]
  simp

set_option maxRecDepth 1000000 in
set_option maxHeartbeats 800000 in
theorem elements_q {w : World} {d bo be : Nat} {os : List (PId × CQObj)} {els : List (PId × CQEl)} (h : isQ w d bo be os els) (x1 x2 : Int) {ob : CQObj} (hob : lookI (x1, x2) os = some ob) (hl : ob.list = true) {L : List PId} (hch : Chain els ob.first L) (hL : L.length ≤ 10000) :
    Calls Tryz.prog 57 #[.pointer (some ⟨d, 0, none⟩), .agg #[.int .i64 x1, .int .i64 x2]] w fun e w' => ∃ u, e = .returned u ∧ ownIds w.heap.size w' u (L.filter (seenEl els)) ∧ Below w.heap.size w w' := by
  have HB0 := hid ((Below.refl w.heap.size w).alloc (Nat.le_refl _) (.cells #[.int .i64 x1, .int .i64 x2] 36))
  have HL := hid (isList_q (h.keep HB0.out) x1 x2)
  have hq : qlist (x1, x2) os = true := by unfold qlist; rw [hob]; exact hl
  rw [hq] at HL
  have HLO := hid (fun W (hb : Below w.heap.size w W) => (h.keep hb).lookO x1 x2 false)
  rw [hob] at HLO
  have HC := hid (fun W (hb : Below w.heap.size w W) => (h.keep hb).c0)
  obtain ⟨rank, hrank⟩ := rank_ex els
  have HRK := hid hrank; clear hrank
  obtain ⟨ol, okv, oks, ⟨f1, f2⟩⟩ := ob
  simp only at hl hch
  have HCH := hid hch; clear hch hob hq hl
  simp only [Option.map_some, Option.getD_some, Bool.false_eq_true, if_false, qobjV] at HLO
  have HH := hid h; clear h
  go_enter Tryz.func57, Tryz.ntmps57
  go_wp2_with fail
  refine HL.out.mono ?_
  rintro e w1 ⟨rfl, hb1⟩
  have b0 := keep (a := ⟨w.heap.size, 0, none⟩) (v := .int .i64 x1) hb1 (by simp [go_sem])
  have b1 := keep (a := ⟨w.heap.size, 1, none⟩) (v := .int .i64 x2) hb1 (by simp [go_sem])
  have HB1 := hid (HB0.out.trans (hb1.mono HB0.out.size)); clear hb1
  have c0 := HC.out _ HB1.out
  have l1 := HLO.out _ HB1.out
  have l2 := HLO.out _ HB1.out.drew
  have l3 := HLO.out _ (HB1.out.alloc HB1.out.size (.cells #[.int .i64 0, .int .i64 0] 36)).drew
  have ff := field_first
  have hz1 := HB1.out.size
  have hdl := (HH.out.keep HB1.out).lt
  have hwl : w.heap.size < w1.heap.size := World.block_lt_of_cell? w1 _ b0
  go_wp2
  go_cut [6] (fun p wc => p = .pointer (some ⟨w1.heap.size, 0, none⟩) ∧ wc = (w1.alloc (.cells #[.int .i64 f1, .int .i64 f2] 36)).drew)
  case first =>
    go_region
    all_goals (go_wp2_with fail; go_meet)
    all_goals exact ⟨rfl, rfl⟩
  case rest =>
    obtain ⟨rfl, hwc⟩ := hcut
    have HBC := hid (show Below w.heap.size w wc by rw [hwc]; exact (HB1.out.alloc hz1 _).drew)
    have HBX := hid (show wc.heap[w1.heap.size]? = some (.cells #[.int .i64 f1, .int .i64 f2] 36 (0, 0)) by rw [hwc]; exact blk_new w1 _)
    clear hwc b0 b1 c0 l1 l2 l3 ff
    go_wp2
    go_loopw [5, 6] (fun u p wr => ∃ done rest y gb, done ++ rest = L ∧ p = .pointer (some ⟨gb, 0, none⟩) ∧ w.heap.size ≤ gb ∧ wr.heap[gb]? = some (.cells #[.int .i64 y.1, .int .i64 y.2] 36 (0, 0)) ∧ Chain els y rest ∧ ownIds w.heap.size wr u (done.filter (seenEl els)) ∧ u.ownBlock ≠ some gb ∧ Below w.heap.size w wr) (fun _ p wr => rank (boxId wr p))
    case atStart => exact ⟨[], L, (f1, f2), w1.heap.size, rfl, rfl, hz1, HBX.out, HCH.out, World.ownsRow_nil _ _ _ _, by simp [Value.ownBlock], HBC.out⟩
    case round =>
      obtain ⟨done, rest, ⟨y1, y2⟩, gb, hdr, rfl, hgw, hgb, hchr, hown, hne, hbel⟩ := hrel
      simp only at hgb
      have HG := hid hgb; clear hgb
      have c0 := (blk2 HG.out).1
      have c1 := (blk2 HG.out).2
      have hgl := blk_lt HG.out
      have heq := run_idNe
      have HO := hid hown; clear hown
      cases rest with
      | nil =>
        have hy : (y1, y2) = ((0 : Int), (0 : Int)) := hchr
        injection hy with hy1 hy2
        subst hy1; subst hy2
        go_wp2
        go_ret
        have hd : done = L := by simpa using hdr
        exact ⟨_, rfl, by rw [← hd]; exact HO.out, hbel⟩
      | cons x rest =>
        obtain ⟨hx, hx0, el, hel, hnx⟩ := hchr
        subst hx
        obtain ⟨q, ⟨n1, n2⟩, ev, evs⟩ := el
        simp only at hnx
        have hid0 : idEq y1 y2 0 0 = false := by rw [idEq_false]; exact hx0
        have c1' := (HH.out.keep hbel).c1
        have hl1 := (HH.out.keep hbel.drew).lookE y1 y2 false
        rw [hel] at hl1
        simp only [Option.map_some, Option.getD_some, Bool.false_eq_true, if_false, qelV] at hl1
        have hln := run_lenMap ((HH.out.hv _ (look_mem hel)).keep hbel.drew) (ty := 3)
        simp only at hln
        have fe := field_el
        have fn := field_next
        have hseen : seenEl els (y1, y2) = decide (0 < evs.length) := by unfold seenEl; rw [hel]
        have HSE := hid hseen; clear hseen
        have HNX := hid hnx; clear hnx
        have HEL := hid hel; clear hel
        have HBE := hid hbel; clear hbel
        have hbz := HBE.out.size
        have hdl2 := (HH.out.keep HBE.out).lt
        by_cases hs : 0 < evs.length
        · go_wp2
          go_region
          obtain ⟨wd, hwd⟩ : ∃ wd, wd = wr.drew := ⟨_, rfl⟩
          rw [← hwd]
          have HGD := hid (show wd.heap[gb]? = some (.cells #[.int .i64 y1, .int .i64 y2] 36 (0, 0)) by rw [hwd]; exact HG.out)
          have HOD := hid (show ownIds w.heap.size wd u5 (done.filter (seenEl els)) by rw [hwd]; exact World.ownsRow.drew HO.out)
          have HBD := hid (show Below w.heap.size w wd by rw [hwd]; exact HBE.out.drew)
          have hlenD : (done.filter (seenEl els)).length ≤ 10000 := by
            have h1 := List.length_filter_le (seenEl els) done
            have h2 : done.length ≤ L.length := by rw [← hdr, List.length_append]; omega
            omega
          clear hwd hl1 hln c1'
          replace c0 := (blk2 HGD.out).1
          replace c1 := (blk2 HGD.out).2
          have hgl := blk_lt HGD.out
          have hbzd := HBD.out.size
          go_wp2_with (at_builtin; go_must (refine app_id rfl (.tmp 37) (.tmp 39) rfl w.heap.size _ (done.filter (seenEl els)) rfl ?h1 wd.heap.size 1 y1 y2 rfl ?h2 ?h3 ?h4 ?h5 ?_; (case h1 => exact HOD.out.alloc _); (case h2 => simp [go_sem]); (case h3 => simp [go_sem]); (case h4 => omega); (case h5 => simp; omega); intro v' w2 hown2 hg2; have HG2 := hid (show w2.heap[gb]? = some (.cells #[.int .i64 y1, .int .i64 y2] 36 (0, 0)) from (hg2.block gb (by simp; omega) (fun e => hne e.symm)).trans (blk_alloc HGD.out)); have HB2 := hid (ownIds.below (HOD.out.alloc _) (HBD.out.alloc hbzd _) (by simp; omega) hg2); clear hg2; have HN2 := hid hown2; clear hown2; have a0 := (blk2 HG2.out).1; have a1 := (blk2 HG2.out).2; have ac := (HH.out.keep HB2.out).c1))
          obtain ⟨w3, hw3⟩ : ∃ w3, w3 = w2.alloc (.cells #[.int .i64 y1, .int .i64 y2] 36) := ⟨_, rfl⟩
          rw [← hw3]
          have HB3 := hid (show Below w.heap.size w w3 by rw [hw3]; exact HB2.out.alloc HB2.out.size _)
          have HX3 := hid (show w3.heap[w2.heap.size]? = some (.cells #[.int .i64 y1, .int .i64 y2] 36 (0, 0)) by rw [hw3]; exact blk_new w2 _)
          have HN3 := hid (show ownIds w.heap.size w3 v' (done.filter (seenEl els) ++ [(y1, y2)]) by rw [hw3]; exact HN2.out.alloc _)
          have HNE := hid (show v'.ownBlock ≠ some w2.heap.size from fun e => by have := (World.ownsRow.lt HN2.out _ e).2; omega)
          have s0 := (blk2 HX3.out).1
          have s1 := (blk2 HX3.out).2
          have sf := blk_fz HX3.out
          have sc := (HH.out.keep HB3.out).c1
          have sl := (HH.out.keep HB3.out.drew).lookE y1 y2 false
          rw [HEL.out] at sl
          simp only [Option.map_some, Option.getD_some, Bool.false_eq_true, if_false, qelV] at sl
          have hzz := HB2.out.size
          clear hw3 a0 a1 ac c0 c1
          go_region
          all_goals (try go_wp2)
          all_goals go_roundw
          all_goals first
            | exact chain_rel hdr hzz HX3.out HNX.out (by rw [List.filter_append, show [(y1, y2)].filter (seenEl els) = [(y1, y2)] by simp [HSE.out, hs]]; exact HN3.out) HNE.out HB3.out
            | exact chain_less HRK.out HEL.out rfl hx0 HNX.out HG.out HX3.out
        · go_wp2
          go_region
          obtain ⟨wd, hwd⟩ : ∃ wd, wd = wr.drew := ⟨_, rfl⟩
          rw [← hwd]
          have HGD := hid (show wd.heap[gb]? = some (.cells #[.int .i64 y1, .int .i64 y2] 36 (0, 0)) by rw [hwd]; exact HG.out)
          have HOD := hid (show ownIds w.heap.size wd u5 (done.filter (seenEl els)) by rw [hwd]; exact World.ownsRow.drew HO.out)
          have HBD := hid (show Below w.heap.size w wd by rw [hwd]; exact HBE.out.drew)
          clear hwd hl1 hln c1'
          replace c0 := (blk2 HGD.out).1
          replace c1 := (blk2 HGD.out).2
          have hgl := blk_lt HGD.out
          have hbzd := HBD.out.size
          go_wp2
          obtain ⟨w3, hw3⟩ : ∃ w3, w3 = wd.alloc (.cells #[.int .i64 y1, .int .i64 y2] 36) := ⟨_, rfl⟩
          rw [← hw3]
          have HB3 := hid (show Below w.heap.size w w3 by rw [hw3]; exact HBD.out.alloc hbzd _)
          have HX3 := hid (show w3.heap[wd.heap.size]? = some (.cells #[.int .i64 y1, .int .i64 y2] 36 (0, 0)) by rw [hw3]; exact blk_new wd _)
          have HN3 := hid (show ownIds w.heap.size w3 u5 (done.filter (seenEl els)) by rw [hw3]; exact HOD.out.alloc _)
          have HNE := hid (show u5.ownBlock ≠ some wd.heap.size from fun e => by have := (World.ownsRow.lt HOD.out _ e).2; omega)
          have s0 := (blk2 HX3.out).1
          have s1 := (blk2 HX3.out).2
          have sf := blk_fz HX3.out
          have sc := (HH.out.keep HB3.out).c1
          have sl := (HH.out.keep HB3.out.drew).lookE y1 y2 false
          rw [HEL.out] at sl
          simp only [Option.map_some, Option.getD_some, Bool.false_eq_true, if_false, qelV] at sl
          clear hw3 c0 c1
          go_region
          all_goals (try go_wp2)
          all_goals go_roundw
          all_goals first
            | exact chain_rel hdr hbzd HX3.out HNX.out (by rw [List.filter_append, show [(y1, y2)].filter (seenEl els) = [] by simp [HSE.out, hs], List.append_nil]; exact HN3.out) HNE.out HB3.out
            | exact chain_less HRK.out HEL.out rfl hx0 HNX.out HG.out HX3.out

end Go.Proofs.YtnkpogjiiohapaaGreatDoor

/-! PKeysA: Keys: what the walk over an object's keys has brought; plain. -/
namespace Go.Proofs.YtnkpogjiiohapaaGreatDoor
open Go.RowKit

/-- Which pair an entry stands for. -/
def pairOf {ν : Type} (es : List MapEntry) (m : List ν) (e : MapEntry) : Option ν := ((es.zip m).find? fun z => z.1.born == e.born).map (·.2)
theorem pairOf_get {ν : Type} {es : List MapEntry} {m : List ν} (hn : (es.map (·.born)).Nodup) (hl : es.length = m.length) {i : Nat} (hi : i < es.length) : pairOf es m es[i] = some (m[i]'(by omega)) := by
  unfold pairOf
  have : (es.zip m).find? (fun z => z.1.born == es[i].born) = some (es[i], m[i]'(by omega)) := by
    rw [List.find?_eq_some_iff_getElem]
    refine ⟨by simp, i, by simp; omega, by simp, fun j hj => ?_⟩
    have hp := List.pairwise_iff_getElem.1 hn j i (by simp; omega) (by simpa using hi) hj
    simp at hp
    simpa using hp
  rw [this]; rfl
theorem pairOf_map {ν : Type} {es : List MapEntry} {m : List ν} (hn : (es.map (·.born)).Nodup) (hl : es.length = m.length) : es.filterMap (pairOf es m) = m := by
  have key : es.map (pairOf es m) = m.map some := by
    apply List.ext_getElem
    · simp [hl]
    · intro i h1 h2
      simp only [List.getElem_map]
      rw [pairOf_get hn hl (by simpa using h1)]
  have h2 : es.filterMap (pairOf es m) = (es.map (pairOf es m)).filterMap id := by rw [List.filterMap_map]; rfl
  rw [h2, key, List.filterMap_map]
  simp
theorem pairOf_mem {κ ν : Type} {encK : κ → Value} {encV : ν → Value} {es : List MapEntry} {m : List (κ × ν)} (hn : (es.map (·.born)).Nodup) (h : Ents encK encV es m) {e : MapEntry} (he : e ∈ es) :
    ∃ p ∈ m, pairOf es m e = some p ∧ e.key = encK p.1 ∧ e.val = encV p.2 := by
  have hl : es.length = m.length := by have := congrArg List.length h; simpa using this
  obtain ⟨i, hi, rfl⟩ := List.mem_iff_getElem.1 he
  have him : i < m.length := by omega
  refine ⟨m[i], List.getElem_mem _, pairOf_get hn hl hi, ?_⟩
  have := congrArg (·[i]?) h
  simp [hi, him] at this
  exact this

/-- The keys that can be seen, of some pairs. -/
def seenKeys (ks : List (ByteArray × CKey)) : List ByteArray := (ks.filter fun p => decide (0 < p.2.vs.length)).map (·.1)

end Go.Proofs.YtnkpogjiiohapaaGreatDoor
