/- Our own text (PDoB, PDoC, PDoD). -/
import Derived.Deep.DeepCutAuto
import Derived.Test.YtnkpogjiiohapaaGreatDoorA05
set_option linter.unusedSimpArgs false
set_option linter.unusedVariables false

/-! PDoB: Lay's do. -/
namespace Go.Proofs.YtnkpogjiiohapaaGreatDoor
open Go.RowKit

theorem put_keep {w : World} {b g : Nat} {es : Array MapEntry} {clk : Nat} {o : Obj} {c : Array Value} {t : TypeId} {f : Nat × Nat} (hb : w.heap[b]? = some (.map es clk)) (hg : w.heap[g]? = some (.cells c t f)) : (putObj w.drew b o).heap[g]? = some (.cells c t f) := by
  rw [putObj_other (fun e => by subst e; rw [hb] at hg; cases hg)]; exact hg

/-- A block of cells turns that is not the document's: the document is as it was. -/
theorem isQ.other {w w' : World} {d bo be : Nat} {os : List (PId × CQObj)} {els : List (PId × CQEl)} (h : isQ w d bo be os els) {g : Nat} {c : Array Value} {t : TypeId} {f : Nat × Nat} (hw : ∀ k, k ≠ g → w'.heap[k]? = w.heap[k]?) (hd : d ≠ g) (hg : w.heap[g]? = some (.cells c t f)) : isQ w' d bo be os els := by
  have hm : ∀ {b : Nat} {es : Array MapEntry} {clk : Nat}, w.heap[b]? = some (.map es clk) → w'.heap[b]? = w.heap[b]? := fun hb => hw _ (fun e => by subst e; rw [hb] at hg; cases hg)
  obtain ⟨es, clk, ho⟩ := h.ho
  obtain ⟨es2, clk2, he⟩ := h.he
  have hv : ∀ {v : Option Nat} {vs : List (PId × PVal)}, isVals w v vs → isVals w' v vs := fun hv => hv.imp id fun ⟨b, es, clk, e, hm'⟩ => ⟨b, es, clk, e, hm'.blockK (hm hm'.blk)⟩
  exact ⟨by rw [hw d hd]; exact h.hd, ⟨es, clk, ho.blockK (hm ho.blk)⟩, ⟨es2, clk2, he.blockK (hm he.blk)⟩,
    fun p hp => ⟨(h.hk p hp).1.imp id fun ⟨b, es, clk, e, hm'⟩ => ⟨b, es, clk, e, hm'.blockK (hm hm'.blk)⟩, fun k hk => hv ((h.hk p hp).2 k hk)⟩, fun p hp => hv (h.hv p hp)⟩

abbrev QDoc := List (PId × CQObj) × List (PId × CQEl)
def layQ (D : QDoc) (x b id : PId) : QDoc :=
  match lookI x D.1 with
  | none => D
  | some ob =>
    if ob.list = false then D
    else if b = (0, 0) then (putI x { ob with first := id } D.1, putI id ⟨x, ob.first, none, []⟩ D.2)
    else match lookI b D.2 with
      | none => D
      | some e => if e.list = x then (D.1, putI b { e with next := id } (putI id ⟨x, e.next, none, []⟩ D.2)) else D

set_option maxRecDepth 1000000 in
set_option maxHeartbeats 800000 in
/-- Into what is no list: nothing is done. -/
theorem lay_no {w : World} {d bo be : Nat} {os : List (PId × CQObj)} {els : List (PId × CQEl)} (h : isQ w d bo be os els) (x1 x2 b1 b2 i1 i2 : Int) (hl : qlist (x1, x2) os = false) :
    Calls Tryz.prog 298 #[.agg #[.int .i64 x1, .int .i64 x2, .int .i64 b1, .int .i64 b2], .pointer (some ⟨d, 0, none⟩), .agg #[.int .i64 i1, .int .i64 i2]] w fun e w' => (∃ r, e = .returned r) ∧ Below w.heap.size w w' := by
  have HB0 := hid (((Below.refl w.heap.size w).alloc (Nat.le_refl _) (.cells #[.int .i64 x1, .int .i64 x2, .int .i64 b1, .int .i64 b2] 179)).alloc (by simp) (.cells #[.int .i64 i1, .int .i64 i2] 36))
  have HL := hid (isList_q (h.keep HB0.out) x1 x2)
  rw [hl] at HL
  clear h hl
  go_enter Tryz.func298, Tryz.ntmps298
  go_wp2_with fail
  refine HL.out.mono ?_
  rintro e w1 ⟨rfl, hb1⟩
  have HB1 := hid (HB0.out.trans (hb1.mono HB0.out.size)); clear hb1
  go_wp2
  exact bodyPost_ret (v := .tuple #[]) (by simp [results, Tryz.results298, go_sem]) rfl ⟨⟨_, rfl⟩, HB1.out⟩

set_option maxRecDepth 1000000 in
set_option maxHeartbeats 800000 in
/-- At the beginning. -/
theorem lay_zero {w : World} {d bo be : Nat} {R : Nat → Prop} {os : List (PId × CQObj)} {els : List (PId × CQEl)} (h : isQ w d bo be os els) (ho : QOwn bo be R os els) (x1 x2 i1 i2 : Int) {ob : CQObj} (hob : lookI (x1, x2) os = some ob) (hl : ob.list = true) :
    Calls Tryz.prog 298 #[.agg #[.int .i64 x1, .int .i64 x2, .int .i64 0, .int .i64 0], .pointer (some ⟨d, 0, none⟩), .agg #[.int .i64 i1, .int .i64 i2]] w fun e w' => (∃ r, e = .returned r) ∧
      isQ w' d bo be (putI (x1, x2) { ob with first := (i1, i2) } os) (putI (i1, i2) ⟨(x1, x2), ob.first, none, []⟩ els) ∧ QOwn bo be R (putI (x1, x2) { ob with first := (i1, i2) } os) (putI (i1, i2) ⟨(x1, x2), ob.first, none, []⟩ els) ∧ Turned (fun k => k = bo ∨ k = be) w w' := by
  have HB0 := hid (((Below.refl w.heap.size w).alloc (Nat.le_refl _) (.cells #[.int .i64 x1, .int .i64 x2, .int .i64 0, .int .i64 0] 179)).alloc (by simp) (.cells #[.int .i64 i1, .int .i64 i2] 36))
  have HL := hid (isList_q (h.keep HB0.out) x1 x2)
  have hq : qlist (x1, x2) os = true := by unfold qlist; rw [hob]; exact hl
  rw [hq] at HL
  obtain ⟨ol, okv, oks, ⟨f1, f2⟩⟩ := ob
  simp only at hl
  subst hl
  have HOB := hid hob; clear hob hq
  have HH := hid h; clear h
  have HO := hid ho; clear ho
  have heq := run_idEq
  have heqz : idEq 0 0 0 0 = true := rfl
  go_enter Tryz.func298, Tryz.ntmps298
  go_wp2_with fail
  refine HL.out.mono ?_
  rintro e w1 ⟨rfl, hb1⟩
  have HLB := hid (show w1.heap[w.heap.size]? = some (.cells #[.int .i64 x1, .int .i64 x2, .int .i64 0, .int .i64 0] 179 (0, 0)) by rw [hb1.block w.heap.size (by simp; omega)]; exact blk_alloc (blk_new _ _))
  have HIB := hid (show w1.heap[w.heap.size + 1]? = some (.cells #[.int .i64 i1, .int .i64 i2] 36 (0, 0)) by rw [hb1.block (w.heap.size + 1) (by simp)]; exact (by simp : (w.alloc (.cells #[.int .i64 x1, .int .i64 x2, .int .i64 0, .int .i64 0] 179)).heap.size = w.heap.size + 1) ▸ blk_new (w.alloc (.cells #[.int .i64 x1, .int .i64 x2, .int .i64 0, .int .i64 0] 179)) _)
  have HB1 := hid (HB0.out.trans (hb1.mono HB0.out.size)); clear hb1
  have b0 := blkq0 HLB.out
  have b1 := blkq1 HLB.out
  have b2 := blkq2 HLB.out
  have b3 := blkc4 HLB.out
  have a0 := (blk2 HIB.out).1
  have a1 := (blk2 HIB.out).2
  have HQ1 := hid (HH.out.keep HB1.out)
  have c0 := HQ1.out.c0
  have c1 := HQ1.out.c1
  have l1 := (HH.out.keep HB1.out.drew).lookO x1 x2 false
  have hz1 := HB1.out.size
  have l2 := (HH.out.keep (HB1.out.alloc hz1 (.cells #[.bool false, .map none, .int .i64 0, .int .i64 0] 170)).drew).lookO x1 x2 false
  rw [HOB.out] at l1 l2
  simp only [Option.map_some, Option.getD_some, Bool.false_eq_true, if_false, qobjV] at l1 l2
  have hdl := HQ1.out.lt
  have hll := blk_lt HLB.out
  have hil := blk_lt HIB.out
  go_wp2
  go_cut [6] (fun p wc => p = .pointer (some ⟨w1.heap.size, 0, none⟩) ∧ wc = (w1.alloc (.cells #[.bool true, .map okv, .int .i64 f1, .int .i64 f2] 170)).drew)
  case first =>
    go_region
    all_goals (go_wp2_with fail; go_meet)
    all_goals exact ⟨rfl, rfl⟩
  case rest =>
    obtain ⟨rfl, hwc⟩ := hcut
    have HBC := hid (show Below w1.heap.size w1 wc by rw [hwc]; exact ((Below.refl _ w1).alloc (Nat.le_refl _) _).drew)
    have HOX := hid (show wc.heap[w1.heap.size]? = some (.cells #[.bool true, .map okv, .int .i64 f1, .int .i64 f2] 170 (0, 0)) by rw [hwc]; exact blk_new w1 _)
    have HBW := hid (HB1.out.trans (HBC.out.mono hz1))
    clear hwc b0 b1 b2 b3 a0 a1 c0 c1 l1 l2
    have HQC := hid (HH.out.keep HBW.out)
    have HLC := hid (blk_keep HLB.out HBC.out)
    have HIC := hid (blk_keep HIB.out HBC.out)
    have b0 := blkq0 HLC.out
    have b1 := blkq1 HLC.out
    have a0 := (blk2 HIC.out).1
    have a1 := (blk2 HIC.out).2
    have o0 := blkq0 HOX.out
    have o1 := blkq1 HOX.out
    have o2 := blkq2 HOX.out
    have o3 := blkc4 HOX.out
    have c0 := HQC.out.c0
    have c1 := HQC.out.c1
    obtain ⟨es1, clk1, hrun1, hq1, hown1⟩ := (HH.out.keep HBW.out.drew).putE HO.out (i1, i2) ⟨(x1, x2), (f1, f2), none, []⟩ (.inl ⟨rfl, rfl⟩) (fun b hb => by cases hb)
    simp only [idV, qelV] at hrun1
    have HQ2 := hid (And.intro hq1 hown1); clear hq1 hown1
    obtain ⟨w2, hw2⟩ : ∃ w2, w2 = wc := ⟨_, rfl⟩
    subst hw2
    go_wp2
    go_cut [] (fun wc => wc = putObj w2.drew be (.map es1 clk1))
    case first =>
      go_region
      all_goals (go_wp2_with fail; go_meet)
      all_goals rfl
    case rest =>
      have hbl : be < w2.heap.size := by obtain ⟨_, _, hm⟩ := HQC.out.he; exact hm.lt
      obtain ⟨esE, clkE, hmE⟩ := HQC.out.he
      have HLD := hid (show wc.heap[w.heap.size]? = some _ by rw [hcut]; exact put_keep hmE.blk HLC.out)
      have HID := hid (show wc.heap[w.heap.size + 1]? = some _ by rw [hcut]; exact put_keep hmE.blk HIC.out)
      have HOD := hid (show wc.heap[w1.heap.size]? = some _ by rw [hcut]; exact put_keep hmE.blk HOX.out)
      rw [← hcut] at HQ2
      have HTD := hid (show Turned (fun k => k = bo ∨ k = be) w wc by rw [hcut]; exact (Turned.of_below HBW.out.drew).trans (Turned.put _ (.inr rfl)))
      have hsz : wc.heap.size = w2.heap.size := by rw [hcut]; simp [putObj]
      clear hcut hmE b0 b1 a0 a1 o0 o1 o2 o3 c0 c1 hrun1
      have b0 := blkq0 HLD.out
      have b1 := blkq1 HLD.out
      have a0 := (blk2 HID.out).1
      have a1 := (blk2 HID.out).2
      have o0 := blkq0 HOD.out
      have o1 := blkq1 HOD.out
      have o2 := blkq2 HOD.out
      have o3 := blkc4 HOD.out
      have of := blk_fz HOD.out
      have c0 := HQ2.out.1.c0
      have hdl2 := HQ2.out.1.lt
      go_wp2
      obtain ⟨w4, hw4⟩ : ∃ w4, w4 = (wc.setCell ⟨w1.heap.size, 2, none⟩ (.int .i64 i1)).setCell ⟨w1.heap.size, 3, none⟩ (.int .i64 i2) := ⟨_, rfl⟩
      rw [← hw4]
      have hoth : ∀ k, k ≠ w1.heap.size → w4.heap[k]? = wc.heap[k]? := fun k hk => by rw [hw4, Below.heap_setCell _ _ _ _ hk, Below.heap_setCell _ _ _ _ hk]
      have HO4 := hid (show w4.heap[w1.heap.size]? = some (.cells #[.bool true, .map okv, .int .i64 i1, .int .i64 i2] 170 (0, 0)) by rw [hw4]; exact set3 (set2 HOD.out))
      have HQ4 := hid (HQ2.out.1.other hoth (by omega) HOD.out)
      have HL4 := hid ((hoth _ (by omega)).trans HLD.out)
      have HT4 := hid (show Turned (fun k => k = bo ∨ k = be) w w4 from ⟨by rw [hw4]; exact HTD.out.os, by rw [hw4]; exact HTD.out.tape, by rw [hw4]; exact HTD.out.output, by rw [hw4]; have := HTD.out.size; simpa [World.setCell] using this, fun k hk hs => by rw [hoth k (by omega), HTD.out.other k hk hs]⟩)
      clear hw4 hoth b0 b1 a0 a1 o0 o1 o2 o3 of c0
      have b0 := blkq0 HL4.out
      have b1 := blkq1 HL4.out
      have o0 := blkq0 HO4.out
      have o1 := blkq1 HO4.out
      have o2 := blkq2 HO4.out
      have o3 := blkc4 HO4.out
      have c0 := HQ4.out.c0
      have HDR := hid (show Below w4.heap.size w4 w4.drew from (Below.refl _ w4).drew)
      have hkq := HQ4.out.hk
      obtain ⟨es2, clk2, hrun2, hq2, hown2⟩ := (HQ4.out.keep HDR.out).putO HQ2.out.2 (x1, x2) ⟨true, okv, oks, (i1, i2)⟩ ((HQ4.out.hk _ (look_mem HOB.out)).keep HDR.out) (fun b hb => HQ2.out.2.kv _ (look_mem HOB.out) b hb) (fun k hk b hb => HQ2.out.2.kk _ (look_mem HOB.out) k hk b hb)
      simp only [idV, qobjV] at hrun2
      have HX := hid (And.intro hq2 (And.intro hown2 (HT4.out.trans ((Turned.of_below HDR.out).trans (Turned.put (S := fun k => k = bo ∨ k = be) (.map es2 clk2) (.inl rfl))))))
      clear hq2 hown2 hkq
      go_wp2
      go_region
      all_goals (try go_wp2)
      all_goals exact bodyPost_ret (v := .tuple #[]) (by simp [results, Tryz.results298, go_sem]) rfl ⟨⟨_, rfl⟩, HX.out.1, HX.out.2.1, HX.out.2.2⟩

end Go.Proofs.YtnkpogjiiohapaaGreatDoor

/-! PDoC: Lay's do behind another element. -/
namespace Go.Proofs.YtnkpogjiiohapaaGreatDoor
open Go.RowKit

theorem blk5 {w : World} {g : Nat} {a b c d e : Value} {t : TypeId} {f : Nat × Nat} (h : w.heap[g]? = some (.cells #[a, b, c, d, e] t f)) :
    w.cell? ⟨g, 0, none⟩ = some a ∧ w.cell? ⟨g, 1, none⟩ = some b ∧ w.cell? ⟨g, 2, none⟩ = some c ∧ w.cell? ⟨g, 3, none⟩ = some d ∧ w.cell? ⟨g, 4, none⟩ = some e := by simp [World.cell?, h]

theorem isVals.turned {S : Nat → Prop} {w w' : World} {v : Option Nat} {vs : List (PId × PVal)} (h : isVals w v vs) (ht : Turned S w w') (hs : ∀ b, v = some b → ¬ S b) : isVals w' v vs :=
  h.imp id fun ⟨b, es, clk, e, hm⟩ => ⟨b, es, clk, e, hm.blockK (ht.other b hm.lt (hs b e))⟩
theorem set5 {w : World} {g : Nat} {a b c d e u v : Value} {t : TypeId} (h : w.heap[g]? = some (.cells #[a, b, c, d, e] t (0, 0))) : ((w.setCell ⟨g, 2, none⟩ u).setCell ⟨g, 3, none⟩ v).heap[g]? = some (.cells #[a, b, u, v, e] t (0, 0)) := by
  have hl := blk_lt h
  obtain ⟨_, he⟩ := Array.getElem?_eq_some_iff.1 h
  simp [World.setCell, hl, Array.getElem_modify_self, he]

set_option maxRecDepth 1000000 in
set_option maxHeartbeats 1600000 in
theorem lay_behind {w : World} {d bo be : Nat} {R : Nat → Prop} {os : List (PId × CQObj)} {els : List (PId × CQEl)} (h : isQ w d bo be os els) (ho : QOwn bo be R os els) (x1 x2 b1 b2 i1 i2 : Int) (hl : qlist (x1, x2) os = true) (hb0 : (b1, b2) ≠ ((0 : Int), (0 : Int))) {el : CQEl} (hel : lookI (b1, b2) els = some el) (hx : el.list = (x1, x2)) :
    Calls Tryz.prog 298 #[.agg #[.int .i64 x1, .int .i64 x2, .int .i64 b1, .int .i64 b2], .pointer (some ⟨d, 0, none⟩), .agg #[.int .i64 i1, .int .i64 i2]] w fun e w' => (∃ r, e = .returned r) ∧
      isQ w' d bo be os (putI (b1, b2) { el with next := (i1, i2) } (putI (i1, i2) ⟨(x1, x2), el.next, none, []⟩ els)) ∧ QOwn bo be R os (putI (b1, b2) { el with next := (i1, i2) } (putI (i1, i2) ⟨(x1, x2), el.next, none, []⟩ els)) ∧ Turned (fun k => k = bo ∨ k = be) w w' := by
  have HB0 := hid (((Below.refl w.heap.size w).alloc (Nat.le_refl _) (.cells #[.int .i64 x1, .int .i64 x2, .int .i64 b1, .int .i64 b2] 179)).alloc (by simp) (.cells #[.int .i64 i1, .int .i64 i2] 36))
  have HL := hid (isList_q (h.keep HB0.out) x1 x2)
  rw [hl] at HL
  obtain ⟨q, ⟨n1, n2⟩, ev, evs⟩ := el
  simp only at hx
  subst hx
  have HEL := hid hel; clear hel hl
  have HH := hid h; clear h
  have HO := hid ho; clear ho
  have heq := run_idEq
  have hne := run_idNe
  have heqz : idEq b1 b2 0 0 = false := by rw [idEq_false]; exact hb0
  have heqx : idEq x1 x2 x1 x2 = true := by rw [idEq_true]
  go_enter Tryz.func298, Tryz.ntmps298
  go_wp2_with fail
  refine HL.out.mono ?_
  rintro e w1 ⟨rfl, hb1⟩
  have HLB := hid (show w1.heap[w.heap.size]? = some (.cells #[.int .i64 x1, .int .i64 x2, .int .i64 b1, .int .i64 b2] 179 (0, 0)) by rw [hb1.block w.heap.size (by simp; omega)]; exact blk_alloc (blk_new _ _))
  have HIB := hid (show w1.heap[w.heap.size + 1]? = some (.cells #[.int .i64 i1, .int .i64 i2] 36 (0, 0)) by rw [hb1.block (w.heap.size + 1) (by simp)]; exact (by simp : (w.alloc (.cells #[.int .i64 x1, .int .i64 x2, .int .i64 b1, .int .i64 b2] 179)).heap.size = w.heap.size + 1) ▸ blk_new (w.alloc (.cells #[.int .i64 x1, .int .i64 x2, .int .i64 b1, .int .i64 b2] 179)) _)
  have HB1 := hid (HB0.out.trans (hb1.mono HB0.out.size)); clear hb1
  have b0 := blkq0 HLB.out
  have b1' := blkq1 HLB.out
  have b2' := blkq2 HLB.out
  have b3 := blkc4 HLB.out
  have HQ1 := hid (HH.out.keep HB1.out)
  have c1 := HQ1.out.c1
  have l1 := (HH.out.keep HB1.out.drew).lookE b1 b2 true
  have hz1 := HB1.out.size
  have l2 := (HH.out.keep (HB1.out.alloc hz1 (.cells #[.int .i64 0, .int .i64 0, .int .i64 0, .int .i64 0, .map none] 176)).drew).lookE b1 b2 true
  rw [HEL.out] at l1 l2
  simp only [Option.map_some, Option.getD_some, Option.isSome_some, if_true, qelV] at l1 l2
  have hdl := HQ1.out.lt
  have hll := blk_lt HLB.out
  have hil := blk_lt HIB.out
  go_wp2
  go_cut [7, 8] (fun p t wc => p = .pointer (some ⟨w1.heap.size, 0, none⟩) ∧ t = .bool true ∧ wc = (w1.alloc (.cells #[.int .i64 x1, .int .i64 x2, .int .i64 n1, .int .i64 n2, .map ev] 176)).drew)
  case first =>
    go_region
    all_goals (go_wp2_with fail; go_meet)
    all_goals exact ⟨rfl, rfl, rfl⟩
  case rest =>
    obtain ⟨rfl, rfl, hwc⟩ := hcut
    have HBC := hid (show Below w1.heap.size w1 wc by rw [hwc]; exact ((Below.refl _ w1).alloc (Nat.le_refl _) _).drew)
    have HOX := hid (show wc.heap[w1.heap.size]? = some (.cells #[.int .i64 x1, .int .i64 x2, .int .i64 n1, .int .i64 n2, .map ev] 176 (0, 0)) by rw [hwc]; exact blk_new w1 _)
    have HBW := hid (HB1.out.trans (HBC.out.mono hz1))
    clear hwc b0 b1' b2' b3 c1 l1 l2
    have HQC := hid (HH.out.keep HBW.out)
    have HLC := hid (blk_keep HLB.out HBC.out)
    have HIC := hid (blk_keep HIB.out HBC.out)
    have b0 := blkq0 HLC.out
    have b1' := blkq1 HLC.out
    have a0 := (blk2 HIC.out).1
    have a1 := (blk2 HIC.out).2
    obtain ⟨o0, o1, o2, o3, o4⟩ := blk5 HOX.out
    have c1 := HQC.out.c1
    obtain ⟨es1, clk1, hrun1, hq1, hown1⟩ := (HH.out.keep HBW.out.drew).putE HO.out (i1, i2) ⟨(x1, x2), (n1, n2), none, []⟩ (.inl ⟨rfl, rfl⟩) (fun b hb => by cases hb)
    simp only [idV, qelV] at hrun1
    have HQ2 := hid (And.intro hq1 hown1); clear hq1 hown1
    obtain ⟨w2, hw2⟩ : ∃ w2, w2 = wc := ⟨_, rfl⟩
    subst hw2
    go_wp2
    go_cut [] (fun wc => wc = putObj w2.drew be (.map es1 clk1))
    case first =>
      go_region
      all_goals (go_wp2_with fail; go_meet)
      all_goals rfl
    case rest =>
      obtain ⟨esE, clkE, hmE⟩ := HQC.out.he
      have HLD := hid (show wc.heap[w.heap.size]? = some _ by rw [hcut]; exact put_keep hmE.blk HLC.out)
      have HID := hid (show wc.heap[w.heap.size + 1]? = some _ by rw [hcut]; exact put_keep hmE.blk HIC.out)
      have HOD := hid (show wc.heap[w1.heap.size]? = some _ by rw [hcut]; exact put_keep hmE.blk HOX.out)
      rw [← hcut] at HQ2
      have HTD := hid (show Turned (fun k => k = bo ∨ k = be) w wc by rw [hcut]; exact (Turned.of_below HBW.out.drew).trans (Turned.put _ (.inr rfl)))
      have hsz : wc.heap.size = w2.heap.size := by rw [hcut]; simp [putObj]
      clear hcut hmE b0 b1' a0 a1 o0 o1 o2 o3 o4 c1 hrun1
      have b2' := blkq2 HLD.out
      have b3 := blkc4 HLD.out
      have a0 := (blk2 HID.out).1
      have a1 := (blk2 HID.out).2
      obtain ⟨o0, o1, o2, o3, o4⟩ := blk5 HOD.out
      have of := blk_fz HOD.out
      have c1 := HQ2.out.1.c1
      have hdl2 := HQ2.out.1.lt
      go_wp2
      obtain ⟨w4, hw4⟩ : ∃ w4, w4 = (wc.setCell ⟨w1.heap.size, 2, none⟩ (.int .i64 i1)).setCell ⟨w1.heap.size, 3, none⟩ (.int .i64 i2) := ⟨_, rfl⟩
      rw [← hw4]
      have hoth : ∀ k, k ≠ w1.heap.size → w4.heap[k]? = wc.heap[k]? := fun k hk => by rw [hw4, Below.heap_setCell _ _ _ _ hk, Below.heap_setCell _ _ _ _ hk]
      have HO4 := hid (show w4.heap[w1.heap.size]? = some (.cells #[.int .i64 x1, .int .i64 x2, .int .i64 i1, .int .i64 i2, .map ev] 176 (0, 0)) by rw [hw4]; exact set5 HOD.out)
      have HQ4 := hid (HQ2.out.1.other hoth (by omega) HOD.out)
      have HL4 := hid ((hoth _ (by omega)).trans HLD.out)
      have HT4 := hid (show Turned (fun k => k = bo ∨ k = be) w w4 from ⟨by rw [hw4]; exact HTD.out.os, by rw [hw4]; exact HTD.out.tape, by rw [hw4]; exact HTD.out.output, by rw [hw4]; have := HTD.out.size; simpa [World.setCell] using this, fun k hk hs => by rw [hoth k (by omega), HTD.out.other k hk hs]⟩)
      clear hw4 hoth b2' b3 a0 a1 o0 o1 o2 o3 o4 of c1
      have b2' := blkq2 HL4.out
      have b3 := blkc4 HL4.out
      obtain ⟨o0, o1, o2, o3, o4⟩ := blk5 HO4.out
      have c1 := HQ4.out.c1
      have HDR := hid (show Below w4.heap.size w4 w4.drew from (Below.refl _ w4).drew)
      have HVE := hid (show isVals w4.drew ev evs from ((HH.out.hv _ (look_mem HEL.out)).turned HT4.out (fun b hb hs => hs.elim (fun e => HO.out.ro (e ▸ HO.out.vals _ (look_mem HEL.out) b hb)) (fun e => HO.out.re (e ▸ HO.out.vals _ (look_mem HEL.out) b hb)))).keep HDR.out)
      obtain ⟨es2, clk2, hrun2, hq2, hown2⟩ := (HQ4.out.keep HDR.out).putE HQ2.out.2 (b1, b2) ⟨(x1, x2), (i1, i2), ev, evs⟩ HVE.out (fun b hb => HO.out.vals _ (look_mem HEL.out) b hb)
      simp only [idV, qelV] at hrun2
      have HX := hid (And.intro hq2 (And.intro hown2 (HT4.out.trans ((Turned.of_below HDR.out).trans (Turned.put (S := fun k => k = bo ∨ k = be) (.map es2 clk2) (.inr rfl))))))
      clear hq2 hown2
      go_wp2
      go_region
      all_goals (try go_wp2)
      all_goals go_end0
      all_goals exact ⟨⟨_, rfl⟩, HX.out.1, HX.out.2.1, HX.out.2.2⟩

end Go.Proofs.YtnkpogjiiohapaaGreatDoor

/-! PDoD: Lay's do where nothing is done; all its ways together. -/
namespace Go.Proofs.YtnkpogjiiohapaaGreatDoor
open Go.RowKit

set_option maxRecDepth 1000000 in
set_option maxHeartbeats 1600000 in
theorem lay_none {w : World} {d bo be : Nat} {os : List (PId × CQObj)} {els : List (PId × CQEl)} (h : isQ w d bo be os els) (x1 x2 b1 b2 i1 i2 : Int) (hl : qlist (x1, x2) os = true) (hb0 : (b1, b2) ≠ ((0 : Int), (0 : Int))) (hel : lookI (b1, b2) els = none) :
    Calls Tryz.prog 298 #[.agg #[.int .i64 x1, .int .i64 x2, .int .i64 b1, .int .i64 b2], .pointer (some ⟨d, 0, none⟩), .agg #[.int .i64 i1, .int .i64 i2]] w fun e w' => (∃ r, e = .returned r) ∧ Below w.heap.size w w' := by
  have HB0 := hid (((Below.refl w.heap.size w).alloc (Nat.le_refl _) (.cells #[.int .i64 x1, .int .i64 x2, .int .i64 b1, .int .i64 b2] 179)).alloc (by simp) (.cells #[.int .i64 i1, .int .i64 i2] 36))
  have HL := hid (isList_q (h.keep HB0.out) x1 x2)
  rw [hl] at HL
  have HEL := hid hel; clear hel hl
  have HH := hid h; clear h
  have heq := run_idEq
  have hne := run_idNe
  have heqz : idEq b1 b2 0 0 = false := by rw [idEq_false]; exact hb0
  go_enter Tryz.func298, Tryz.ntmps298
  go_wp2_with fail
  refine HL.out.mono ?_
  rintro e w1 ⟨rfl, hb1⟩
  have HLB := hid (show w1.heap[w.heap.size]? = some (.cells #[.int .i64 x1, .int .i64 x2, .int .i64 b1, .int .i64 b2] 179 (0, 0)) by rw [hb1.block w.heap.size (by simp; omega)]; exact blk_alloc (blk_new _ _))
  have HIB := hid (show w1.heap[w.heap.size + 1]? = some (.cells #[.int .i64 i1, .int .i64 i2] 36 (0, 0)) by rw [hb1.block (w.heap.size + 1) (by simp)]; exact (by simp : (w.alloc (.cells #[.int .i64 x1, .int .i64 x2, .int .i64 b1, .int .i64 b2] 179)).heap.size = w.heap.size + 1) ▸ blk_new (w.alloc (.cells #[.int .i64 x1, .int .i64 x2, .int .i64 b1, .int .i64 b2] 179)) _)
  have HB1 := hid (HB0.out.trans (hb1.mono HB0.out.size)); clear hb1
  have b0 := blkq0 HLB.out
  have b1' := blkq1 HLB.out
  have b2' := blkq2 HLB.out
  have b3 := blkc4 HLB.out
  have HQ1 := hid (HH.out.keep HB1.out)
  have c1 := HQ1.out.c1
  have l1 := (HH.out.keep HB1.out.drew).lookE b1 b2 true
  have hz1 := HB1.out.size
  have l2 := (HH.out.keep (HB1.out.alloc hz1 (.cells #[.int .i64 0, .int .i64 0, .int .i64 0, .int .i64 0, .map none] 176)).drew).lookE b1 b2 true
  rw [HEL.out] at l1 l2
  simp only [Option.map_none, Option.getD_none, Option.isSome_none, if_true] at l1 l2
  have hdl := HQ1.out.lt
  have hll := blk_lt HLB.out
  have hil := blk_lt HIB.out
  go_wp2
  go_region
  all_goals go_wp2
  all_goals exact bodyPost_ret (v := .tuple #[]) (by simp [results, Tryz.results298, go_sem]) rfl ⟨⟨_, rfl⟩, (HB1.out.alloc hz1 _).drew⟩

set_option maxRecDepth 1000000 in
set_option maxHeartbeats 1600000 in
theorem lay_other {w : World} {d bo be : Nat} {os : List (PId × CQObj)} {els : List (PId × CQEl)} (h : isQ w d bo be os els) (x1 x2 b1 b2 i1 i2 : Int) (hl : qlist (x1, x2) os = true) (hb0 : (b1, b2) ≠ ((0 : Int), (0 : Int))) {el : CQEl} (hel : lookI (b1, b2) els = some el) (hx : el.list ≠ (x1, x2)) :
    Calls Tryz.prog 298 #[.agg #[.int .i64 x1, .int .i64 x2, .int .i64 b1, .int .i64 b2], .pointer (some ⟨d, 0, none⟩), .agg #[.int .i64 i1, .int .i64 i2]] w fun e w' => (∃ r, e = .returned r) ∧ Below w.heap.size w w' := by
  have HB0 := hid (((Below.refl w.heap.size w).alloc (Nat.le_refl _) (.cells #[.int .i64 x1, .int .i64 x2, .int .i64 b1, .int .i64 b2] 179)).alloc (by simp) (.cells #[.int .i64 i1, .int .i64 i2] 36))
  have HL := hid (isList_q (h.keep HB0.out) x1 x2)
  rw [hl] at HL
  obtain ⟨⟨q1, q2⟩, ⟨n1, n2⟩, ev, evs⟩ := el
  simp only at hx
  have HEL := hid hel; clear hel hl
  have HH := hid h; clear h
  have heq := run_idEq
  have hne := run_idNe
  have heqz : idEq b1 b2 0 0 = false := by rw [idEq_false]; exact hb0
  have heqx : idEq q1 q2 x1 x2 = false := by rw [idEq_false]; exact hx
  go_enter Tryz.func298, Tryz.ntmps298
  go_wp2_with fail
  refine HL.out.mono ?_
  rintro e w1 ⟨rfl, hb1⟩
  have HLB := hid (show w1.heap[w.heap.size]? = some (.cells #[.int .i64 x1, .int .i64 x2, .int .i64 b1, .int .i64 b2] 179 (0, 0)) by rw [hb1.block w.heap.size (by simp; omega)]; exact blk_alloc (blk_new _ _))
  have HIB := hid (show w1.heap[w.heap.size + 1]? = some (.cells #[.int .i64 i1, .int .i64 i2] 36 (0, 0)) by rw [hb1.block (w.heap.size + 1) (by simp)]; exact (by simp : (w.alloc (.cells #[.int .i64 x1, .int .i64 x2, .int .i64 b1, .int .i64 b2] 179)).heap.size = w.heap.size + 1) ▸ blk_new (w.alloc (.cells #[.int .i64 x1, .int .i64 x2, .int .i64 b1, .int .i64 b2] 179)) _)
  have HB1 := hid (HB0.out.trans (hb1.mono HB0.out.size)); clear hb1
  have b0 := blkq0 HLB.out
  have b1' := blkq1 HLB.out
  have b2' := blkq2 HLB.out
  have b3 := blkc4 HLB.out
  have HQ1 := hid (HH.out.keep HB1.out)
  have c1 := HQ1.out.c1
  have l1 := (HH.out.keep HB1.out.drew).lookE b1 b2 true
  have hz1 := HB1.out.size
  have l2 := (HH.out.keep (HB1.out.alloc hz1 (.cells #[.int .i64 0, .int .i64 0, .int .i64 0, .int .i64 0, .map none] 176)).drew).lookE b1 b2 true
  rw [HEL.out] at l1 l2
  simp only [Option.map_some, Option.getD_some, Option.isSome_some, if_true, qelV] at l1 l2
  have hdl := HQ1.out.lt
  have hll := blk_lt HLB.out
  have hil := blk_lt HIB.out
  go_wp2
  go_region
  all_goals go_wp2
  all_goals exact bodyPost_ret (v := .tuple #[]) (by simp [results, Tryz.results298, go_sem]) rfl ⟨⟨_, rfl⟩, (HB1.out.alloc hz1 _).drew⟩

/-- LAY: as the plain function says. -/
theorem lay_do {w : World} {d bo be : Nat} {R : Nat → Prop} {os : List (PId × CQObj)} {els : List (PId × CQEl)} (h : isQ w d bo be os els) (ho : QOwn bo be R os els) (x b i : PId) :
    Calls Tryz.prog 298 #[.agg #[.int .i64 x.1, .int .i64 x.2, .int .i64 b.1, .int .i64 b.2], .pointer (some ⟨d, 0, none⟩), .agg #[.int .i64 i.1, .int .i64 i.2]] w fun e w' => (∃ r, e = .returned r) ∧
      isQ w' d bo be (layQ (os, els) x b i).1 (layQ (os, els) x b i).2 ∧ QOwn bo be R (layQ (os, els) x b i).1 (layQ (os, els) x b i).2 ∧ Turned (fun k => k = bo ∨ k = be) w w' := by
  have skip : ∀ e w', (∃ r, e = Ending.returned r) ∧ Below w.heap.size w w' → (∃ r, e = .returned r) ∧ isQ w' d bo be os els ∧ QOwn bo be R os els ∧ Turned (fun k => k = bo ∨ k = be) w w' := fun e w' hh => ⟨hh.1, h.keep hh.2, ho, Turned.of_below hh.2⟩
  obtain ⟨x1, x2⟩ := x
  obtain ⟨b1, b2⟩ := b
  obtain ⟨i1, i2⟩ := i
  cases hob : lookI (x1, x2) os with
  | none =>
    have e1 : layQ (os, els) (x1, x2) (b1, b2) (i1, i2) = (os, els) := by simp [layQ, hob]
    rw [e1]
    exact (lay_no h x1 x2 b1 b2 i1 i2 (by simp [qlist, hob])).mono skip
  | some ob =>
    cases hl : ob.list with
    | false =>
      have e1 : layQ (os, els) (x1, x2) (b1, b2) (i1, i2) = (os, els) := by simp [layQ, hob, hl]
      rw [e1]
      exact (lay_no h x1 x2 b1 b2 i1 i2 (by simp [qlist, hob, hl])).mono skip
    | true =>
      have hq : qlist (x1, x2) os = true := by simp [qlist, hob, hl]
      by_cases hb : (b1, b2) = ((0 : Int), (0 : Int))
      · injection hb with hb1 hb2
        subst hb1; subst hb2
        have e1 : layQ (os, els) (x1, x2) (0, 0) (i1, i2) = (putI (x1, x2) { ob with first := (i1, i2) } os, putI (i1, i2) ⟨(x1, x2), ob.first, none, []⟩ els) := by simp [layQ, hob, hl]
        rw [e1]
        exact lay_zero h ho x1 x2 i1 i2 hob hl
      · cases hel : lookI (b1, b2) els with
        | none =>
          have e1 : layQ (os, els) (x1, x2) (b1, b2) (i1, i2) = (os, els) := by simp only [layQ, hob, hl, hel]; rw [if_neg (by simp), if_neg hb]
          rw [e1]
          exact (lay_none h x1 x2 b1 b2 i1 i2 hq hb hel).mono skip
        | some el =>
          by_cases hx : el.list = (x1, x2)
          · have e1 : layQ (os, els) (x1, x2) (b1, b2) (i1, i2) = (os, putI (b1, b2) { el with next := (i1, i2) } (putI (i1, i2) ⟨(x1, x2), el.next, none, []⟩ els)) := by simp only [layQ, hob, hl, hel]; rw [if_neg (by simp), if_neg hb, if_pos hx]
            rw [e1]
            exact lay_behind h ho x1 x2 b1 b2 i1 i2 hq hb hel hx
          · have e1 : layQ (os, els) (x1, x2) (b1, b2) (i1, i2) = (os, els) := by simp only [layQ, hob, hl, hel]; rw [if_neg (by simp), if_neg hb, if_neg hx]
            rw [e1]
            exact (lay_other h x1 x2 b1 b2 i1 i2 hq hb hel hx).mono skip

end Go.Proofs.YtnkpogjiiohapaaGreatDoor
