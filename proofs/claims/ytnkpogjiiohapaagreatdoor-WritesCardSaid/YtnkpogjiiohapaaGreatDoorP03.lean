/- Our own text (PDoB, PDoC, PDoD, PKeysA, PKeysB, PCopyA, PCopyB). -/
import Derived.Deep.DeepCutAuto
import Derived.Test.YtnkpogjiiohapaaGreatDoorP02
set_option linter.unusedSimpArgs false
set_option linter.unusedVariables false

/-! PDoB: Lay's do. -/
namespace Go.Proofs.YtnkpogjiiohapaaGreatDoor
open Go.RowKit

theorem put_keep {w : World} {b g : Nat} {es : Array MapEntry} {clk : Nat} {o : Obj} {c : Array Value} {t : TypeId} {f : Nat × Nat} (hb : w.heap[b]? = some (.map es clk)) (hg : w.heap[g]? = some (.cells c t f)) : (putObj w.drew b o).heap[g]? = some (.cells c t f) := by
  rw [putObj_other (fun e => by subst e; rw [hb] at hg; cases hg)]; exact hg

/-- A block of cells turns that is not the document's: the document is as it was. -/
theorem isQ.other {w w' : World} {d bo be : Nat} {os : List (PId × CQObj)} {els : List (PId × CQEl)} (h : isQ w d bo be os els) {g : Nat} {c : Array Value} {t : TypeId} {f : Nat × Nat} (hw : ∀ k, k ≠ g → w'.heap[k]? = w.heap[k]?) (hd : d ≠ g) (hg : w.heap[g]? = some (.cells c t f)) : isQ w' d bo be os els := by
  have hm : ∀ {b : Nat} {es : Array MapEntry} {clk : Nat}, w.heap[b]? = some (.map es clk) → w'.heap[b]? = w.heap[b]? := fun hb => hw _ (fun e => by subst e; rw [hb] at hg; cases hg)
  obtain ⟨es, clk, ho⟩ := h.ho
  obtain ⟨es2, clk2, he⟩ := h.he
  have hv : ∀ {v : Option Nat} {vs : List (PId × PVal)}, isVals w v vs → isVals w' v vs := fun hv => hv.imp id fun ⟨b, es, clk, e, hm'⟩ => ⟨b, es, clk, e, hm'.blockK (hm hm'.blk)⟩
  exact ⟨by rw [hw d hd]; exact h.hd, ⟨es, clk, ho.blockK (hm ho.blk)⟩, ⟨es2, clk2, he.blockK (hm he.blk)⟩,
    fun p hp => ⟨(h.hk p hp).1.imp id fun ⟨b, es, clk, e, hm'⟩ => ⟨b, es, clk, e, hm'.blockK (hm hm'.blk)⟩, fun k hk => hv ((h.hk p hp).2 k hk)⟩, fun p hp => hv (h.hv p hp)⟩

abbrev QDoc := List (PId × CQObj) × List (PId × CQEl)
def layQ (D : QDoc) (x b id : PId) : QDoc :=
  match lookI x D.1 with
  | none => D
  | some ob =>
    if ob.list = false then D
    else if b = (0, 0) then (putI x { ob with first := id } D.1, putI id ⟨x, ob.first, none, []⟩ D.2)
    else match lookI b D.2 with
      | none => D
      | some e => if e.list = x then (D.1, putI b { e with next := id } (putI id ⟨x, e.next, none, []⟩ D.2)) else D

set_option maxRecDepth 1000000 in
set_option maxHeartbeats 800000 in
/-- Into what is no list: nothing is done. -/
theorem lay_no {w : World} {d bo be : Nat} {os : List (PId × CQObj)} {els : List (PId × CQEl)} (h : isQ w d bo be os els) (x1 x2 b1 b2 i1 i2 : Int) (hl : qlist (x1, x2) os = false) :
    Calls Tryz.prog 298 #[.agg #[.int .i64 x1, .int .i64 x2, .int .i64 b1, .int .i64 b2], .pointer (some ⟨d, 0, none⟩), .agg #[.int .i64 i1, .int .i64 i2]] w fun e w' => (∃ r, e = .returned r) ∧ Below w.heap.size w w' := by
  have HB0 := hid (((Below.refl w.heap.size w).alloc (Nat.le_refl _) (.cells #[.int .i64 x1, .int .i64 x2, .int .i64 b1, .int .i64 b2] 179)).alloc (by simp) (.cells #[.int .i64 i1, .int .i64 i2] 36))
  have HL := hid (isList_q (h.keep HB0.out) x1 x2)
  rw [hl] at HL
  clear h hl
  go_enter Tryz.func298, Tryz.ntmps298
  go_wp2_with fail
  refine HL.out.mono ?_
  rintro e w1 ⟨rfl, hb1⟩
  have HB1 := hid (HB0.out.trans (hb1.mono HB0.out.size)); clear hb1
  go_wp2
  exact bodyPost_ret (v := .tuple #[]) (by simp [results, Tryz.results298, go_sem]) rfl ⟨⟨_, rfl⟩, HB1.out⟩

set_option maxRecDepth 1000000 in
set_option maxHeartbeats 800000 in
/-- At the beginning. -/
theorem lay_zero {w : World} {d bo be : Nat} {R : Nat → Prop} {os : List (PId × CQObj)} {els : List (PId × CQEl)} (h : isQ w d bo be os els) (ho : QOwn bo be R os els) (x1 x2 i1 i2 : Int) {ob : CQObj} (hob : lookI (x1, x2) os = some ob) (hl : ob.list = true) :
    Calls Tryz.prog 298 #[.agg #[.int .i64 x1, .int .i64 x2, .int .i64 0, .int .i64 0], .pointer (some ⟨d, 0, none⟩), .agg #[.int .i64 i1, .int .i64 i2]] w fun e w' => (∃ r, e = .returned r) ∧
      isQ w' d bo be (putI (x1, x2) { ob with first := (i1, i2) } os) (putI (i1, i2) ⟨(x1, x2), ob.first, none, []⟩ els) ∧ QOwn bo be R (putI (x1, x2) { ob with first := (i1, i2) } os) (putI (i1, i2) ⟨(x1, x2), ob.first, none, []⟩ els) ∧ Turned (fun k => k = bo ∨ k = be) w w' := by
  have HB0 := hid (((Below.refl w.heap.size w).alloc (Nat.le_refl _) (.cells #[.int .i64 x1, .int .i64 x2, .int .i64 0, .int .i64 0] 179)).alloc (by simp) (.cells #[.int .i64 i1, .int .i64 i2] 36))
  have HL := hid (isList_q (h.keep HB0.out) x1 x2)
  have hq : qlist (x1, x2) os = true := by unfold qlist; rw [hob]; exact hl
  rw [hq] at HL
  obtain ⟨ol, okv, oks, ⟨f1, f2⟩⟩ := ob
  simp only at hl
  subst hl
  have HOB := hid hob; clear hob hq
  have HH := hid h; clear h
  have HO := hid ho; clear ho
  have heq := run_idEq
  have heqz : idEq 0 0 0 0 = true := rfl
  go_enter Tryz.func298, Tryz.ntmps298
  go_wp2_with fail
  refine HL.out.mono ?_
  rintro e w1 ⟨rfl, hb1⟩
  have HLB := hid (show w1.heap[w.heap.size]? = some (.cells #[.int .i64 x1, .int .i64 x2, .int .i64 0, .int .i64 0] 179 (0, 0)) by rw [hb1.block w.heap.size (by simp; omega)]; exact blk_alloc (blk_new _ _))
  have HIB := hid (show w1.heap[w.heap.size + 1]? = some (.cells #[.int .i64 i1, .int .i64 i2] 36 (0, 0)) by rw [hb1.block (w.heap.size + 1) (by simp)]; exact (by simp : (w.alloc (.cells #[.int .i64 x1, .int .i64 x2, .int .i64 0, .int .i64 0] 179)).heap.size = w.heap.size + 1) ▸ blk_new (w.alloc (.cells #[.int .i64 x1, .int .i64 x2, .int .i64 0, .int .i64 0] 179)) _)
  have HB1 := hid (HB0.out.trans (hb1.mono HB0.out.size)); clear hb1
  have b0 := blkq0 HLB.out
  have b1 := blkq1 HLB.out
  have b2 := blkq2 HLB.out
  have b3 := blkc4 HLB.out
  have a0 := (blk2 HIB.out).1
  have a1 := (blk2 HIB.out).2
  have HQ1 := hid (HH.out.keep HB1.out)
  have c0 := HQ1.out.c0
  have c1 := HQ1.out.c1
  have l1 := (HH.out.keep HB1.out.drew).lookO x1 x2 false
  have hz1 := HB1.out.size
  have l2 := (HH.out.keep (HB1.out.alloc hz1 (.cells #[.bool false, .map none, .int .i64 0, .int .i64 0] 170)).drew).lookO x1 x2 false
  rw [HOB.out] at l1 l2
  simp only [Option.map_some, Option.getD_some, Bool.false_eq_true, if_false, qobjV] at l1 l2
  have hdl := HQ1.out.lt
  have hll := blk_lt HLB.out
  have hil := blk_lt HIB.out
  go_wp2
  go_cut [6] (fun p wc => p = .pointer (some ⟨w1.heap.size, 0, none⟩) ∧ wc = (w1.alloc (.cells #[.bool true, .map okv, .int .i64 f1, .int .i64 f2] 170)).drew)
  case first =>
    go_region
    all_goals (go_wp2_with fail; go_meet)
    all_goals exact ⟨rfl, rfl⟩
  case rest =>
    obtain ⟨rfl, hwc⟩ := hcut
    have HBC := hid (show Below w1.heap.size w1 wc by rw [hwc]; exact ((Below.refl _ w1).alloc (Nat.le_refl _) _).drew)
    have HOX := hid (show wc.heap[w1.heap.size]? = some (.cells #[.bool true, .map okv, .int .i64 f1, .int .i64 f2] 170 (0, 0)) by rw [hwc]; exact blk_new w1 _)
    have HBW := hid (HB1.out.trans (HBC.out.mono hz1))
    clear hwc b0 b1 b2 b3 a0 a1 c0 c1 l1 l2
    have HQC := hid (HH.out.keep HBW.out)
    have HLC := hid (blk_keep HLB.out HBC.out)
    have HIC := hid (blk_keep HIB.out HBC.out)
    have b0 := blkq0 HLC.out
    have b1 := blkq1 HLC.out
    have a0 := (blk2 HIC.out).1
    have a1 := (blk2 HIC.out).2
    have o0 := blkq0 HOX.out
    have o1 := blkq1 HOX.out
    have o2 := blkq2 HOX.out
    have o3 := blkc4 HOX.out
    have c0 := HQC.out.c0
    have c1 := HQC.out.c1
    obtain ⟨es1, clk1, hrun1, hq1, hown1⟩ := (HH.out.keep HBW.out.drew).putE HO.out (i1, i2) ⟨(x1, x2), (f1, f2), none, []⟩ (.inl ⟨rfl, rfl⟩) (fun b hb => by cases hb)
    simp only [idV, qelV] at hrun1
    have HQ2 := hid (And.intro hq1 hown1); clear hq1 hown1
    obtain ⟨w2, hw2⟩ : ∃ w2, w2 = wc := ⟨_, rfl⟩
    subst hw2
    go_wp2
    go_cut [] (fun wc => wc = putObj w2.drew be (.map es1 clk1))
    case first =>
      go_region
      all_goals (go_wp2_with fail; go_meet)
      all_goals rfl
    case rest =>
      have hbl : be < w2.heap.size := by obtain ⟨_, _, hm⟩ := HQC.out.he; exact hm.lt
      obtain ⟨esE, clkE, hmE⟩ := HQC.out.he
      have HLD := hid (show wc.heap[w.heap.size]? = some _ by rw [hcut]; exact put_keep hmE.blk HLC.out)
      have HID := hid (show wc.heap[w.heap.size + 1]? = some _ by rw [hcut]; exact put_keep hmE.blk HIC.out)
      have HOD := hid (show wc.heap[w1.heap.size]? = some _ by rw [hcut]; exact put_keep hmE.blk HOX.out)
      rw [← hcut] at HQ2
      have HTD := hid (show Turned (fun k => k = bo ∨ k = be) w wc by rw [hcut]; exact (Turned.of_below HBW.out.drew).trans (Turned.put _ (.inr rfl)))
      have hsz : wc.heap.size = w2.heap.size := by rw [hcut]; simp [putObj]
      clear hcut hmE b0 b1 a0 a1 o0 o1 o2 o3 c0 c1 hrun1
      have b0 := blkq0 HLD.out
      have b1 := blkq1 HLD.out
      have a0 := (blk2 HID.out).1
      have a1 := (blk2 HID.out).2
      have o0 := blkq0 HOD.out
      have o1 := blkq1 HOD.out
      have o2 := blkq2 HOD.out
      have o3 := blkc4 HOD.out
      have of := blk_fz HOD.out
      have c0 := HQ2.out.1.c0
      have hdl2 := HQ2.out.1.lt
      go_wp2
      obtain ⟨w4, hw4⟩ : ∃ w4, w4 = (wc.setCell ⟨w1.heap.size, 2, none⟩ (.int .i64 i1)).setCell ⟨w1.heap.size, 3, none⟩ (.int .i64 i2) := ⟨_, rfl⟩
      rw [← hw4]
      have hoth : ∀ k, k ≠ w1.heap.size → w4.heap[k]? = wc.heap[k]? := fun k hk => by rw [hw4, Below.heap_setCell _ _ _ _ hk, Below.heap_setCell _ _ _ _ hk]
      have HO4 := hid (show w4.heap[w1.heap.size]? = some (.cells #[.bool true, .map okv, .int .i64 i1, .int .i64 i2] 170 (0, 0)) by rw [hw4]; exact set3 (set2 HOD.out))
      have HQ4 := hid (HQ2.out.1.other hoth (by omega) HOD.out)
      have HL4 := hid ((hoth _ (by omega)).trans HLD.out)
      have HT4 := hid (show Turned (fun k => k = bo ∨ k = be) w w4 from ⟨by rw [hw4]; exact HTD.out.os, by rw [hw4]; exact HTD.out.tape, by rw [hw4]; exact HTD.out.output, by rw [hw4]; have := HTD.out.size; simpa [World.setCell] using this, fun k hk hs => by rw [hoth k (by omega), HTD.out.other k hk hs]⟩)
      clear hw4 hoth b0 b1 a0 a1 o0 o1 o2 o3 of c0
      have b0 := blkq0 HL4.out
      have b1 := blkq1 HL4.out
      have o0 := blkq0 HO4.out
      have o1 := blkq1 HO4.out
      have o2 := blkq2 HO4.out
      have o3 := blkc4 HO4.out
      have c0 := HQ4.out.c0
      have HDR := hid (show Below w4.heap.size w4 w4.drew from (Below.refl _ w4).drew)
      have hkq := HQ4.out.hk
      obtain ⟨es2, clk2, hrun2, hq2, hown2⟩ := (HQ4.out.keep HDR.out).putO HQ2.out.2 (x1, x2) ⟨true, okv, oks, (i1, i2)⟩ ((HQ4.out.hk _ (look_mem HOB.out)).keep HDR.out) (fun b hb => HQ2.out.2.kv _ (look_mem HOB.out) b hb) (fun k hk b hb => HQ2.out.2.kk _ (look_mem HOB.out) k hk b hb)
      simp only [idV, qobjV] at hrun2
      have HX := hid (And.intro hq2 (And.intro hown2 (HT4.out.trans ((Turned.of_below HDR.out).trans (Turned.put (S := fun k => k = bo ∨ k = be) (.map es2 clk2) (.inl rfl))))))
      clear hq2 hown2 hkq
      go_wp2
      go_region
      all_goals (try go_wp2)
      all_goals exact bodyPost_ret (v := .tuple #[]) (by simp [results, Tryz.results298, go_sem]) rfl ⟨⟨_, rfl⟩, HX.out.1, HX.out.2.1, HX.out.2.2⟩

end Go.Proofs.YtnkpogjiiohapaaGreatDoor

/-! PDoC: Lay's do behind another element. -/
namespace Go.Proofs.YtnkpogjiiohapaaGreatDoor
open Go.RowKit

theorem blk5 {w : World} {g : Nat} {a b c d e : Value} {t : TypeId} {f : Nat × Nat} (h : w.heap[g]? = some (.cells #[a, b, c, d, e] t f)) :
    w.cell? ⟨g, 0, none⟩ = some a ∧ w.cell? ⟨g, 1, none⟩ = some b ∧ w.cell? ⟨g, 2, none⟩ = some c ∧ w.cell? ⟨g, 3, none⟩ = some d ∧ w.cell? ⟨g, 4, none⟩ = some e := by simp [World.cell?, h]

theorem isVals.turned {S : Nat → Prop} {w w' : World} {v : Option Nat} {vs : List (PId × PVal)} (h : isVals w v vs) (ht : Turned S w w') (hs : ∀ b, v = some b → ¬ S b) : isVals w' v vs :=
  h.imp id fun ⟨b, es, clk, e, hm⟩ => ⟨b, es, clk, e, hm.blockK (ht.other b hm.lt (hs b e))⟩
theorem set5 {w : World} {g : Nat} {a b c d e u v : Value} {t : TypeId} (h : w.heap[g]? = some (.cells #[a, b, c, d, e] t (0, 0))) : ((w.setCell ⟨g, 2, none⟩ u).setCell ⟨g, 3, none⟩ v).heap[g]? = some (.cells #[a, b, u, v, e] t (0, 0)) := by
  have hl := blk_lt h
  obtain ⟨_, he⟩ := Array.getElem?_eq_some_iff.1 h
  simp [World.setCell, hl, Array.getElem_modify_self, he]

set_option maxRecDepth 1000000 in
set_option maxHeartbeats 1600000 in
theorem lay_behind {w : World} {d bo be : Nat} {R : Nat → Prop} {os : List (PId × CQObj)} {els : List (PId × CQEl)} (h : isQ w d bo be os els) (ho : QOwn bo be R os els) (x1 x2 b1 b2 i1 i2 : Int) (hl : qlist (x1, x2) os = true) (hb0 : (b1, b2) ≠ ((0 : Int), (0 : Int))) {el : CQEl} (hel : lookI (b1, b2) els = some el) (hx : el.list = (x1, x2)) :
    Calls Tryz.prog 298 #[.agg #[.int .i64 x1, .int .i64 x2, .int .i64 b1, .int .i64 b2], .pointer (some ⟨d, 0, none⟩), .agg #[.int .i64 i1, .int .i64 i2]] w fun e w' => (∃ r, e = .returned r) ∧
      isQ w' d bo be os (putI (b1, b2) { el with next := (i1, i2) } (putI (i1, i2) ⟨(x1, x2), el.next, none, []⟩ els)) ∧ QOwn bo be R os (putI (b1, b2) { el with next := (i1, i2) } (putI (i1, i2) ⟨(x1, x2), el.next, none, []⟩ els)) ∧ Turned (fun k => k = bo ∨ k = be) w w' := by
  have HB0 := hid (((Below.refl w.heap.size w).alloc (Nat.le_refl _) (.cells #[.int .i64 x1, .int .i64 x2, .int .i64 b1, .int .i64 b2] 179)).alloc (by simp) (.cells #[.int .i64 i1, .int .i64 i2] 36))
  have HL := hid (isList_q (h.keep HB0.out) x1 x2)
  rw [hl] at HL
  obtain ⟨q, ⟨n1, n2⟩, ev, evs⟩ := el
  simp only at hx
  subst hx
  have HEL := hid hel; clear hel hl
  have HH := hid h; clear h
  have HO := hid ho; clear ho
  have heq := run_idEq
  have hne := run_idNe
  have heqz : idEq b1 b2 0 0 = false := by rw [idEq_false]; exact hb0
  have heqx : idEq x1 x2 x1 x2 = true := by rw [idEq_true]
  go_enter Tryz.func298, Tryz.ntmps298
  go_wp2_with fail
  refine HL.out.mono ?_
  rintro e w1 ⟨rfl, hb1⟩
  have HLB := hid (show w1.heap[w.heap.size]? = some (.cells #[.int .i64 x1, .int .i64 x2, .int .i64 b1, .int .i64 b2] 179 (0, 0)) by rw [hb1.block w.heap.size (by simp; omega)]; exact blk_alloc (blk_new _ _))
  have HIB := hid (show w1.heap[w.heap.size + 1]? = some (.cells #[.int .i64 i1, .int .i64 i2] 36 (0, 0)) by rw [hb1.block (w.heap.size + 1) (by simp)]; exact (by simp : (w.alloc (.cells #[.int .i64 x1, .int .i64 x2, .int .i64 b1, .int .i64 b2] 179)).heap.size = w.heap.size + 1) ▸ blk_new (w.alloc (.cells #[.int .i64 x1, .int .i64 x2, .int .i64 b1, .int .i64 b2] 179)) _)
  have HB1 := hid (HB0.out.trans (hb1.mono HB0.out.size)); clear hb1
  have b0 := blkq0 HLB.out
  have b1' := blkq1 HLB.out
  have b2' := blkq2 HLB.out
  have b3 := blkc4 HLB.out
  have HQ1 := hid (HH.out.keep HB1.out)
  have c1 := HQ1.out.c1
  have l1 := (HH.out.keep HB1.out.drew).lookE b1 b2 true
  have hz1 := HB1.out.size
  have l2 := (HH.out.keep (HB1.out.alloc hz1 (.cells #[.int .i64 0, .int .i64 0, .int .i64 0, .int .i64 0, .map none] 176)).drew).lookE b1 b2 true
  rw [HEL.out] at l1 l2
  simp only [Option.map_some, Option.getD_some, Option.isSome_some, if_true, qelV] at l1 l2
  have hdl := HQ1.out.lt
  have hll := blk_lt HLB.out
  have hil := blk_lt HIB.out
  go_wp2
  go_cut [7, 8] (fun p t wc => p = .pointer (some ⟨w1.heap.size, 0, none⟩) ∧ t = .bool true ∧ wc = (w1.alloc (.cells #[.int .i64 x1, .int .i64 x2, .int .i64 n1, .int .i64 n2, .map ev] 176)).drew)
  case first =>
    go_region
    all_goals (go_wp2_with fail; go_meet)
    all_goals exact ⟨rfl, rfl, rfl⟩
  case rest =>
    obtain ⟨rfl, rfl, hwc⟩ := hcut
    have HBC := hid (show Below w1.heap.size w1 wc by rw [hwc]; exact ((Below.refl _ w1).alloc (Nat.le_refl _) _).drew)
    have HOX := hid (show wc.heap[w1.heap.size]? = some (.cells #[.int .i64 x1, .int .i64 x2, .int .i64 n1, .int .i64 n2, .map ev] 176 (0, 0)) by rw [hwc]; exact blk_new w1 _)
    have HBW := hid (HB1.out.trans (HBC.out.mono hz1))
    clear hwc b0 b1' b2' b3 c1 l1 l2
    have HQC := hid (HH.out.keep HBW.out)
    have HLC := hid (blk_keep HLB.out HBC.out)
    have HIC := hid (blk_keep HIB.out HBC.out)
    have b0 := blkq0 HLC.out
    have b1' := blkq1 HLC.out
    have a0 := (blk2 HIC.out).1
    have a1 := (blk2 HIC.out).2
    obtain ⟨o0, o1, o2, o3, o4⟩ := blk5 HOX.out
    have c1 := HQC.out.c1
    obtain ⟨es1, clk1, hrun1, hq1, hown1⟩ := (HH.out.keep HBW.out.drew).putE HO.out (i1, i2) ⟨(x1, x2), (n1, n2), none, []⟩ (.inl ⟨rfl, rfl⟩) (fun b hb => by cases hb)
    simp only [idV, qelV] at hrun1
    have HQ2 := hid (And.intro hq1 hown1); clear hq1 hown1
    obtain ⟨w2, hw2⟩ : ∃ w2, w2 = wc := ⟨_, rfl⟩
    subst hw2
    go_wp2
    go_cut [] (fun wc => wc = putObj w2.drew be (.map es1 clk1))
    case first =>
      go_region
      all_goals (go_wp2_with fail; go_meet)
      all_goals rfl
    case rest =>
      obtain ⟨esE, clkE, hmE⟩ := HQC.out.he
      have HLD := hid (show wc.heap[w.heap.size]? = some _ by rw [hcut]; exact put_keep hmE.blk HLC.out)
      have HID := hid (show wc.heap[w.heap.size + 1]? = some _ by rw [hcut]; exact put_keep hmE.blk HIC.out)
      have HOD := hid (show wc.heap[w1.heap.size]? = some _ by rw [hcut]; exact put_keep hmE.blk HOX.out)
      rw [← hcut] at HQ2
      have HTD := hid (show Turned (fun k => k = bo ∨ k = be) w wc by rw [hcut]; exact (Turned.of_below HBW.out.drew).trans (Turned.put _ (.inr rfl)))
      have hsz : wc.heap.size = w2.heap.size := by rw [hcut]; simp [putObj]
      clear hcut hmE b0 b1' a0 a1 o0 o1 o2 o3 o4 c1 hrun1
      have b2' := blkq2 HLD.out
      have b3 := blkc4 HLD.out
      have a0 := (blk2 HID.out).1
      have a1 := (blk2 HID.out).2
      obtain ⟨o0, o1, o2, o3, o4⟩ := blk5 HOD.out
      have of := blk_fz HOD.out
      have c1 := HQ2.out.1.c1
      have hdl2 := HQ2.out.1.lt
      go_wp2
      obtain ⟨w4, hw4⟩ : ∃ w4, w4 = (wc.setCell ⟨w1.heap.size, 2, none⟩ (.int .i64 i1)).setCell ⟨w1.heap.size, 3, none⟩ (.int .i64 i2) := ⟨_, rfl⟩
      rw [← hw4]
      have hoth : ∀ k, k ≠ w1.heap.size → w4.heap[k]? = wc.heap[k]? := fun k hk => by rw [hw4, Below.heap_setCell _ _ _ _ hk, Below.heap_setCell _ _ _ _ hk]
      have HO4 := hid (show w4.heap[w1.heap.size]? = some (.cells #[.int .i64 x1, .int .i64 x2, .int .i64 i1, .int .i64 i2, .map ev] 176 (0, 0)) by rw [hw4]; exact set5 HOD.out)
      have HQ4 := hid (HQ2.out.1.other hoth (by omega) HOD.out)
      have HL4 := hid ((hoth _ (by omega)).trans HLD.out)
      have HT4 := hid (show Turned (fun k => k = bo ∨ k = be) w w4 from ⟨by rw [hw4]; exact HTD.out.os, by rw [hw4]; exact HTD.out.tape, by rw [hw4]; exact HTD.out.output, by rw [hw4]; have := HTD.out.size; simpa [World.setCell] using this, fun k hk hs => by rw [hoth k (by omega), HTD.out.other k hk hs]⟩)
      clear hw4 hoth b2' b3 a0 a1 o0 o1 o2 o3 o4 of c1
      have b2' := blkq2 HL4.out
      have b3 := blkc4 HL4.out
      obtain ⟨o0, o1, o2, o3, o4⟩ := blk5 HO4.out
      have c1 := HQ4.out.c1
      have HDR := hid (show Below w4.heap.size w4 w4.drew from (Below.refl _ w4).drew)
      have HVE := hid (show isVals w4.drew ev evs from ((HH.out.hv _ (look_mem HEL.out)).turned HT4.out (fun b hb hs => hs.elim (fun e => HO.out.ro (e ▸ HO.out.vals _ (look_mem HEL.out) b hb)) (fun e => HO.out.re (e ▸ HO.out.vals _ (look_mem HEL.out) b hb)))).keep HDR.out)
      obtain ⟨es2, clk2, hrun2, hq2, hown2⟩ := (HQ4.out.keep HDR.out).putE HQ2.out.2 (b1, b2) ⟨(x1, x2), (i1, i2), ev, evs⟩ HVE.out (fun b hb => HO.out.vals _ (look_mem HEL.out) b hb)
      simp only [idV, qelV] at hrun2
      have HX := hid (And.intro hq2 (And.intro hown2 (HT4.out.trans ((Turned.of_below HDR.out).trans (Turned.put (S := fun k => k = bo ∨ k = be) (.map es2 clk2) (.inr rfl))))))
      clear hq2 hown2
      go_wp2
      go_region
      all_goals (try go_wp2)
      all_goals go_end0
      all_goals exact ⟨⟨_, rfl⟩, HX.out.1, HX.out.2.1, HX.out.2.2⟩

end Go.Proofs.YtnkpogjiiohapaaGreatDoor

/-! PDoD: Lay's do where nothing is done; all its ways together. -/
namespace Go.Proofs.YtnkpogjiiohapaaGreatDoor
open Go.RowKit

set_option maxRecDepth 1000000 in
set_option maxHeartbeats 1600000 in
theorem lay_none {w : World} {d bo be : Nat} {os : List (PId × CQObj)} {els : List (PId × CQEl)} (h : isQ w d bo be os els) (x1 x2 b1 b2 i1 i2 : Int) (hl : qlist (x1, x2) os = true) (hb0 : (b1, b2) ≠ ((0 : Int), (0 : Int))) (hel : lookI (b1, b2) els = none) :
    Calls Tryz.prog 298 #[.agg #[.int .i64 x1, .int .i64 x2, .int .i64 b1, .int .i64 b2], .pointer (some ⟨d, 0, none⟩), .agg #[.int .i64 i1, .int .i64 i2]] w fun e w' => (∃ r, e = .returned r) ∧ Below w.heap.size w w' := by
  have HB0 := hid (((Below.refl w.heap.size w).alloc (Nat.le_refl _) (.cells #[.int .i64 x1, .int .i64 x2, .int .i64 b1, .int .i64 b2] 179)).alloc (by simp) (.cells #[.int .i64 i1, .int .i64 i2] 36))
  have HL := hid (isList_q (h.keep HB0.out) x1 x2)
  rw [hl] at HL
  have HEL := hid hel; clear hel hl
  have HH := hid h; clear h
  have heq := run_idEq
  have hne := run_idNe
  have heqz : idEq b1 b2 0 0 = false := by rw [idEq_false]; exact hb0
  go_enter Tryz.func298, Tryz.ntmps298
  go_wp2_with fail
  refine HL.out.mono ?_
  rintro e w1 ⟨rfl, hb1⟩
  have HLB := hid (show w1.heap[w.heap.size]? = some (.cells #[.int .i64 x1, .int .i64 x2, .int .i64 b1, .int .i64 b2] 179 (0, 0)) by rw [hb1.block w.heap.size (by simp; omega)]; exact blk_alloc (blk_new _ _))
  have HIB := hid (show w1.heap[w.heap.size + 1]? = some (.cells #[.int .i64 i1, .int .i64 i2] 36 (0, 0)) by rw [hb1.block (w.heap.size + 1) (by simp)]; exact (by simp : (w.alloc (.cells #[.int .i64 x1, .int .i64 x2, .int .i64 b1, .int .i64 b2] 179)).heap.size = w.heap.size + 1) ▸ blk_new (w.alloc (.cells #[.int .i64 x1, .int .i64 x2, .int .i64 b1, .int .i64 b2] 179)) _)
  have HB1 := hid (HB0.out.trans (hb1.mono HB0.out.size)); clear hb1
  have b0 := blkq0 HLB.out
  have b1' := blkq1 HLB.out
  have b2' := blkq2 HLB.out
  have b3 := blkc4 HLB.out
  have HQ1 := hid (HH.out.keep HB1.out)
  have c1 := HQ1.out.c1
  have l1 := (HH.out.keep HB1.out.drew).lookE b1 b2 true
  have hz1 := HB1.out.size
  have l2 := (HH.out.keep (HB1.out.alloc hz1 (.cells #[.int .i64 0, .int .i64 0, .int .i64 0, .int .i64 0, .map none] 176)).drew).lookE b1 b2 true
  rw [HEL.out] at l1 l2
  simp only [Option.map_none, Option.getD_none, Option.isSome_none, if_true] at l1 l2
  have hdl := HQ1.out.lt
  have hll := blk_lt HLB.out
  have hil := blk_lt HIB.out
  go_wp2
  go_region
  all_goals go_wp2
  all_goals exact bodyPost_ret (v := .tuple #[]) (by simp [results, Tryz.results298, go_sem]) rfl ⟨⟨_, rfl⟩, (HB1.out.alloc hz1 _).drew⟩

set_option maxRecDepth 1000000 in
set_option maxHeartbeats 1600000 in
theorem lay_other {w : World} {d bo be : Nat} {os : List (PId × CQObj)} {els : List (PId × CQEl)} (h : isQ w d bo be os els) (x1 x2 b1 b2 i1 i2 : Int) (hl : qlist (x1, x2) os = true) (hb0 : (b1, b2) ≠ ((0 : Int), (0 : Int))) {el : CQEl} (hel : lookI (b1, b2) els = some el) (hx : el.list ≠ (x1, x2)) :
    Calls Tryz.prog 298 #[.agg #[.int .i64 x1, .int .i64 x2, .int .i64 b1, .int .i64 b2], .pointer (some ⟨d, 0, none⟩), .agg #[.int .i64 i1, .int .i64 i2]] w fun e w' => (∃ r, e = .returned r) ∧ Below w.heap.size w w' := by
  have HB0 := hid (((Below.refl w.heap.size w).alloc (Nat.le_refl _) (.cells #[.int .i64 x1, .int .i64 x2, .int .i64 b1, .int .i64 b2] 179)).alloc (by simp) (.cells #[.int .i64 i1, .int .i64 i2] 36))
  have HL := hid (isList_q (h.keep HB0.out) x1 x2)
  rw [hl] at HL
  obtain ⟨⟨q1, q2⟩, ⟨n1, n2⟩, ev, evs⟩ := el
  simp only at hx
  have HEL := hid hel; clear hel hl
  have HH := hid h; clear h
  have heq := run_idEq
  have hne := run_idNe
  have heqz : idEq b1 b2 0 0 = false := by rw [idEq_false]; exact hb0
  have heqx : idEq q1 q2 x1 x2 = false := by rw [idEq_false]; exact hx
  go_enter Tryz.func298, Tryz.ntmps298
  go_wp2_with fail
  refine HL.out.mono ?_
  rintro e w1 ⟨rfl, hb1⟩
  have HLB := hid (show w1.heap[w.heap.size]? = some (.cells #[.int .i64 x1, .int .i64 x2, .int .i64 b1, .int .i64 b2] 179 (0, 0)) by rw [hb1.block w.heap.size (by simp; omega)]; exact blk_alloc (blk_new _ _))
  have HIB := hid (show w1.heap[w.heap.size + 1]? = some (.cells #[.int .i64 i1, .int .i64 i2] 36 (0, 0)) by rw [hb1.block (w.heap.size + 1) (by simp)]; exact (by simp : (w.alloc (.cells #[.int .i64 x1, .int .i64 x2, .int .i64 b1, .int .i64 b2] 179)).heap.size = w.heap.size + 1) ▸ blk_new (w.alloc (.cells #[.int .i64 x1, .int .i64 x2, .int .i64 b1, .int .i64 b2] 179)) _)
  have HB1 := hid (HB0.out.trans (hb1.mono HB0.out.size)); clear hb1
  have b0 := blkq0 HLB.out
  have b1' := blkq1 HLB.out
  have b2' := blkq2 HLB.out
  have b3 := blkc4 HLB.out
  have HQ1 := hid (HH.out.keep HB1.out)
  have c1 := HQ1.out.c1
  have l1 := (HH.out.keep HB1.out.drew).lookE b1 b2 true
  have hz1 := HB1.out.size
  have l2 := (HH.out.keep (HB1.out.alloc hz1 (.cells #[.int .i64 0, .int .i64 0, .int .i64 0, .int .i64 0, .map none] 176)).drew).lookE b1 b2 true
  rw [HEL.out] at l1 l2
  simp only [Option.map_some, Option.getD_some, Option.isSome_some, if_true, qelV] at l1 l2
  have hdl := HQ1.out.lt
  have hll := blk_lt HLB.out
  have hil := blk_lt HIB.out
  go_wp2
  go_region
  all_goals go_wp2
  all_goals exact bodyPost_ret (v := .tuple #[]) (by simp [results, Tryz.results298, go_sem]) rfl ⟨⟨_, rfl⟩, (HB1.out.alloc hz1 _).drew⟩

/-- LAY: as the plain function says. -/
theorem lay_do {w : World} {d bo be : Nat} {R : Nat → Prop} {os : List (PId × CQObj)} {els : List (PId × CQEl)} (h : isQ w d bo be os els) (ho : QOwn bo be R os els) (x b i : PId) :
    Calls Tryz.prog 298 #[.agg #[.int .i64 x.1, .int .i64 x.2, .int .i64 b.1, .int .i64 b.2], .pointer (some ⟨d, 0, none⟩), .agg #[.int .i64 i.1, .int .i64 i.2]] w fun e w' => (∃ r, e = .returned r) ∧
      isQ w' d bo be (layQ (os, els) x b i).1 (layQ (os, els) x b i).2 ∧ QOwn bo be R (layQ (os, els) x b i).1 (layQ (os, els) x b i).2 ∧ Turned (fun k => k = bo ∨ k = be) w w' := by
  have skip : ∀ e w', (∃ r, e = Ending.returned r) ∧ Below w.heap.size w w' → (∃ r, e = .returned r) ∧ isQ w' d bo be os els ∧ QOwn bo be R os els ∧ Turned (fun k => k = bo ∨ k = be) w w' := fun e w' hh => ⟨hh.1, h.keep hh.2, ho, Turned.of_below hh.2⟩
  obtain ⟨x1, x2⟩ := x
  obtain ⟨b1, b2⟩ := b
  obtain ⟨i1, i2⟩ := i
  cases hob : lookI (x1, x2) os with
  | none =>
    have e1 : layQ (os, els) (x1, x2) (b1, b2) (i1, i2) = (os, els) := by simp [layQ, hob]
    rw [e1]
    exact (lay_no h x1 x2 b1 b2 i1 i2 (by simp [qlist, hob])).mono skip
  | some ob =>
    cases hl : ob.list with
    | false =>
      have e1 : layQ (os, els) (x1, x2) (b1, b2) (i1, i2) = (os, els) := by simp [layQ, hob, hl]
      rw [e1]
      exact (lay_no h x1 x2 b1 b2 i1 i2 (by simp [qlist, hob, hl])).mono skip
    | true =>
      have hq : qlist (x1, x2) os = true := by simp [qlist, hob, hl]
      by_cases hb : (b1, b2) = ((0 : Int), (0 : Int))
      · injection hb with hb1 hb2
        subst hb1; subst hb2
        have e1 : layQ (os, els) (x1, x2) (0, 0) (i1, i2) = (putI (x1, x2) { ob with first := (i1, i2) } os, putI (i1, i2) ⟨(x1, x2), ob.first, none, []⟩ els) := by simp [layQ, hob, hl]
        rw [e1]
        exact lay_zero h ho x1 x2 i1 i2 hob hl
      · cases hel : lookI (b1, b2) els with
        | none =>
          have e1 : layQ (os, els) (x1, x2) (b1, b2) (i1, i2) = (os, els) := by simp only [layQ, hob, hl, hel]; rw [if_neg (by simp), if_neg hb]
          rw [e1]
          exact (lay_none h x1 x2 b1 b2 i1 i2 hq hb hel).mono skip
        | some el =>
          by_cases hx : el.list = (x1, x2)
          · have e1 : layQ (os, els) (x1, x2) (b1, b2) (i1, i2) = (os, putI (b1, b2) { el with next := (i1, i2) } (putI (i1, i2) ⟨(x1, x2), el.next, none, []⟩ els)) := by simp only [layQ, hob, hl, hel]; rw [if_neg (by simp), if_neg hb, if_pos hx]
            rw [e1]
            exact lay_behind h ho x1 x2 b1 b2 i1 i2 hq hb hel hx
          · have e1 : layQ (os, els) (x1, x2) (b1, b2) (i1, i2) = (os, els) := by simp only [layQ, hob, hl, hel]; rw [if_neg (by simp), if_neg hb, if_neg hx]
            rw [e1]
            exact (lay_other h x1 x2 b1 b2 i1 i2 hq hb hel hx).mono skip

end Go.Proofs.YtnkpogjiiohapaaGreatDoor

/-! PKeysA: Keys: what the walk over an object's keys has brought; plain. -/
namespace Go.Proofs.YtnkpogjiiohapaaGreatDoor
open Go.RowKit

/-- Which pair an entry stands for. -/
def pairOf {ν : Type} (es : List MapEntry) (m : List ν) (e : MapEntry) : Option ν := ((es.zip m).find? fun z => z.1.born == e.born).map (·.2)
theorem pairOf_get {ν : Type} {es : List MapEntry} {m : List ν} (hn : (es.map (·.born)).Nodup) (hl : es.length = m.length) {i : Nat} (hi : i < es.length) : pairOf es m es[i] = some (m[i]'(by omega)) := by
  unfold pairOf
  have : (es.zip m).find? (fun z => z.1.born == es[i].born) = some (es[i], m[i]'(by omega)) := by
    rw [List.find?_eq_some_iff_getElem]
    refine ⟨by simp, i, by simp; omega, by simp, fun j hj => ?_⟩
    have hp := List.pairwise_iff_getElem.1 hn j i (by simp; omega) (by simpa using hi) hj
    simp at hp
    simpa using hp
  rw [this]; rfl
theorem pairOf_map {ν : Type} {es : List MapEntry} {m : List ν} (hn : (es.map (·.born)).Nodup) (hl : es.length = m.length) : es.filterMap (pairOf es m) = m := by
  have key : es.map (pairOf es m) = m.map some := by
    apply List.ext_getElem
    · simp [hl]
    · intro i h1 h2
      simp only [List.getElem_map]
      rw [pairOf_get hn hl (by simpa using h1)]
  have h2 : es.filterMap (pairOf es m) = (es.map (pairOf es m)).filterMap id := by rw [List.filterMap_map]; rfl
  rw [h2, key, List.filterMap_map]
  simp
theorem pairOf_mem {κ ν : Type} {encK : κ → Value} {encV : ν → Value} {es : List MapEntry} {m : List (κ × ν)} (hn : (es.map (·.born)).Nodup) (h : Ents encK encV es m) {e : MapEntry} (he : e ∈ es) :
    ∃ p ∈ m, pairOf es m e = some p ∧ e.key = encK p.1 ∧ e.val = encV p.2 := by
  have hl : es.length = m.length := by have := congrArg List.length h; simpa using this
  obtain ⟨i, hi, rfl⟩ := List.mem_iff_getElem.1 he
  have him : i < m.length := by omega
  refine ⟨m[i], List.getElem_mem _, pairOf_get hn hl hi, ?_⟩
  have := congrArg (·[i]?) h
  simp [hi, him] at this
  exact this

/-- The keys that can be seen, of some pairs. -/
def seenKeys (ks : List (ByteArray × CKey)) : List ByteArray := (ks.filter fun p => decide (0 < p.2.vs.length)).map (·.1)

end Go.Proofs.YtnkpogjiiohapaaGreatDoor

/-! PKeysB: The contract of Keys. -/
namespace Go.Proofs.YtnkpogjiiohapaaGreatDoor
open Go.RowKit
open Go.ChangeMaps (setBlock)

def strC (s : ByteArray) : List Value := [.string s]
def ownStrs (B : Nat) (w : World) (v : Value) (l : List ByteArray) : Prop := w.ownsRow B 9 1 v l.length (l.flatMap strC)
theorem app_str {ops : Array Oper} {rest : List Oper} {o : Oper} {a : Act} {Q : Exit → Act → World → Prop} {w : World} (hgd : o.guard = none) (s x : Operand)
    (ho : o.op = .call { callee := .builtin .append, args := #[s, x], argTypes := #[43, 43] }) (B : Nat) (v : Value) (l : List ByteArray) (hs : a.eval s = v)
    (hown : ownStrs B w v l) (g c : Nat) (y : ByteArray) (hx : a.eval x = .slice (some ⟨g, 0, none⟩) 1 c)
    (h0 : w.cell? ⟨g, 0, none⟩ = some (.string y)) (hlen : l.length < 1000000000) (hB : B ≤ w.heap.size)
    (h : ∀ v' w', ownStrs B w' v' (l ++ [y]) → w.grownBy w' v.ownBlock → wpList Tryz.prog ops Q rest (a.put o.dst v') w') : wpList Tryz.prog ops Q (o :: rest) a w :=
  app_one strC 1 16 43 9 (.string ⟨#[]⟩) (by kernel_rfl) Tryz.underlying43 rfl (by omega) (fun _ => rfl) hgd s x ho B v l hs hown g c y hx
    (fun j u hu => by match j with | 0 => simp [strC] at hu; rw [← hu]; exact h0 | j + 1 => simp [strC] at hu) (fun u hu => by simp [strC] at hu; subst hu; rfl) (by omega) (by unfold maxLen; omega) hB (fun v' w' h2 h3 => h v' w' (by unfold ownStrs; simpa using h2) h3)

theorem field_keys (a c d : Value) (r : Option Nat) (W : World) : (Instr.field 170 (.agg #[a, .map r, c, d]) 1).run Tryz.prog W = .ok (.map r) W := field_ob a c d r W
/-- Cells that grow leave the walk as it is. -/
theorem Walk.grown {es : Array MapEntry} {clk b r : Nat} {seen : Array Nat} {l : List MapEntry} {w w' : World} {row : Option Nat} (h : Walk es clk b r seen l w) (hg : w.grownBy w' row) (hr : ∀ g, row = some g → ∃ c t f, w.heap[g]? = some (.cells c t f)) : Walk es clk b r seen l w' := by
  refine ⟨?_, ?_, h.seen, h.sub⟩
  · rw [hg.block b (Array.getElem?_eq_some_iff.1 h.map).1 (fun e => by obtain ⟨c, t, f, hc⟩ := hr b e.symm; rw [h.map] at hc; cases hc)]; exact h.map
  · rw [hg.block r (Array.getElem?_eq_some_iff.1 h.iter).1 (fun e => by obtain ⟨c, t, f, hc⟩ := hr r e.symm; rw [h.iter] at hc; cases hc)]; exact h.iter

set_option maxRecDepth 1000000 in
set_option maxHeartbeats 1600000 in
/-- Keys, up to the sorting: SORT is what slices.Sort does. -/
theorem keys_of {w : World} {d bo be : Nat} {os : List (PId × CQObj)} {els : List (PId × CQEl)} (h : isQ w d bo be os els) (x1 x2 : Int) {ob : CQObj} (hob : lookI (x1, x2) os = some ob) (hL : ob.ks.length ≤ 10000) (srt : List ByteArray → List ByteArray)
    (hsrt : ∀ (W : World) (v : Value) (l : List ByteArray), ownStrs w.heap.size W v l → l.length ≤ 10000 → Calls Tryz.prog 188 #[v] W fun e W' => (∃ r, e = .returned r) ∧ ownStrs w.heap.size W' v (srt l) ∧ W.grownBy W' v.ownBlock)
    (hperm : ∀ l l', l.Perm l' → srt l = srt l') :
    Calls Tryz.prog 169 #[.pointer (some ⟨d, 0, none⟩), .agg #[.int .i64 x1, .int .i64 x2]] w fun e w' => ∃ u, e = .returned u ∧ ownStrs w.heap.size w' u (srt (seenKeys ob.ks)) ∧ Below w.heap.size w w' := by
  have HB0 := hid ((Below.refl w.heap.size w).alloc (Nat.le_refl _) (.cells #[.int .i64 x1, .int .i64 x2] 36))
  have HHS := hid (has_q (h.keep HB0.out) x1 x2)
  rw [hob] at HHS
  have HLO := hid (fun W (hb : Below w.heap.size w W) => (h.keep hb).lookO x1 x2 false)
  rw [hob] at HLO
  have HC := hid (fun W (hb : Below w.heap.size w W) => (h.keep hb).c0)
  have HK := hid (fun W (hb : Below w.heap.size w W) => (h.hk _ (look_mem hob)).keep hb)
  obtain ⟨ol, okv, oks, ⟨f1, f2⟩⟩ := ob
  simp only at hL HK
  simp only [Option.map_some, Option.getD_some, Bool.false_eq_true, if_false, qobjV, Option.isSome_some] at HLO HHS
  have HH := hid h; clear h hob
  have HSRT := hid hsrt; clear hsrt
  have hfo := field_ob
  rcases (HK.out w (Below.refl _ _)).1 with ⟨rfl, rfl⟩ | ⟨b, es, clk, rfl, hm⟩
  · go_enter Tryz.func169, Tryz.ntmps169
    go_wp2_with fail
    refine HHS.out.mono ?_
    rintro e w1 ⟨rfl, hb1⟩
    have b0 := keep (a := ⟨w.heap.size, 0, none⟩) (v := .int .i64 x1) hb1 (by simp [go_sem])
    have b1 := keep (a := ⟨w.heap.size, 1, none⟩) (v := .int .i64 x2) hb1 (by simp [go_sem])
    have HB1 := hid (HB0.out.trans (hb1.mono HB0.out.size)); clear hb1
    have c0 := HC.out _ HB1.out
    have l2 := HLO.out _ HB1.out.drew
    have hz1 := HB1.out.size
    have hrg := run_range_nilMap (P := Tryz.prog) w1.drew 168 9 159 Tryz.underlying168
    have hfk := field_keys
    go_wp2
    go_region
    obtain ⟨wi, hwi⟩ : ∃ wi, wi = (w1.alloc (.mapIter none 0 #[] 0)).drew := ⟨_, rfl⟩
    rw [← hwi]
    have HBI := hid (show Below w.heap.size w wi by rw [hwi]; exact (HB1.out.alloc hz1 _).drew)
    have hnx : (Instr.next (.pointer (some ⟨w1.heap.size, 0, none⟩)) false 0).run Tryz.prog wi = .ok (.tuple #[.bool false]) wi := by rw [hwi]; exact run_next_nilMap (P := Tryz.prog) w1.drew 0 0 0 #[]
    clear hwi b0 b1 c0 l2 hrg hfk hfo
    have HS := hid (HSRT.out wi (.slice none 0 0) [] (World.ownsRow_nil _ _ _ _) (by simp))
    go_wp2
    go_loopw [5] (fun u wr => u = .slice none 0 0 ∧ wr = wi) (fun _ _ => 0)
    case atStart => exact ⟨rfl, rfl⟩
    case round =>
      obtain ⟨rfl, hwr⟩ := hrel
      subst hwr
      go_wp2_with fail
      refine HS.out.mono ?_
      rintro e w3 ⟨⟨r, rfl⟩, hs3, hg3⟩
      have HX := hid (And.intro hs3 hg3); clear hs3 hg3
      go_wp2
      go_ret
      exact ⟨_, rfl, HX.out.1, HBI.out.grown HX.out.2 HBI.out.size (fun k hk => by cases hk)⟩
  · have HM := hid hm; clear hm
    have hbl := HM.out.lt
    go_enter Tryz.func169, Tryz.ntmps169
    go_wp2_with fail
    refine HHS.out.mono ?_
    rintro e w1 ⟨rfl, hb1⟩
    have b0 := keep (a := ⟨w.heap.size, 0, none⟩) (v := .int .i64 x1) hb1 (by simp [go_sem])
    have b1 := keep (a := ⟨w.heap.size, 1, none⟩) (v := .int .i64 x2) hb1 (by simp [go_sem])
    have HB1 := hid (HB0.out.trans (hb1.mono HB0.out.size)); clear hb1
    have c0 := HC.out _ HB1.out
    have l2 := HLO.out _ HB1.out.drew
    have hz1 := HB1.out.size
    have HM1 := hid (HM.out.keep HB1.out.drew)
    have hrg := run_range_map (P := Tryz.prog) w1.drew 168 9 159 b es clk Tryz.underlying168 HM1.out.blk
    have hfk := field_keys
    go_wp2
    go_region
    obtain ⟨wi, hwi⟩ : ∃ wi, wi = (w1.alloc (.mapIter (some b) clk #[] clk)).drew := ⟨_, rfl⟩
    rw [← hwi]
    have HBI := hid (show Below w.heap.size w wi by rw [hwi]; exact (HB1.out.alloc hz1 _).drew)
    have HWI := hid (show Walk es clk b w1.heap.size #[] [] wi by
      rw [hwi]
      exact ⟨(alloc_old_r w1 _ (HM.out.keep HB1.out).lt).trans (HM.out.keep HB1.out).blk, heap_alloc_new w1 _, rfl, fun e he => by cases he⟩)
    clear hwi b0 b1 c0 l2 hrg hfk hfo HM1
    go_wp2
    go_loopw [5] (fun u wr => ∃ seen el, Walk es clk b w1.heap.size seen el wr ∧ (el.map (·.born)).Nodup ∧ el.length + (leftOf es seen).size ≤ oks.length ∧ ownStrs w.heap.size wr u (seenKeys (el.filterMap (pairOf es.toList oks))) ∧ Below w.heap.size w wr) (fun _ wr => leftM b w1.heap.size wr)
    case atStart => exact ⟨#[], [], HWI.out, by simp, by rw [← HM.out.len]; simp only [List.length_nil, Nat.zero_add]; exact Array.size_filter_le, World.ownsRow_nil _ _ _ _, HBI.out⟩
    case round =>
      obtain ⟨seen, el, hwk, hnd, hcnt, hown, hbel⟩ := hrel
      have HW := hid hwk; clear hwk
      have HN := hid hnd; clear hnd
      have HO := hid hown; clear hown
      have HBE := hid hbel; clear hbel
      have hbz := HBE.out.size
      rcases run_next_at (P := Tryz.prog) wr 0 w1.heap.size b clk clk seen es clk HW.out.iter HW.out.map HM.out.old (Nat.le_refl _) with ⟨hl0, hrun⟩ | ⟨e, he, w1', hw1', hrun⟩
      · have hp := HW.out.all HM.out.nodup HN.out hl0
        have HP := hid (show (seenKeys (el.filterMap (pairOf es.toList oks))).Perm (seenKeys oks) by
          have h1 := hp.filterMap (pairOf es.toList oks)
          rw [pairOf_map HM.out.nodup (by have := HM.out.len; simpa using this)] at h1
          unfold seenKeys
          exact (h1.filter _).map _)
        have HLN := hid (show (seenKeys (el.filterMap (pairOf es.toList oks))).length ≤ 10000 by
          rw [HP.out.length_eq]
          unfold seenKeys
          rw [List.length_map]
          exact Nat.le_trans (List.length_filter_le _ _) hL)
        have HS := hid (HSRT.out wr u5 _ HO.out HLN.out)
        go_wp2_with fail
        refine HS.out.mono ?_
        rintro e w3 ⟨⟨r, rfl⟩, hs3, hg3⟩
        have HX := hid (And.intro hs3 hg3); clear hs3 hg3
        go_wp2
        go_ret
        refine ⟨_, rfl, ?_, HBE.out.grown HX.out.2 hbz (fun k hk => (World.ownsRow.lt HO.out k hk).1)⟩
        rw [← hperm _ _ HP.out]; exact HX.out.1
      · have hmem : e ∈ es.toList := by unfold leftOf at he; simp at he; simpa using he.1
        obtain ⟨⟨key, ck⟩, hpm, hpo, hek, hev⟩ := pairOf_mem HM.out.nodup HM.out.ents hmem
        have HW2 := hid (HW.out.next (by have := (HM.out.keep HB1.out).lt; omega) he hw1')
        obtain ⟨w2, hw2⟩ : ∃ w2, w2 = setBlock w1' w1.heap.size (.mapIter (some b) clk (seen.push e.born) clk) := ⟨_, rfl⟩
        rw [← hw2] at hrun HW2
        have hen := run_entry_at (P := Tryz.prog) w2 w1.heap.size b clk seen es clk e HW2.out.iter HW2.out.map hmem HM.out.nodup
        rw [hek, hev] at hrun hen
        simp only [strV, ckeyV] at hrun hen
        have hg2 : wr.grownBy w2 (some w1.heap.size) := by rw [hw2]; exact setBlock_grown hw1' _ _
        clear hw2 hw1'
        have HB2 := hid (HBE.out.grown hg2 hbz (fun k hk => by cases hk; exact hz1))
        have HO2 := hid (show ownStrs w.heap.size w2 u5 (seenKeys (el.filterMap (pairOf es.toList oks))) from row_blk HO.out (fun g hg => by
          obtain ⟨c', hc'⟩ := own_type HO.out hg
          exact hg2.block g (Array.getElem?_eq_some_iff.1 hc').1 (fun e => by injection e with e; subst e; rw [HW.out.iter] at hc'; cases hc')))
        have HG2 := hid hg2; clear hg2
        have HND2 := hid (show ((el ++ [e]).map (·.born)).Nodup by
          rw [List.map_append, List.nodup_append]
          refine ⟨HN.out, by simp, fun a ha c hc hac => ?_⟩
          simp at hc
          subst hc
          unfold leftOf at he
          simp at he
          rw [← HW.out.seen] at ha
          rw [hac] at ha
          exact he.2 (by simpa using ha))
        have HKV := hid ((HK.out _ HB2.out).2 _ hpm)
        have hln := run_lenMap HKV.out (ty := 3)
        have HLS := hid (left_less he)
        have HFM := hid (show (el ++ [e]).filterMap (pairOf es.toList oks) = el.filterMap (pairOf es.toList oks) ++ [(key, ck)] by rw [List.filterMap_append]; simp [hpo])
        have hls := HLS.out
        have hbz2 := HB2.out.size
        simp only at hln
        by_cases hs : 0 < ck.vs.length
        · have hlc : (seenKeys (el.filterMap (pairOf es.toList oks))).length ≤ 10000 := by
            unfold seenKeys
            rw [List.length_map]
            refine Nat.le_trans (List.length_filter_le _ _) (Nat.le_trans (List.length_filterMap_le _ _) (by omega))
          go_wp2_with (at_builtin; go_must (refine app_str rfl (.tmp 28) (.tmp 30) rfl w.heap.size _ (seenKeys (el.filterMap (pairOf es.toList oks))) rfl ?h1 w2.heap.size 1 key rfl ?h2 ?h4 ?h5 ?_; (case h1 => exact World.ownsRow.alloc HO2.out _); (case h2 => simp [go_sem]); (case h4 => omega); (case h5 => simp; omega); intro v' w3 hown3 hg3; have HG3 := hid hg3; clear hg3; have HN3 := hid hown3; clear hown3))
          go_roundw
          case rel =>
            have hw3 : Walk es clk b w1.heap.size (seen.push e.born) (el ++ [e]) w3 := by
              refine Walk.grown ?_ HG3.out (fun g hg => ?_)
              · exact ⟨(alloc_old_r w2 _ (Array.getElem?_eq_some_iff.1 HW2.out.map).1).trans HW2.out.map, (alloc_old_r w2 _ (Array.getElem?_eq_some_iff.1 HW2.out.iter).1).trans HW2.out.iter, HW2.out.seen, HW2.out.sub⟩
              · obtain ⟨c', hc'⟩ := own_type (World.ownsRow.alloc HO2.out (.cells #[.string key] 9)) hg
                exact ⟨_, _, _, hc'⟩
            refine ⟨_, _, hw3, HND2.out, by simp; omega, ?_, ?_⟩
            · rw [HFM.out]
              have : seenKeys (el.filterMap (pairOf es.toList oks) ++ [(key, ck)]) = seenKeys (el.filterMap (pairOf es.toList oks)) ++ [key] := by unfold seenKeys; simp [hs]
              rw [this]; exact HN3.out
            · exact (HB2.out.alloc hbz2 _).grown HG3.out (by simp; omega) (fun k hk => (World.ownsRow.lt HO2.out k hk).1)
          case measure =>
            have hw3 : Walk es clk b w1.heap.size (seen.push e.born) (el ++ [e]) w3 := by
              refine Walk.grown ?_ HG3.out (fun g hg => ?_)
              · exact ⟨(alloc_old_r w2 _ (Array.getElem?_eq_some_iff.1 HW2.out.map).1).trans HW2.out.map, (alloc_old_r w2 _ (Array.getElem?_eq_some_iff.1 HW2.out.iter).1).trans HW2.out.iter, HW2.out.seen, HW2.out.sub⟩
              · obtain ⟨c', hc'⟩ := own_type (World.ownsRow.alloc HO2.out (.cells #[.string key] 9)) hg
                exact ⟨_, _, _, hc'⟩
            rw [hw3.left, HW.out.left]; exact hls
        · go_wp2
          go_roundw
          case rel =>
            refine ⟨_, _, HW2.out, HND2.out, by simp; omega, ?_, HB2.out⟩
            rw [HFM.out]
            have : seenKeys (el.filterMap (pairOf es.toList oks) ++ [(key, ck)]) = seenKeys (el.filterMap (pairOf es.toList oks)) := by unfold seenKeys; simp [hs]
            rw [this]; exact HO2.out
          case measure => rw [HW2.out.left, HW.out.left]; exact hls

end Go.Proofs.YtnkpogjiiohapaaGreatDoor

/-! PCopyA: maps.Copy into an empty map of one's own: at a place's values. -/
namespace Go.Proofs.YtnkpogjiiohapaaGreatDoor
open Go.RowKit
open Go.ChangeMaps (setBlock)

theorem hit_notin {κ ν : Type} [DecidableEq κ] {x : κ} : ∀ {m : List (κ × ν)} {i : Nat}, x ∉ m.map (·.1) → hitI x m i = none
  | [], _, _ => rfl
  | p :: m, i, h => by
    simp only [List.map_cons, List.mem_cons, not_or] at h
    unfold hitI
    rw [if_neg h.1]
    exact hit_notin h.2
theorem put_new {κ ν : Type} [DecidableEq κ] {x : κ} {m : List (κ × ν)} (h : x ∉ m.map (·.1)) (v : ν) : putI x v m = m ++ [(x, v)] := (hit_none (hit_notin h)).1 v

/-- What has come of a walk, pair by pair: no key twice, where no key is there twice. -/
theorem pairs_new {κ ν : Type} {encK : κ → Value} {encV : ν → Value} {es : List MapEntry} {vs : List (κ × ν)} (hn : (es.map (·.born)).Nodup) (hE : Ents encK encV es vs) (hk : (vs.map (·.1)).Nodup) {el : List MapEntry} (hs : ∀ e ∈ el, e ∈ es) {e : MapEntry} (he : e ∈ es) (hnd : ((el ++ [e]).map (·.born)).Nodup) {p : κ × ν} (hp : pairOf es vs e = some p) :
    p.1 ∉ (el.filterMap (pairOf es vs)).map (·.1) := by
  have hl : es.length = vs.length := by have := congrArg List.length hE; simpa using this
  intro hm
  obtain ⟨q, hq, hqp⟩ := List.mem_map.1 hm
  obtain ⟨e', he', hq'⟩ := List.mem_filterMap.1 hq
  obtain ⟨i, hi, rfl⟩ := List.mem_iff_getElem.1 he
  obtain ⟨j, hj, rfl⟩ := List.mem_iff_getElem.1 (hs e' he')
  rw [pairOf_get hn hl hi] at hp
  rw [pairOf_get hn hl hj] at hq'
  injection hp with hp
  injection hq' with hq'
  rw [← hp, ← hq'] at hqp
  have hij : i = j := by
    apply Classical.byContradiction
    intro hne
    rcases Nat.lt_or_gt_of_ne hne with hlt | hlt
    · exact List.pairwise_iff_getElem.1 hk i j (by simp; omega) (by simp; omega) hlt (by simpa using hqp.symm)
    · exact List.pairwise_iff_getElem.1 hk j i (by simp; omega) (by simp; omega) hlt (by simpa using hqp)
  subst hij
  rw [List.map_append, List.nodup_append] at hnd
  exact hnd.2.2 es[i].born (List.mem_map.2 ⟨_, he', rfl⟩) es[i].born (by simp) rfl

theorem Turned.set {S : Nat → Prop} {w wr w1 : World} (h : Turned S w wr) (hw : w1 = wr ∨ w1 = wr.drew) {r : Nat} (hr : w.heap.size ≤ r) (o : Obj) : Turned S w (setBlock w1 r o) := by
  have hh : w1.heap = wr.heap ∧ w1.os = wr.os ∧ w1.tape = wr.tape ∧ w1.output = wr.output := by rcases hw with rfl | rfl <;> exact ⟨rfl, rfl, rfl, rfl⟩
  refine ⟨hh.2.1.trans h.os, hh.2.2.1.trans h.tape, hh.2.2.2.trans h.output, by simp [setBlock, hh.1]; exact h.size, fun k hk hs => ?_⟩
  have : r ≠ k := by omega
  simp [setBlock, Array.getElem?_setIfInBounds, this, hh.1]
  exact h.other k hk hs
theorem Turned.allocT {S : Nat → Prop} {w wr : World} (h : Turned S w wr) (o : Obj) : Turned S w (wr.alloc o) :=
  ⟨h.os, h.tape, h.output, by have := h.size; simp; omega, fun k hk hs => (alloc_old_r wr o (Nat.lt_of_lt_of_le hk h.size)).trans (h.other k hk hs)⟩
theorem Turned.drewT {S : Nat → Prop} {w wr : World} (h : Turned S w wr) : Turned S w wr.drew := ⟨h.os, h.tape, h.output, h.size, h.other⟩

theorem Walk.put {es : Array MapEntry} {clk b r : Nat} {seen : Array Nat} {l : List MapEntry} {w : World} (h : Walk es clk b r seen l w) {g : Nat} (hb : g ≠ b) (hr : g ≠ r) (o : Obj) : Walk es clk b r seen l (putObj w g o) :=
  ⟨(putObj_other (Ne.symm hb)).trans h.map, (putObj_other (Ne.symm hr)).trans h.iter, h.seen, h.sub⟩
theorem Walk.alloc {es : Array MapEntry} {clk b r : Nat} {seen : Array Nat} {l : List MapEntry} {w : World} (h : Walk es clk b r seen l w) (o : Obj) : Walk es clk b r seen l (w.alloc o) :=
  ⟨(alloc_old_r w _ (Array.getElem?_eq_some_iff.1 h.map).1).trans h.map, (alloc_old_r w _ (Array.getElem?_eq_some_iff.1 h.iter).1).trans h.iter, h.seen, h.sub⟩

set_option maxRecDepth 1000000 in
set_option maxHeartbeats 1600000 in
theorem copy_v {w : World} {g b : Nat} {vs : List (PId × PVal)} {es0 es : Array MapEntry} {clk0 clk : Nat} (hg : isMap idV valV w g [] es0 clk0) (hm : isMap idV valV w b vs es clk) (hgb : g ≠ b) (hk : (vs.map (·.1)).Nodup) :
    Calls Tryz.prog 302 #[.map (some g), .map (some b)] w fun e w' => (∃ r, e = .returned r) ∧ (∃ m' es' clk', m'.Perm vs ∧ isMap idV valV w' g m' es' clk') ∧ Turned (fun k => k = g) w w' := by
  have hrg := run_range_map (P := Tryz.prog) w 159 36 57 b es clk Tryz.underlying159 hm.blk
  go_enter Tryz.func302, Tryz.ntmps302
  have hgl := hg.lt
  have hbl := hm.lt
  have HWI := hid (show Walk es clk b w.heap.size #[] [] (w.alloc (.mapIter (some b) clk #[] clk)) from ⟨(alloc_old_r w _ hbl).trans hm.blk, heap_alloc_new w _, rfl, fun e he => by cases he⟩)
  have HG0 := hid (show isMap idV valV (w.alloc (.mapIter (some b) clk #[] clk)) g [] es0 clk0 from hg.keep ((Below.refl _ w).alloc (Nat.le_refl _) _))
  have HM := hid hm
  clear hm hg
  go_wp2
  go_loopw [4] (fun _ wr => ∃ seen el, Walk es clk b w.heap.size seen el wr ∧ (el.map (·.born)).Nodup ∧ (∃ es' clk', isMap idV valV wr g (el.filterMap (pairOf es.toList vs)) es' clk') ∧ Turned (fun k => k = g) w wr) (fun _ wr => leftM b w.heap.size wr)
  case atStart => exact ⟨#[], [], HWI.out, by simp, ⟨_, _, HG0.out⟩, Turned.of_below ((Below.refl _ w).alloc (Nat.le_refl _) _)⟩
  case round =>
    obtain ⟨seen, el, hwk, hnd, ⟨es', clk', hmg⟩, htn⟩ := hrel
    have HW := hid hwk; clear hwk
    have HN := hid hnd; clear hnd
    have HG := hid hmg; clear hmg
    have HT := hid htn; clear htn
    rcases run_next_at (P := Tryz.prog) wr 0 w.heap.size b clk clk seen es clk HW.out.iter HW.out.map HM.out.old (Nat.le_refl _) with ⟨hl0, hrun⟩ | ⟨e, he, w1', hw1', hrun⟩
    · have hp := HW.out.all HM.out.nodup HN.out hl0
      have HP := hid (show (el.filterMap (pairOf es.toList vs)).Perm vs by
        have h1 := hp.filterMap (pairOf es.toList vs)
        rwa [pairOf_map HM.out.nodup (by have := HM.out.len; simpa using this)] at h1)
      go_wp2
      go_end0
      exact ⟨⟨_, rfl⟩, ⟨_, _, _, HP.out, HG.out⟩, HT.out⟩
    · have hmem : e ∈ es.toList := by unfold leftOf at he; simp at he; simpa using he.1
      obtain ⟨⟨⟨x1, x2⟩, ⟨v1, v2, v3⟩⟩, hpm, hpo, hek, hev⟩ := pairOf_mem HM.out.nodup HM.out.ents hmem
      have HW2 := hid (HW.out.next (by omega) he hw1')
      have HND2 := hid (show ((el ++ [e]).map (·.born)).Nodup by
        rw [List.map_append, List.nodup_append]
        refine ⟨HN.out, by simp, fun a ha c hc hac => ?_⟩
        simp at hc
        subst hc
        unfold leftOf at he
        simp at he
        rw [← HW.out.seen] at ha
        rw [hac] at ha
        exact he.2 (by simpa using ha))
      have HLS := hid (left_less he)
      have HT2 := hid (HT.out.set hw1' (Nat.le_refl _) (.mapIter (some b) clk (seen.push e.born) clk))
      have HG2 := hid (show isMap idV valV (setBlock w1' w.heap.size (.mapIter (some b) clk (seen.push e.born) clk)) g (el.filterMap (pairOf es.toList vs)) es' clk' from HG.out.blockK ((setBlock_grown hw1' _ _).block g HG.out.lt (by simp; omega)))
      obtain ⟨w2, hw2⟩ : ∃ w2, w2 = setBlock w1' w.heap.size (.mapIter (some b) clk (seen.push e.born) clk) := ⟨_, rfl⟩
      rw [← hw2] at hrun HW2 HT2 HG2
      clear hw2 hw1'
      have hen := run_entry_at (P := Tryz.prog) w2 w.heap.size b clk seen es clk e HW2.out.iter HW2.out.map hmem HM.out.nodup
      rw [hek, hev] at hrun hen
      simp only [idV, valV] at hrun hen
      have HFM := hid (show (el ++ [e]).filterMap (pairOf es.toList vs) = el.filterMap (pairOf es.toList vs) ++ [((x1, x2), (v1, v2, v3))] by rw [List.filterMap_append]; simp [hpo])
      have HNW := hid (pairs_new HM.out.nodup HM.out.ents hk HW.out.sub hmem HND2.out hpo)
      have HT3 := hid ((HT2.out.allocT (.cells #[.int .i64 x1, .int .i64 x2] 36)).allocT (.cells #[.int .i64 v1, .int .i64 v2, .int .i64 v3] 57))
      have HW3 := hid ((HW2.out.alloc (.cells #[.int .i64 x1, .int .i64 x2] 36)).alloc (.cells #[.int .i64 v1, .int .i64 v2, .int .i64 v3] 57))
      have HG3 := hid (HG2.out.keep (((Below.refl _ w2).alloc (Nat.le_refl _) (.cells #[.int .i64 x1, .int .i64 x2] 36)).alloc (by simp) (.cells #[.int .i64 v1, .int .i64 v2, .int .i64 v3] 57)))
      obtain ⟨es3, clk3, hput, hm3⟩ := run_putI idKey HG3.out Tryz.underlying159 (x1, x2) (v1, v2, v3)
      rw [put_new HNW.out, ← HFM.out] at hm3
      simp only [idV, valV] at hput
      have HM3 := hid hm3; clear hm3
      have hls := HLS.out
      go_wp2
      try go_region
      all_goals (try go_wp2)
      all_goals go_roundw
      case rel => exact ⟨_, _, HW3.out.put hgb (by omega) _, HND2.out, ⟨_, _, HM3.out⟩, HT3.out.trans (Turned.put _ rfl)⟩
      case measure => rw [(HW3.out.put hgb (by omega) _).left, HW.out.left]; exact hls

end Go.Proofs.YtnkpogjiiohapaaGreatDoor

/-! PCopyB: maps.Copy at an object's keys; out of nil. -/
namespace Go.Proofs.YtnkpogjiiohapaaGreatDoor
open Go.RowKit
open Go.ChangeMaps (setBlock)

set_option maxRecDepth 1000000 in
set_option maxHeartbeats 1600000 in
theorem copy_k {w : World} {g b : Nat} {vs : List (ByteArray × CKey)} {es0 es : Array MapEntry} {clk0 clk : Nat} (hg : isMap strV ckeyV w g [] es0 clk0) (hm : isMap strV ckeyV w b vs es clk) (hgb : g ≠ b) (hk : (vs.map (·.1)).Nodup) :
    Calls Tryz.prog 303 #[.map (some g), .map (some b)] w fun e w' => (∃ r, e = .returned r) ∧ (∃ m' es' clk', m'.Perm vs ∧ isMap strV ckeyV w' g m' es' clk') ∧ Turned (fun k => k = g) w w' := by
  have hrg := run_range_map (P := Tryz.prog) w 168 9 159 b es clk Tryz.underlying168 hm.blk
  go_enter Tryz.func303, Tryz.ntmps303
  have hgl := hg.lt
  have hbl := hm.lt
  have HWI := hid (show Walk es clk b w.heap.size #[] [] (w.alloc (.mapIter (some b) clk #[] clk)) from ⟨(alloc_old_r w _ hbl).trans hm.blk, heap_alloc_new w _, rfl, fun e he => by cases he⟩)
  have HG0 := hid (show isMap strV ckeyV (w.alloc (.mapIter (some b) clk #[] clk)) g [] es0 clk0 from hg.keep ((Below.refl _ w).alloc (Nat.le_refl _) _))
  have HM := hid hm
  clear hm hg
  go_wp2
  go_loopw [4] (fun _ wr => ∃ seen el, Walk es clk b w.heap.size seen el wr ∧ (el.map (·.born)).Nodup ∧ (∃ es' clk', isMap strV ckeyV wr g (el.filterMap (pairOf es.toList vs)) es' clk') ∧ Turned (fun k => k = g) w wr) (fun _ wr => leftM b w.heap.size wr)
  case atStart => exact ⟨#[], [], HWI.out, by simp, ⟨_, _, HG0.out⟩, Turned.of_below ((Below.refl _ w).alloc (Nat.le_refl _) _)⟩
  case round =>
    obtain ⟨seen, el, hwk, hnd, ⟨es', clk', hmg⟩, htn⟩ := hrel
    have HW := hid hwk; clear hwk
    have HN := hid hnd; clear hnd
    have HG := hid hmg; clear hmg
    have HT := hid htn; clear htn
    rcases run_next_at (P := Tryz.prog) wr 0 w.heap.size b clk clk seen es clk HW.out.iter HW.out.map HM.out.old (Nat.le_refl _) with ⟨hl0, hrun⟩ | ⟨e, he, w1', hw1', hrun⟩
    · have hp := HW.out.all HM.out.nodup HN.out hl0
      have HP := hid (show (el.filterMap (pairOf es.toList vs)).Perm vs by
        have h1 := hp.filterMap (pairOf es.toList vs)
        rwa [pairOf_map HM.out.nodup (by have := HM.out.len; simpa using this)] at h1)
      go_wp2
      go_end0
      exact ⟨⟨_, rfl⟩, ⟨_, _, _, HP.out, HG.out⟩, HT.out⟩
    · have hmem : e ∈ es.toList := by unfold leftOf at he; simp at he; simpa using he.1
      obtain ⟨⟨key, ck⟩, hpm, hpo, hek, hev⟩ := pairOf_mem HM.out.nodup HM.out.ents hmem
      have HW2 := hid (HW.out.next (by omega) he hw1')
      have HND2 := hid (show ((el ++ [e]).map (·.born)).Nodup by
        rw [List.map_append, List.nodup_append]
        refine ⟨HN.out, by simp, fun a ha c hc hac => ?_⟩
        simp at hc
        subst hc
        unfold leftOf at he
        simp at he
        rw [← HW.out.seen] at ha
        rw [hac] at ha
        exact he.2 (by simpa using ha))
      have HLS := hid (left_less he)
      have HT2 := hid (HT.out.set hw1' (Nat.le_refl _) (.mapIter (some b) clk (seen.push e.born) clk))
      have HG2 := hid (show isMap strV ckeyV (setBlock w1' w.heap.size (.mapIter (some b) clk (seen.push e.born) clk)) g (el.filterMap (pairOf es.toList vs)) es' clk' from HG.out.blockK ((setBlock_grown hw1' _ _).block g HG.out.lt (by simp; omega)))
      obtain ⟨w2, hw2⟩ : ∃ w2, w2 = setBlock w1' w.heap.size (.mapIter (some b) clk (seen.push e.born) clk) := ⟨_, rfl⟩
      rw [← hw2] at hrun HW2 HT2 HG2
      clear hw2 hw1'
      have hen := run_entry_at (P := Tryz.prog) w2 w.heap.size b clk seen es clk e HW2.out.iter HW2.out.map hmem HM.out.nodup
      rw [hek, hev] at hrun hen
      simp only [strV, ckeyV] at hrun hen
      have HFM := hid (show (el ++ [e]).filterMap (pairOf es.toList vs) = el.filterMap (pairOf es.toList vs) ++ [(key, ck)] by rw [List.filterMap_append]; simp [hpo])
      have HNW := hid (pairs_new HM.out.nodup HM.out.ents hk HW.out.sub hmem HND2.out hpo)
      have HT3 := hid HT2.out
      have HW3 := hid HW2.out
      have HG3 := hid HG2.out
      obtain ⟨es3, clk3, hput, hm3⟩ := run_putI strKey HG3.out Tryz.underlying168 key ck
      rw [put_new HNW.out, ← HFM.out] at hm3
      simp only [strV, ckeyV] at hput
      have HM3 := hid hm3; clear hm3
      have hls := HLS.out
      go_wp2
      try go_region
      all_goals (try go_wp2)
      all_goals go_roundw
      case rel => exact ⟨_, _, HW3.out.put hgb (by omega) _, HND2.out, ⟨_, _, HM3.out⟩, HT3.out.trans (Turned.put _ rfl)⟩
      case measure => rw [(HW3.out.put hgb (by omega) _).left, HW.out.left]; exact hls

set_option maxRecDepth 1000000 in
set_option maxHeartbeats 1600000 in
theorem copy_v_nil (g : Option Nat) (w : World) :
    Calls Tryz.prog 302 #[.map g, .map none] w fun e w' => (∃ r, e = .returned r) ∧ Below w.heap.size w w' := by
  have hrg := run_range_nilMap (P := Tryz.prog) w 159 36 57 Tryz.underlying159
  have hnx := run_next_nilMap (P := Tryz.prog) w 0 0 0 #[]
  have HB := hid ((Below.refl w.heap.size w).alloc (Nat.le_refl _) (.mapIter none 0 #[] 0))
  go_enter Tryz.func302, Tryz.ntmps302
  go_wp2
  go_loopw [4] (fun _ wr => wr = w.alloc (.mapIter none 0 #[] 0)) (fun _ _ => 0)
  case atStart => rfl
  case round =>
    subst hrel
    go_wp2
    go_end0
    exact ⟨⟨_, rfl⟩, HB.out⟩

set_option maxRecDepth 1000000 in
set_option maxHeartbeats 1600000 in
theorem copy_k_nil (g : Option Nat) (w : World) :
    Calls Tryz.prog 303 #[.map g, .map none] w fun e w' => (∃ r, e = .returned r) ∧ Below w.heap.size w w' := by
  have hrg := run_range_nilMap (P := Tryz.prog) w 168 9 159 Tryz.underlying168
  have hnx := run_next_nilMap (P := Tryz.prog) w 0 0 0 #[]
  have HB := hid ((Below.refl w.heap.size w).alloc (Nat.le_refl _) (.mapIter none 0 #[] 0))
  go_enter Tryz.func303, Tryz.ntmps303
  go_wp2
  go_loopw [4] (fun _ wr => wr = w.alloc (.mapIter none 0 #[] 0)) (fun _ _ => 0)
  case atStart => rfl
  case round =>
    subst hrel
    go_wp2
    go_end0
    exact ⟨⟨_, rfl⟩, HB.out⟩

end Go.Proofs.YtnkpogjiiohapaaGreatDoor
