/- Our own text (PCopyA, PCopyB, PWithA, PSetA). -/
import Derived.Test.YtnkpogjiiohapaaGreatDoorA06
import Derived.Test.YtnkpogjiiohapaaGreatDoorA05
set_option linter.unusedSimpArgs false
set_option linter.unusedVariables false

/-! PCopyA: maps.Copy into an empty map of one's own: at a place's values. -/
namespace Go.Proofs.YtnkpogjiiohapaaGreatDoor
open Go.RowKit
open Go.ChangeMaps (setBlock)

theorem hit_notin {κ ν : Type} [DecidableEq κ] {x : κ} : ∀ {m : List (κ × ν)} {i : Nat}, x ∉ m.map (·.1) → hitI x m i = none
  | [], _, _ => rfl
  | p :: m, i, h => by
    simp only [List.map_cons, List.mem_cons, not_or] at h
    unfold hitI
    rw [if_neg h.1]
    exact hit_notin h.2
theorem put_new {κ ν : Type} [DecidableEq κ] {x : κ} {m : List (κ × ν)} (h : x ∉ m.map (·.1)) (v : ν) : putI x v m = m ++ [(x, v)] := (hit_none (hit_notin h)).1 v

/-- What has come of a walk, pair by pair: no key twice, where no key is there twice. -/
theorem pairs_new {κ ν : Type} {encK : κ → Value} {encV : ν → Value} {es : List MapEntry} {vs : List (κ × ν)} (hn : (es.map (·.born)).Nodup) (hE : Ents encK encV es vs) (hk : (vs.map (·.1)).Nodup) {el : List MapEntry} (hs : ∀ e ∈ el, e ∈ es) {e : MapEntry} (he : e ∈ es) (hnd : ((el ++ [e]).map (·.born)).Nodup) {p : κ × ν} (hp : pairOf es vs e = some p) :
    p.1 ∉ (el.filterMap (pairOf es vs)).map (·.1) := by
  have hl : es.length = vs.length := by have := congrArg List.length hE; simpa using this
  intro hm
  obtain ⟨q, hq, hqp⟩ := List.mem_map.1 hm
  obtain ⟨e', he', hq'⟩ := List.mem_filterMap.1 hq
  obtain ⟨i, hi, rfl⟩ := List.mem_iff_getElem.1 he
  obtain ⟨j, hj, rfl⟩ := List.mem_iff_getElem.1 (hs e' he')
  rw [pairOf_get hn hl hi] at hp
  rw [pairOf_get hn hl hj] at hq'
  injection hp with hp
  injection hq' with hq'
  rw [← hp, ← hq'] at hqp
  have hij : i = j := by
    apply Classical.byContradiction
    intro hne
    rcases Nat.lt_or_gt_of_ne hne with hlt | hlt
    · exact List.pairwise_iff_getElem.1 hk i j (by simp; omega) (by simp; omega) hlt (by simpa using hqp.symm)
    · exact List.pairwise_iff_getElem.1 hk j i (by simp; omega) (by simp; omega) hlt (by simpa using hqp)
  subst hij
  rw [List.map_append, List.nodup_append] at hnd
  exact hnd.2.2 es[i].born (List.mem_map.2 ⟨_, he', rfl⟩) es[i].born (by simp) rfl

theorem Turned.set {S : Nat → Prop} {w wr w1 : World} (h : Turned S w wr) (hw : w1 = wr ∨ w1 = wr.drew) {r : Nat} (hr : w.heap.size ≤ r) (o : Obj) : Turned S w (setBlock w1 r o) := by
  have hh : w1.heap = wr.heap ∧ w1.os = wr.os ∧ w1.tape = wr.tape ∧ w1.output = wr.output := by rcases hw with rfl | rfl <;> exact ⟨rfl, rfl, rfl, rfl⟩
  refine ⟨hh.2.1.trans h.os, hh.2.2.1.trans h.tape, hh.2.2.2.trans h.output, by simp [setBlock, hh.1]; exact h.size, fun k hk hs => ?_⟩
  have : r ≠ k := by omega
  simp [setBlock, Array.getElem?_setIfInBounds, this, hh.1]
  exact h.other k hk hs
theorem Turned.allocT {S : Nat → Prop} {w wr : World} (h : Turned S w wr) (o : Obj) : Turned S w (wr.alloc o) :=
  ⟨h.os, h.tape, h.output, by have := h.size; simp; omega, fun k hk hs => (alloc_old_r wr o (Nat.lt_of_lt_of_le hk h.size)).trans (h.other k hk hs)⟩
theorem Walk.put {es : Array MapEntry} {clk b r : Nat} {seen : Array Nat} {l : List MapEntry} {w : World} (h : Walk es clk b r seen l w) {g : Nat} (hb : g ≠ b) (hr : g ≠ r) (o : Obj) : Walk es clk b r seen l (putObj w g o) :=
  ⟨(putObj_other (Ne.symm hb)).trans h.map, (putObj_other (Ne.symm hr)).trans h.iter, h.seen, h.sub⟩
theorem Walk.alloc {es : Array MapEntry} {clk b r : Nat} {seen : Array Nat} {l : List MapEntry} {w : World} (h : Walk es clk b r seen l w) (o : Obj) : Walk es clk b r seen l (w.alloc o) :=
  ⟨(alloc_old_r w _ (Array.getElem?_eq_some_iff.1 h.map).1).trans h.map, (alloc_old_r w _ (Array.getElem?_eq_some_iff.1 h.iter).1).trans h.iter, h.seen, h.sub⟩

set_option maxRecDepth 1000000 in
set_option maxHeartbeats 1600000 in
theorem copy_v {w : World} {g b : Nat} {vs : List (PId × PVal)} {es0 es : Array MapEntry} {clk0 clk : Nat} (hg : isMap idV valV w g [] es0 clk0) (hm : isMap idV valV w b vs es clk) (hgb : g ≠ b) (hk : (vs.map (·.1)).Nodup) :
    Calls Tryz.prog 302 #[.map (some g), .map (some b)] w fun e w' => (∃ r, e = .returned r) ∧ (∃ m' es' clk', m'.Perm vs ∧ isMap idV valV w' g m' es' clk') ∧ Turned (fun k => k = g) w w' := by
  have hrg := run_range_map (P := Tryz.prog) w 159 36 57 b es clk Tryz.underlying159 hm.blk
  go_enter Tryz.func302, Tryz.ntmps302
  have hgl := hg.lt
  have hbl := hm.lt
  have HWI := hid (show Walk es clk b w.heap.size #[] [] (w.alloc (.mapIter (some b) clk #[] clk)) from ⟨(alloc_old_r w _ hbl).trans hm.blk, heap_alloc_new w _, rfl, fun e he => by cases he⟩)
  have HG0 := hid (show isMap idV valV (w.alloc (.mapIter (some b) clk #[] clk)) g [] es0 clk0 from hg.keep ((Below.refl _ w).alloc (Nat.le_refl _) _))
  have HM := hid hm
  clear hm hg
  go_wp2
  go_loopw [4] (fun _ wr => ∃ seen el, Walk es clk b w.heap.size seen el wr ∧ (el.map (·.born)).Nodup ∧ (∃ es' clk', isMap idV valV wr g (el.filterMap (pairOf es.toList vs)) es' clk') ∧ Turned (fun k => k = g) w wr) (fun _ wr => leftM b w.heap.size wr)
  case atStart => exact ⟨#[], [], HWI.out, by simp, ⟨_, _, HG0.out⟩, Turned.of_below ((Below.refl _ w).alloc (Nat.le_refl _) _)⟩
  case round =>
    obtain ⟨seen, el, hwk, hnd, ⟨es', clk', hmg⟩, htn⟩ := hrel
    have HW := hid hwk; clear hwk
    have HN := hid hnd; clear hnd
    have HG := hid hmg; clear hmg
    have HT := hid htn; clear htn
    rcases run_next_at (P := Tryz.prog) wr 0 w.heap.size b clk clk seen es clk HW.out.iter HW.out.map HM.out.old (Nat.le_refl _) with ⟨hl0, hrun⟩ | ⟨e, he, w1', hw1', hrun⟩
    · have hp := HW.out.all HM.out.nodup HN.out hl0
      have HP := hid (show (el.filterMap (pairOf es.toList vs)).Perm vs by
        have h1 := hp.filterMap (pairOf es.toList vs)
        rwa [pairOf_map HM.out.nodup (by have := HM.out.len; simpa using this)] at h1)
      go_wp2
      go_end0
      exact ⟨⟨_, rfl⟩, ⟨_, _, _, HP.out, HG.out⟩, HT.out⟩
    · have hmem : e ∈ es.toList := by unfold leftOf at he; simp at he; simpa using he.1
      obtain ⟨⟨⟨x1, x2⟩, ⟨v1, v2, v3⟩⟩, hpm, hpo, hek, hev⟩ := pairOf_mem HM.out.nodup HM.out.ents hmem
      have HW2 := hid (HW.out.next (by omega) he hw1')
      have HND2 := hid (show ((el ++ [e]).map (·.born)).Nodup by
        rw [List.map_append, List.nodup_append]
        refine ⟨HN.out, by simp, fun a ha c hc hac => ?_⟩
        simp at hc
        subst hc
        unfold leftOf at he
        simp at he
        rw [← HW.out.seen] at ha
        rw [hac] at ha
        exact he.2 (by simpa using ha))
      have HLS := hid (left_less he)
      have HT2 := hid (HT.out.set hw1' (Nat.le_refl _) (.mapIter (some b) clk (seen.push e.born) clk))
      have HG2 := hid (show isMap idV valV (setBlock w1' w.heap.size (.mapIter (some b) clk (seen.push e.born) clk)) g (el.filterMap (pairOf es.toList vs)) es' clk' from HG.out.blockK ((setBlock_grown hw1' _ _).block g HG.out.lt (by simp; omega)))
      obtain ⟨w2, hw2⟩ : ∃ w2, w2 = setBlock w1' w.heap.size (.mapIter (some b) clk (seen.push e.born) clk) := ⟨_, rfl⟩
      rw [← hw2] at hrun HW2 HT2 HG2
      clear hw2 hw1'
      have hen := run_entry_at (P := Tryz.prog) w2 w.heap.size b clk seen es clk e HW2.out.iter HW2.out.map hmem HM.out.nodup
      rw [hek, hev] at hrun hen
      simp only [idV, valV] at hrun hen
      have HFM := hid (show (el ++ [e]).filterMap (pairOf es.toList vs) = el.filterMap (pairOf es.toList vs) ++ [((x1, x2), (v1, v2, v3))] by rw [List.filterMap_append]; simp [hpo])
      have HNW := hid (pairs_new HM.out.nodup HM.out.ents hk HW.out.sub hmem HND2.out hpo)
      have HT3 := hid ((HT2.out.allocT (.cells #[.int .i64 x1, .int .i64 x2] 36)).allocT (.cells #[.int .i64 v1, .int .i64 v2, .int .i64 v3] 57))
      have HW3 := hid ((HW2.out.alloc (.cells #[.int .i64 x1, .int .i64 x2] 36)).alloc (.cells #[.int .i64 v1, .int .i64 v2, .int .i64 v3] 57))
      have HG3 := hid (HG2.out.keep (((Below.refl _ w2).alloc (Nat.le_refl _) (.cells #[.int .i64 x1, .int .i64 x2] 36)).alloc (by simp) (.cells #[.int .i64 v1, .int .i64 v2, .int .i64 v3] 57)))
      obtain ⟨es3, clk3, hput, hm3⟩ := run_putI idKey HG3.out Tryz.underlying159 (x1, x2) (v1, v2, v3)
      rw [put_new HNW.out, ← HFM.out] at hm3
      simp only [idV, valV] at hput
      have HM3 := hid hm3; clear hm3
      have hls := HLS.out
      go_wp2
      try go_region
      all_goals (try go_wp2)
      all_goals go_roundw
      case rel => exact ⟨_, _, HW3.out.put hgb (by omega) _, HND2.out, ⟨_, _, HM3.out⟩, HT3.out.trans (Turned.put _ rfl)⟩
      case measure => rw [(HW3.out.put hgb (by omega) _).left, HW.out.left]; exact hls

end Go.Proofs.YtnkpogjiiohapaaGreatDoor

/-! PCopyB: maps.Copy at an object's keys; out of nil. -/
namespace Go.Proofs.YtnkpogjiiohapaaGreatDoor
open Go.RowKit
open Go.ChangeMaps (setBlock)

set_option maxRecDepth 1000000 in
set_option maxHeartbeats 1600000 in
theorem copy_k {w : World} {g b : Nat} {vs : List (ByteArray × CKey)} {es0 es : Array MapEntry} {clk0 clk : Nat} (hg : isMap strV ckeyV w g [] es0 clk0) (hm : isMap strV ckeyV w b vs es clk) (hgb : g ≠ b) (hk : (vs.map (·.1)).Nodup) :
    Calls Tryz.prog 303 #[.map (some g), .map (some b)] w fun e w' => (∃ r, e = .returned r) ∧ (∃ m' es' clk', m'.Perm vs ∧ isMap strV ckeyV w' g m' es' clk') ∧ Turned (fun k => k = g) w w' := by
  have hrg := run_range_map (P := Tryz.prog) w 168 9 159 b es clk Tryz.underlying168 hm.blk
  go_enter Tryz.func303, Tryz.ntmps303
  have hgl := hg.lt
  have hbl := hm.lt
  have HWI := hid (show Walk es clk b w.heap.size #[] [] (w.alloc (.mapIter (some b) clk #[] clk)) from ⟨(alloc_old_r w _ hbl).trans hm.blk, heap_alloc_new w _, rfl, fun e he => by cases he⟩)
  have HG0 := hid (show isMap strV ckeyV (w.alloc (.mapIter (some b) clk #[] clk)) g [] es0 clk0 from hg.keep ((Below.refl _ w).alloc (Nat.le_refl _) _))
  have HM := hid hm
  clear hm hg
  go_wp2
  go_loopw [4] (fun _ wr => ∃ seen el, Walk es clk b w.heap.size seen el wr ∧ (el.map (·.born)).Nodup ∧ (∃ es' clk', isMap strV ckeyV wr g (el.filterMap (pairOf es.toList vs)) es' clk') ∧ Turned (fun k => k = g) w wr) (fun _ wr => leftM b w.heap.size wr)
  case atStart => exact ⟨#[], [], HWI.out, by simp, ⟨_, _, HG0.out⟩, Turned.of_below ((Below.refl _ w).alloc (Nat.le_refl _) _)⟩
  case round =>
    obtain ⟨seen, el, hwk, hnd, ⟨es', clk', hmg⟩, htn⟩ := hrel
    have HW := hid hwk; clear hwk
    have HN := hid hnd; clear hnd
    have HG := hid hmg; clear hmg
    have HT := hid htn; clear htn
    rcases run_next_at (P := Tryz.prog) wr 0 w.heap.size b clk clk seen es clk HW.out.iter HW.out.map HM.out.old (Nat.le_refl _) with ⟨hl0, hrun⟩ | ⟨e, he, w1', hw1', hrun⟩
    · have hp := HW.out.all HM.out.nodup HN.out hl0
      have HP := hid (show (el.filterMap (pairOf es.toList vs)).Perm vs by
        have h1 := hp.filterMap (pairOf es.toList vs)
        rwa [pairOf_map HM.out.nodup (by have := HM.out.len; simpa using this)] at h1)
      go_wp2
      go_end0
      exact ⟨⟨_, rfl⟩, ⟨_, _, _, HP.out, HG.out⟩, HT.out⟩
    · have hmem : e ∈ es.toList := by unfold leftOf at he; simp at he; simpa using he.1
      obtain ⟨⟨key, ck⟩, hpm, hpo, hek, hev⟩ := pairOf_mem HM.out.nodup HM.out.ents hmem
      have HW2 := hid (HW.out.next (by omega) he hw1')
      have HND2 := hid (show ((el ++ [e]).map (·.born)).Nodup by
        rw [List.map_append, List.nodup_append]
        refine ⟨HN.out, by simp, fun a ha c hc hac => ?_⟩
        simp at hc
        subst hc
        unfold leftOf at he
        simp at he
        rw [← HW.out.seen] at ha
        rw [hac] at ha
        exact he.2 (by simpa using ha))
      have HLS := hid (left_less he)
      have HT2 := hid (HT.out.set hw1' (Nat.le_refl _) (.mapIter (some b) clk (seen.push e.born) clk))
      have HG2 := hid (show isMap strV ckeyV (setBlock w1' w.heap.size (.mapIter (some b) clk (seen.push e.born) clk)) g (el.filterMap (pairOf es.toList vs)) es' clk' from HG.out.blockK ((setBlock_grown hw1' _ _).block g HG.out.lt (by simp; omega)))
      obtain ⟨w2, hw2⟩ : ∃ w2, w2 = setBlock w1' w.heap.size (.mapIter (some b) clk (seen.push e.born) clk) := ⟨_, rfl⟩
      rw [← hw2] at hrun HW2 HT2 HG2
      clear hw2 hw1'
      have hen := run_entry_at (P := Tryz.prog) w2 w.heap.size b clk seen es clk e HW2.out.iter HW2.out.map hmem HM.out.nodup
      rw [hek, hev] at hrun hen
      simp only [strV, ckeyV] at hrun hen
      have HFM := hid (show (el ++ [e]).filterMap (pairOf es.toList vs) = el.filterMap (pairOf es.toList vs) ++ [(key, ck)] by rw [List.filterMap_append]; simp [hpo])
      have HNW := hid (pairs_new HM.out.nodup HM.out.ents hk HW.out.sub hmem HND2.out hpo)
      have HT3 := hid HT2.out
      have HW3 := hid HW2.out
      have HG3 := hid HG2.out
      obtain ⟨es3, clk3, hput, hm3⟩ := run_putI strKey HG3.out Tryz.underlying168 key ck
      rw [put_new HNW.out, ← HFM.out] at hm3
      simp only [strV, ckeyV] at hput
      have HM3 := hid hm3; clear hm3
      have hls := HLS.out
      go_wp2
      try go_region
      all_goals (try go_wp2)
      all_goals go_roundw
      case rel => exact ⟨_, _, HW3.out.put hgb (by omega) _, HND2.out, ⟨_, _, HM3.out⟩, HT3.out.trans (Turned.put _ rfl)⟩
      case measure => rw [(HW3.out.put hgb (by omega) _).left, HW.out.left]; exact hls

set_option maxRecDepth 1000000 in
set_option maxHeartbeats 1600000 in
theorem copy_v_nil (g : Option Nat) (w : World) :
    Calls Tryz.prog 302 #[.map g, .map none] w fun e w' => (∃ r, e = .returned r) ∧ Below w.heap.size w w' := by
  have hrg := run_range_nilMap (P := Tryz.prog) w 159 36 57 Tryz.underlying159
  have hnx := run_next_nilMap (P := Tryz.prog) w 0 0 0 #[]
  have HB := hid ((Below.refl w.heap.size w).alloc (Nat.le_refl _) (.mapIter none 0 #[] 0))
  go_enter Tryz.func302, Tryz.ntmps302
  go_wp2
  go_loopw [4] (fun _ wr => wr = w.alloc (.mapIter none 0 #[] 0)) (fun _ _ => 0)
  case atStart => rfl
  case round =>
    subst hrel
    go_wp2
    go_end0
    exact ⟨⟨_, rfl⟩, HB.out⟩

set_option maxRecDepth 1000000 in
set_option maxHeartbeats 1600000 in
theorem copy_k_nil (g : Option Nat) (w : World) :
    Calls Tryz.prog 303 #[.map g, .map none] w fun e w' => (∃ r, e = .returned r) ∧ Below w.heap.size w w' := by
  have hrg := run_range_nilMap (P := Tryz.prog) w 168 9 159 Tryz.underlying168
  have hnx := run_next_nilMap (P := Tryz.prog) w 0 0 0 #[]
  have HB := hid ((Below.refl w.heap.size w).alloc (Nat.le_refl _) (.mapIter none 0 #[] 0))
  go_enter Tryz.func303, Tryz.ntmps303
  go_wp2
  go_loopw [4] (fun _ wr => wr = w.alloc (.mapIter none 0 #[] 0)) (fun _ _ => 0)
  case atStart => rfl
  case round =>
    subst hrel
    go_wp2
    go_end0
    exact ⟨⟨_, rfl⟩, HB.out⟩

end Go.Proofs.YtnkpogjiiohapaaGreatDoor

/-! PWithA: without: new values, those that the named operations did not give. -/
namespace Go.Proofs.YtnkpogjiiohapaaGreatDoor
open Go.RowKit

def lessI (gs : List PId) (vs : List (PId × PVal)) : List (PId × PVal) := vs.filter fun p => decide (p.1 ∉ gs)
theorem less_nil (vs : List (PId × PVal)) : lessI [] vs = vs := by simp [lessI]
theorem cut_filter {κ ν : Type} [DecidableEq κ] (x : κ) : ∀ {m : List (κ × ν)}, (m.map (·.1)).Nodup → cutI x m = m.filter fun p => decide (p.1 ≠ x)
  | [], _ => rfl
  | p :: m, h => by
    simp only [List.map_cons, List.nodup_cons] at h
    unfold cutI
    by_cases hx : x = p.1
    · rw [if_pos hx]
      subst hx
      rw [List.filter_cons_of_neg (by simp)]
      symm
      rw [List.filter_eq_self]
      intro q hq
      simp only [ne_eq, decide_eq_true_eq]
      intro e
      exact h.1 (e ▸ List.mem_map.2 ⟨q, hq, rfl⟩)
    · rw [if_neg hx, cut_filter x h.2, List.filter_cons_of_pos (by simpa using fun e => hx e.symm)]
theorem less_step {gs : List PId} {k : Nat} (hk : k < gs.length) {vs m : List (PId × PVal)} (hn : (vs.map (·.1)).Nodup) (h : m.Perm (lessI (gs.take k) vs)) : (cutI gs[k] m).Perm (lessI (gs.take (k + 1)) vs) := by
  have hm : (m.map (·.1)).Nodup := (h.map (·.1)).nodup_iff.2 ((List.filter_sublist.map _).nodup hn)
  rw [cut_filter _ hm]
  refine (h.filter _).trans (List.Perm.of_eq ?_)
  unfold lessI
  rw [List.filter_filter]
  congr 1
  funext p
  have hmem : p.1 ∈ gs.take (k + 1) ↔ p.1 ∈ gs.take k ∨ p.1 = gs[k] := by rw [List.take_succ_eq_append_getElem hk, List.mem_append, List.mem_singleton]
  simp only [hmem, not_or, ne_eq, Bool.decide_and]
  exact Bool.and_comm _ _

theorem Turned.under {S : Nat → Prop} {w w' : World} (h : Turned S w w') {n : Nat} (hs : ∀ k, S k → n ≤ k) (hn : n ≤ w.heap.size) : Below n w w' :=
  ⟨h.os, h.tape, h.output, h.size, fun k hk => h.other k (by omega) (fun hh => by have := hs k hh; omega)⟩

/-- maps.Copy of values into an empty map. -/
theorem copy_vals {w : World} {g : Nat} {v : Option Nat} {vs : List (PId × PVal)} {es0 : Array MapEntry} {clk0 : Nat} (hg : isMap idV valV w g [] es0 clk0) (hv : isVals w v vs) (hgb : ∀ b, v = some b → g ≠ b) (hk : (vs.map (·.1)).Nodup) :
    Calls Tryz.prog 302 #[.map (some g), .map v] w fun e w' => (∃ r, e = .returned r) ∧ (∃ m' es' clk', m'.Perm vs ∧ isMap idV valV w' g m' es' clk') ∧ Turned (fun k => k = g) w w' := by
  rcases hv with ⟨rfl, rfl⟩ | ⟨b, es, clk, rfl, hm⟩
  · exact (copy_v_nil (some g) w).mono fun e w' hh => ⟨hh.1, ⟨[], _, _, List.Perm.refl _, hg.keep hh.2⟩, Turned.of_below hh.2⟩
  · exact copy_v hg hm (hgb b rfl) hk
theorem copy_keys {w : World} {g : Nat} {v : Option Nat} {ks : List (ByteArray × CKey)} {es0 : Array MapEntry} {clk0 : Nat} (hg : isMap strV ckeyV w g [] es0 clk0) (hv : isKeys w v ks) (hgb : ∀ b, v = some b → g ≠ b) (hk : (ks.map (·.1)).Nodup) :
    Calls Tryz.prog 303 #[.map (some g), .map v] w fun e w' => (∃ r, e = .returned r) ∧ (∃ m' es' clk', m'.Perm ks ∧ isMap strV ckeyV w' g m' es' clk') ∧ Turned (fun k => k = g) w w' := by
  rcases hv.1 with ⟨rfl, rfl⟩ | ⟨b, es, clk, rfl, hm⟩
  · exact (copy_k_nil (some g) w).mono fun e w' hh => ⟨hh.1, ⟨[], _, _, List.Perm.refl _, hg.keep hh.2⟩, Turned.of_below hh.2⟩
  · exact copy_k hg hm (hgb b rfl) hk
theorem mk_map (t : TypeId) (w : World) : (Instr.makeMap t none).run Tryz.prog w = .ok (.map (some w.heap.size)) (w.alloc (.map #[] 0)) := rfl
theorem isVals.lt {w : World} {v : Option Nat} {vs : List (PId × PVal)} (h : isVals w v vs) (b : Nat) (hb : v = some b) : b < w.heap.size := by
  rcases h with ⟨rfl, _⟩ | ⟨c, es, clk, rfl, hm⟩
  · cases hb
  · injection hb with hb; subst hb; exact hm.lt
theorem isMap.fresh {κ ν : Type} (encK : κ → Value) (encV : ν → Value) (w : World) : isMap encK encV (w.alloc (.map #[] 0)) w.heap.size [] #[] 0 := ⟨heap_alloc_new w _, rfl, by simp, by simp⟩

set_option maxRecDepth 1000000 in
set_option maxHeartbeats 1600000 in
theorem without_q {w : World} {v : Option Nat} {vs : List (PId × PVal)} (hv : isVals w v vs) (hk : (vs.map (·.1)).Nodup) {s : Value} {gs : List PId} (hg : isIds w s gs) :
    Calls Tryz.prog 300 #[.map v, s] w fun e w' => (∃ g m' es' clk', e = .returned (.map (some g)) ∧ w.heap.size ≤ g ∧ m'.Perm (lessI gs vs) ∧ isMap idV valV w' g m' es' clk') ∧ Below w.heap.size w w' := by
  have HB0 := hid ((Below.refl w.heap.size w).alloc (Nat.le_refl _) (.map #[] 0))
  have HC := hid (copy_vals (isMap.fresh idV valV w) (hv.keep HB0.out) (fun b hb => by have := hv.lt b hb; omega) hk)
  clear hv
  have HI := hid hg
  obtain ⟨ua, uc, rfl, hul, hum, huf⟩ := owns_form hg
  unfold maxLen at hum
  have HUF := hid huf
  clear hg huf
  have hmk := mk_map 159
  go_enter Tryz.func300, Tryz.ntmps300
  go_wp2_with fail
  refine HC.out.mono ?_
  rintro e w1 ⟨⟨r, rfl⟩, ⟨m1, es1, clk1, hp1, hm1⟩, ht1⟩
  have HB1 := hid (HB0.out.trans (ht1.under (n := w.heap.size) (fun k hk => by omega) (by simp))); clear ht1
  have HP1 := hid hp1; clear hp1
  have HM1 := hid hm1; clear hm1
  go_wp2
  go_loopw [14] (fun i wr => ∃ k : Nat, k ≤ gs.length ∧ i = .int .i64 k ∧ (∃ m' es' clk', m'.Perm (lessI (gs.take k) vs) ∧ isMap idV valV wr w.heap.size m' es' clk') ∧ Below w.heap.size w wr) (fun i _ => gs.length - (intOf i).toNat)
  case atStart => exact ⟨0, Nat.zero_le _, rfl, ⟨m1, es1, clk1, by rw [List.take_zero, less_nil]; exact HP1.out, HM1.out⟩, HB1.out⟩
  case round =>
    obtain ⟨k, hkl, rfl, ⟨m', es', clk', hp, hm⟩, hbel⟩ := hrel
    by_cases hlt : k < gs.length
    · obtain ⟨u, rfl⟩ := HUF.out k hlt
      obtain ⟨c0, c1⟩ := isIds.cells (HI.out.keep hbel) rfl k hlt
      have hul' : u < wr.heap.size := World.block_lt_of_cell? wr _ c0
      have hbz := hbel.size
      have HP := hid (less_step hlt hk hp); clear hp
      have HBA := hid (hbel.alloc hbz (.cells #[.int .i64 gs[k].1, .int .i64 gs[k].2] 36))
      have hma := hm.keep ((Below.refl wr.heap.size wr).alloc (Nat.le_refl _) (.cells #[.int .i64 gs[k].1, .int .i64 gs[k].2] 36))
      obtain ⟨es3, hcut, hm3⟩ := run_cutI idKey hma Tryz.underlying159 (ty := 0) (t2 := 36) gs[k]
      simp only [idV] at hcut
      have HM3 := hid hm3; clear hm3 hm hma hbel
      go_wp2
      try go_region
      all_goals (try go_wp2)
      all_goals go_roundw
      case rel => exact ⟨k + 1, by omega, by go_num, ⟨_, _, _, HP.out, HM3.out⟩, HBA.out.trans (Turned.under (Turned.put (S := fun k => k = w.heap.size) _ rfl) (fun k hk => by omega) (by simp; omega))⟩
      case measure => simp [intOf]; omega
    · have HP := hid hp; clear hp
      go_wp2
      go_ret
      refine ⟨⟨_, m', es', clk', rfl, Nat.le_refl _, ?_, hm⟩, hbel⟩
      have := HP.out
      rwa [List.take_of_length_le (by omega)] at this

end Go.Proofs.YtnkpogjiiohapaaGreatDoor

/-! PSetA: set at an element. -/
namespace Go.Proofs.YtnkpogjiiohapaaGreatDoor
open Go.RowKit

theorem set5v {w : World} {g : Nat} {a b c d e u : Value} {t : TypeId} (h : w.heap[g]? = some (.cells #[a, b, c, d, e] t (0, 0))) : (w.setCell ⟨g, 4, none⟩ u).heap[g]? = some (.cells #[a, b, c, d, u] t (0, 0)) := by
  have hl := blk_lt h
  obtain ⟨_, he⟩ := Array.getElem?_eq_some_iff.1 h
  simp [World.setCell, hl, Array.getElem_modify_self, he]

set_option maxRecDepth 1000000 in
set_option maxHeartbeats 1600000 in
theorem set_el {w : World} {d bo be : Nat} {R : Nat → Prop} {os : List (PId × CQObj)} {els : List (PId × CQEl)} (h : isQ w d bo be os els) (ho : QOwn bo be R os els) (o1 o2 e1 e2 : Int) {el : CQEl} (hel : lookI (e1, e2) els = some el) {v : Option Nat} {vs : List (PId × PVal)} (hv : isVals w v vs) (hR : ∀ b, v = some b → R b) :
    Calls Tryz.prog 301 #[.pointer (some ⟨d, 0, none⟩), .agg #[.int .i64 o1, .int .i64 o2, .string ⟨#[]⟩, .int .i64 e1, .int .i64 e2], .map v] w fun e w' => (∃ r, e = .returned r) ∧
      isQ w' d bo be os (putI (e1, e2) { el with v := v, vs := vs } els) ∧ QOwn bo be R os (putI (e1, e2) { el with v := v, vs := vs } els) ∧ Turned (fun k => k = be) w w' := by
  have HB1 := hid ((Below.refl w.heap.size w).alloc (Nat.le_refl _) (.cells #[.int .i64 o1, .int .i64 o2, .string ⟨#[]⟩, .int .i64 e1, .int .i64 e2] 97))
  have HPB := hid (blk_new w (.cells #[.int .i64 o1, .int .i64 o2, .string ⟨#[]⟩, .int .i64 e1, .int .i64 e2] 97))
  obtain ⟨⟨q1, q2⟩, ⟨n1, n2⟩, ev, evs⟩ := el
  have HEL := hid hel; clear hel
  have HV := hid hv; clear hv
  have HH := hid h; clear h
  have HO := hid ho; clear ho
  obtain ⟨w1, hw1⟩ : ∃ w1, w1 = w.alloc (.cells #[.int .i64 o1, .int .i64 o2, .string ⟨#[]⟩, .int .i64 e1, .int .i64 e2] 97) := ⟨_, rfl⟩
  rw [← hw1] at HB1 HPB
  go_enter Tryz.func301, Tryz.ntmps301
  go_wp2
  rw [← hw1]
  have hsz1 : w.heap.size < w1.heap.size := by rw [hw1]; simp
  clear hw1
  obtain ⟨p0, p1, p2, p3, p4⟩ := blk5 HPB.out
  have c1 := (HH.out.keep HB1.out).c1
  have hdl := HH.out.lt
  have hdl1 := (HH.out.keep HB1.out).lt
  have hz1 := HB1.out.size
  have l1 := (HH.out.keep HB1.out.drew).lookE e1 e2 false
  have l2 := (HH.out.keep (HB1.out.alloc hz1 (.cells #[.int .i64 0, .int .i64 0, .int .i64 0, .int .i64 0, .map none] 176)).drew).lookE e1 e2 false
  rw [HEL.out] at l1 l2
  simp only [Option.map_some, Option.getD_some, Bool.false_eq_true, if_false, qelV] at l1 l2
  go_cut [6] (fun p wc => p = .pointer (some ⟨w1.heap.size, 0, none⟩) ∧ wc = (w1.alloc (.cells #[.int .i64 q1, .int .i64 q2, .int .i64 n1, .int .i64 n2, .map ev] 176)).drew)
  case first =>
    go_region
    all_goals (go_wp2_with fail; go_meet)
    all_goals exact ⟨rfl, rfl⟩
  case rest =>
    obtain ⟨rfl, hwc⟩ := hcut
    have HBC := hid (show Below w1.heap.size w1 wc by rw [hwc]; exact ((Below.refl _ w1).alloc (Nat.le_refl _) _).drew)
    have HOX := hid (show wc.heap[w1.heap.size]? = some (.cells #[.int .i64 q1, .int .i64 q2, .int .i64 n1, .int .i64 n2, .map ev] 176 (0, 0)) by rw [hwc]; exact blk_new w1 _)
    have HBW := hid (HB1.out.trans (HBC.out.mono hz1))
    clear hwc p0 p1 p2 p3 p4 c1 l1 l2
    have HPC := hid (blk_keep HPB.out HBC.out)
    have HQC := hid (HH.out.keep HBW.out)
    obtain ⟨o0, o1', o2', o3, o4⟩ := blk5 HOX.out
    have of := blk_fz HOX.out
    go_wp2
    obtain ⟨w4, hw4⟩ : ∃ w4, w4 = wc.setCell ⟨w1.heap.size, 4, none⟩ (.map v) := ⟨_, rfl⟩
    rw [← hw4]
    have hoth : ∀ k, k ≠ w1.heap.size → w4.heap[k]? = wc.heap[k]? := fun k hk => by rw [hw4, Below.heap_setCell _ _ _ _ hk]
    have HO4 := hid (show w4.heap[w1.heap.size]? = some (.cells #[.int .i64 q1, .int .i64 q2, .int .i64 n1, .int .i64 n2, .map v] 176 (0, 0)) by rw [hw4]; exact set5v HOX.out)
    have HQ4 := hid (HQC.out.other hoth (by omega) HOX.out)
    have HP4 := hid ((hoth _ (by omega)).trans HPC.out)
    have HB4 := hid (show Below w.heap.size w w4 from ⟨by rw [hw4]; exact HBW.out.os, by rw [hw4]; exact HBW.out.tape, by rw [hw4]; exact HBW.out.output, by rw [hw4]; have := HBW.out.size; simpa [World.setCell] using this, fun k hk => by rw [hoth k (by omega), HBW.out.block k hk]⟩)
    clear hw4 hoth o0 o1' o2' o3 o4 of
    obtain ⟨p0, p1, p2, p3, p4⟩ := blk5 HP4.out
    obtain ⟨o0, o1', o2', o3, o4⟩ := blk5 HO4.out
    have c1 := HQ4.out.c1
    have HDR := hid (show Below w4.heap.size w4 w4.drew from (Below.refl _ w4).drew)
    obtain ⟨es2, clk2, hrun2, hq2, hown2⟩ := (HQ4.out.keep HDR.out).putE HO.out (e1, e2) ⟨(q1, q2), (n1, n2), v, vs⟩ (HV.out.keep HB4.out.drew) hR
    simp only [idV, qelV] at hrun2
    have HX := hid (And.intro hq2 (And.intro hown2 ((Turned.of_below HB4.out.drew).trans (Turned.put (S := fun k => k = be) (.map es2 clk2) rfl))))
    clear hq2 hown2
    go_wp2
    go_region
    all_goals (try go_wp2)
    all_goals exact bodyPost_ret (v := .tuple #[]) (by simp [results, Tryz.results301, go_sem]) rfl ⟨⟨_, rfl⟩, HX.out.1, HX.out.2.1, HX.out.2.2⟩

end Go.Proofs.YtnkpogjiiohapaaGreatDoor
