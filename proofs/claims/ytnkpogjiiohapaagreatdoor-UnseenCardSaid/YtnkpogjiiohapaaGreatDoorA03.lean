/- Our own text (PSeqA, PSeqB, PSeqC, RefZ, RefAdd, RefWrote, PDocB). -/
import Derived.Maps.RangeRun
import Derived.RangeFuncGives
import Derived.RangeFuncSeq
import Derived.Sort.MapsRangeIn
import Derived.OwnWalkIn
import Derived.TacticsInMore
import Derived.RegionIn
import Derived.LoopNIn
import Derived.LoopIn
import Derived.Maps.AppendAt
import Derived.Shelf.Abstract
import Derived.RangeFuncNested
import Derived.RangeFuncBox
import Derived.RangeFuncLeaves
import Derived.LoopN
import Derived.Deep.DeepCutAuto
import Derived.Test.YtnkpogjiiohapaaGreatDoorA02
set_option linter.unusedSimpArgs false
set_option linter.unusedVariables false

/-! PSeqA: The iterator over a map's keys (maps.Keys at a place's values): the keys come, each once, in some order. -/
namespace Go.Proofs.YtnkpogjiiohapaaGreatDoor
open Go.RowKit
open Go.ChangeMaps (setBlock)

/-- How many entries the walk over a map has still to hand out. -/
def leftM (b r : Nat) (w : World) : Nat :=
  match w.heap[b]?, w.heap[r]? with
  | some (.map es _), some (.mapIter _ _ seen _) => (leftOf es seen).size
  | _, _ => 0

/-- A walk over a map: what has come of it. -/
structure Walk (es : Array MapEntry) (clk b r : Nat) (seen : Array Nat) (l : List MapEntry) (w : World) : Prop where
  map : w.heap[b]? = some (.map es clk)
  iter : w.heap[r]? = some (.mapIter (some b) clk seen clk)
  seen : seen.toList = l.map (·.born)
  sub : ∀ e ∈ l, e ∈ es.toList

theorem Walk.left {es : Array MapEntry} {clk b r : Nat} {seen : Array Nat} {l : List MapEntry} {w : World} (h : Walk es clk b r seen l w) : leftM b r w = (leftOf es seen).size := by
  simp [leftM, h.map, h.iter]

theorem setBlock_grown {w w1 : World} (hw : w1 = w ∨ w1 = w.drew) (r : Nat) (o : Obj) : w.grownBy (setBlock w1 r o) (some r) := by
  have h : w1.heap = w.heap ∧ w1.os = w.os ∧ w1.tape = w.tape ∧ w1.output = w.output := by rcases hw with rfl | rfl <;> exact ⟨rfl, rfl, rfl, rfl⟩
  refine ⟨h.2.1, h.2.2.1, h.2.2.2, by simp [setBlock, h.1], fun k hk hne => ?_⟩
  have : r ≠ k := fun e => hne (by rw [e])
  simp [setBlock, Array.getElem?_setIfInBounds, this, h.1]

/-- What has come of the walk, with one entry more. -/
theorem Walk.next {es : Array MapEntry} {clk b r : Nat} {seen : Array Nat} {l : List MapEntry} {w w1 : World} (h : Walk es clk b r seen l w) (hrb : r ≠ b) {e : MapEntry} (he : e ∈ (leftOf es seen).toList) (hw : w1 = w ∨ w1 = w.drew) :
    Walk es clk b r (seen.push e.born) (l ++ [e]) (setBlock w1 r (.mapIter (some b) clk (seen.push e.born) clk)) := by
  have hh : w1.heap = w.heap := by rcases hw with rfl | rfl <;> rfl
  have hrl : r < w.heap.size := (Array.getElem?_eq_some_iff.1 h.iter).1
  refine ⟨?_, ?_, by simp [h.seen], ?_⟩
  · simp [setBlock, Array.getElem?_setIfInBounds, hrb, hh, h.map]
  · simp [setBlock, hh, hrl]
  · intro e' he'
    rcases List.mem_append.1 he' with he' | he'
    · exact h.sub e' he'
    · simp at he'; subst he'
      unfold leftOf at he
      simp at he
      simpa using he.1

theorem left_less {es : Array MapEntry} {seen : Array Nat} {e : MapEntry} (he : e ∈ (leftOf es seen).toList) : (leftOf es (seen.push e.born)).size < (leftOf es seen).size := by
  have h1 : leftOf es (seen.push e.born) = (leftOf es seen).filter fun x => x.born != e.born := by
    unfold leftOf
    rw [Array.filter_filter]
    congr 1
    funext x
    by_cases h1 : x.born = e.born <;> simp [h1, bne]
  rw [h1]
  have hm : e ∈ leftOf es seen := by simpa using he
  simp
  exact ⟨e, hm, rfl⟩

/-- Nothing is left: all has come. -/
theorem Walk.all {es : Array MapEntry} {clk b r : Nat} {seen : Array Nat} {l : List MapEntry} {w : World} (h : Walk es clk b r seen l w) (hnd : (es.toList.map (·.born)).Nodup) (hnl : (l.map (·.born)).Nodup) (h0 : (leftOf es seen).size = 0) : l.Perm es.toList := by
  have hl0 : leftOf es seen = #[] := Array.eq_empty_of_size_eq_zero h0
  have hall : ∀ e ∈ es.toList, e.born ∈ l.map (·.born) := by
    intro e he
    rw [← h.seen]
    apply Classical.byContradiction
    intro hc
    have : e ∈ leftOf es seen := by
      unfold leftOf
      simp
      refine ⟨by simpa using he, ?_⟩
      intro hm
      exact hc (by simpa using hm)
    rw [hl0] at this
    simp at this
  have inj : ∀ a ∈ es.toList, ∀ c ∈ es.toList, a.born = c.born → a = c := by
    intro a ha c hc hac
    obtain ⟨i, hi, rfl⟩ := List.mem_iff_getElem.1 ha
    obtain ⟨j, hj, rfl⟩ := List.mem_iff_getElem.1 hc
    by_cases hij : i = j
    · subst hij; rfl
    · exfalso
      have hp := List.pairwise_iff_getElem.1 hnd
      rcases Nat.lt_or_gt_of_ne hij with hlt | hlt
      · exact hp i j (by simpa using hi) (by simpa using hj) hlt (by simpa using hac)
      · exact hp j i (by simpa using hj) (by simpa using hi) hlt (by simpa using hac.symm)
  have hnle : es.toList.Nodup := (List.Pairwise.of_map _ (fun a b hab e => hab (by rw [e])) hnd)
  have hnll : l.Nodup := (List.Pairwise.of_map _ (fun a b hab e => hab (by rw [e])) hnl)
  refine (List.perm_ext_iff_of_nodup hnll hnle).2 fun a => ⟨h.sub a, fun ha => ?_⟩
  obtain ⟨e, he, hb⟩ := List.mem_map.1 (hall a ha)
  rw [← inj e (h.sub e he) a ha hb]; exact he

/-- The keys of some entries. -/
def KeysOf (l : List MapEntry) (ks : List PId) : Prop := l.map (·.key) = ks.map idV
def intV : Value → Int
  | .int _ n => n
  | _ => 0
def unV : Value → PId
  | .agg c => (intV (c[0]?.getD undef), intV (c[1]?.getD undef))
  | _ => (0, 0)
theorem perm_idV {a b : List PId} (h : (a.map idV).Perm (b.map idV)) : a.Perm b := by
  have hu : ∀ l : List PId, (l.map idV).map unV = l := fun l => by
    rw [List.map_map]
    have : unV ∘ idV = id := by funext x; rfl
    rw [this, List.map_id]
  have := h.map unV
  rwa [hu, hu] at this

attribute [local go_sem] Oper.semAt_some

set_option maxRecDepth 100000 in
set_option maxHeartbeats 1000000 in
theorem keys1_q (F : Fence) (n : Nat) (h10 : F.fn 164) (hro : F.round = none) (hn : 1 ≤ n) (l Bm b : Nat) (vs : List (PId × PVal)) (es : Array MapEntry) (clk : Nat) (J Jx : List PId → World → Prop)
    (hY : ∀ pre x W, J pre W → pre.length < vs.length → YieldAt F (n - 1) Tryz.prog l #[idV x] W fun e W' => (e = .returned (.bool true) ∧ J (pre ++ [x]) W' ∧ KeepsWalks W W') ∨ (e = .returned (.bool false) ∧ Jx (pre ++ [x]) W'))
    (W : World) (hJ : AbidesFrom W.heap.size J) (hm : W.cell? ⟨Bm, 0, none⟩ = some (.map (some b))) (hown : isMap idV valV W b vs es clk) (h0 : J [] W) :
    CallsIn F n Tryz.prog 164 #[.func (.yield l) #[] #[], .pointer (some ⟨Bm, 0, none⟩)] W fun e W' => (∃ v, e = .returned v) ∧ ((∃ ss : List PId, ss.Perm (vs.map (·.1)) ∧ J ss W') ∨ ∃ pre, True ∧ Jx pre W') := by
  have hrg := run_range_map (P := Tryz.prog) W 159 36 57 b es clk Tryz.underlying159 hown.blk
  refine callsIn_of_wp Tryz.func164 rfl h10 ?_ hro
  simp only [Tryz.ntmps164, List.size_toArray, List.length_cons, List.length_nil, Nat.reduceAdd, Nat.reduceSub, Array.replicate_succ, Array.replicate_zero, List.push_toArray, List.append_toArray, List.nil_append, List.cons_append]
  gi_wp2
  have hbl := hown.lt
  have hw0 : Walk es clk b W.heap.size #[] [] (W.alloc (.mapIter (some b) clk #[] clk)) := ⟨by rw [alloc_old_r W _ hbl]; exact hown.blk, heap_alloc_new W _, rfl, fun e he => by cases he⟩
  have hJ0 : J [] (W.alloc (.mapIter (some b) clk #[] clk)) := hJ [] W _ none h0 (World.grownBy_alloc W _ none) (fun r e => by cases e)
  have HO := hid hown; clear hown hrg hm h0
  gi_loopw [3] (fun _ wr => ∃ seen el ks, Walk es clk b W.heap.size seen el wr ∧ (el.map (·.born)).Nodup ∧ KeysOf el ks ∧ el.length + (leftOf es seen).size ≤ vs.length ∧ J ks wr) (fun _ wr => leftM b W.heap.size wr)
  case atStart => exact ⟨#[], [], [], hw0, by simp, rfl, by rw [← HO.out.len]; simp only [List.length_nil, Nat.zero_add]; exact Array.size_filter_le, hJ0⟩
  case round =>
    obtain ⟨seen, el, ks, hwk, hnd, hks, hcnt, hJs⟩ := hrel
    have HW := hid hwk; clear hwk
    have HK := hid hks; clear hks
    have HN := hid hnd; clear hnd
    rcases run_next_at (P := Tryz.prog) wr 0 W.heap.size b clk clk seen es clk HW.out.iter HW.out.map HO.out.old (Nat.le_refl _) with ⟨hl0, hrun⟩ | ⟨e, he, w1, hw1, hrun⟩
    · gi_wp2
      go_end0
      refine ⟨⟨_, rfl⟩, .inl ⟨ks, ?_, hJs⟩⟩
      have hp := HW.out.all HO.out.nodup HN.out hl0
      have h1 := hp.map (·.key)
      have h2 : es.toList.map (·.key) = (vs.map (·.1)).map idV := by
        have := congrArg (List.map Prod.fst) HO.out.ents
        simpa [Function.comp_def] using this
      rw [HK.out, h2] at h1
      exact perm_idV h1
    · have hmem : e ∈ es.toList := by unfold leftOf at he; simp at he; simpa using he.1
      obtain ⟨x, hx⟩ : ∃ x, e.key = idV x := by
        have h2 : es.toList.map (·.key) = (vs.map (·.1)).map idV := by
          have := congrArg (List.map Prod.fst) HO.out.ents
          simpa [Function.comp_def] using this
        have : e.key ∈ es.toList.map (·.key) := List.mem_map.2 ⟨e, hmem, rfl⟩
        rw [h2] at this
        obtain ⟨y, _, hy⟩ := List.mem_map.1 this
        exact ⟨y, hy.symm⟩
      have HW2 := hid (HW.out.next (by omega) he hw1)
      obtain ⟨w2, hw2⟩ : ∃ w2, w2 = setBlock w1 W.heap.size (.mapIter (some b) clk (seen.push e.born) clk) := ⟨_, rfl⟩
      rw [← hw2] at hrun HW2
      have hen := run_entry_at (P := Tryz.prog) w2 W.heap.size b clk seen es clk e HW2.out.iter HW2.out.map hmem HO.out.nodup
      rw [hx] at hrun hen
      have hg2 : wr.grownBy w2 (some W.heap.size) := by
        rw [hw2]
        exact setBlock_grown hw1 _ _
      have hJ2 : J ks w2 := hJ ks wr w2 (some W.heap.size) hJs hg2 (fun r e => by cases e; exact ⟨Nat.le_refl _, _, HW.out.iter, rfl⟩)
      have hJ3 : J ks (w2.alloc (.cells #[.int .i64 x.1, .int .i64 x.2] 36)) := hJ ks w2 _ none hJ2 (World.grownBy_alloc w2 _ none) (fun r e => by cases e)
      have hlen : ks.length < vs.length := by
        have h1 : ks.length = el.length := by have := congrArg List.length HK.out; simpa using this.symm
        have h2 := left_less he
        omega
      obtain ⟨fn, tmps, assign, body, hy, hR⟩ := hY ks x _ hJ3 hlen
      have HLS := hid (left_less he)
      have HHE := hid he
      clear he hw1 hw2 hg2 hJ2 hJ3 hJs
      unfold idV at hrun hen hy
      have HHX := hid hx; clear hx
      gi_wp2
      refine hR.mono ?_
      rintro e' W3 (⟨rfl, hJ4, hk3⟩ | ⟨rfl, hJx⟩)
      case inr =>
        gi_wp2
        exact bodyPost_ret (v := .tuple #[]) (by simp [results, Tryz.results164, go_sem]) rfl ⟨⟨_, rfl⟩, .inr ⟨_, trivial, hJx⟩⟩
      have HK3 := hid hk3; clear hk3
      gi_wp2
      have hw3 : Walk es clk b W.heap.size (seen.push e.born) (el ++ [e]) W3 := by
        have hb2 := (Array.getElem?_eq_some_iff.1 HW2.out.map).1
        have hr2 := (Array.getElem?_eq_some_iff.1 HW2.out.iter).1
        exact ⟨HK3.out.same b _ ((alloc_old_r w2 _ hb2).trans HW2.out.map) rfl, HK3.out.same _ _ ((alloc_old_r w2 _ hr2).trans HW2.out.iter) rfl, HW2.out.seen, HW2.out.sub⟩
      have hls := HLS.out
      go_roundw
      case rel =>
        refine ⟨_, _, ks ++ [x], hw3, ?_, ?_, by simp; omega, hJ4⟩
        · rw [List.map_append, List.nodup_append]
          refine ⟨HN.out, by simp, fun a ha c hc hac => ?_⟩
          simp at hc
          subst hc
          have h1 := HHE.out
          unfold leftOf at h1
          simp at h1
          rw [← HW.out.seen] at ha
          rw [hac] at ha
          exact h1.2 (by simpa using ha)
        · unfold KeysOf
          rw [List.map_append, List.map_append, HK.out]
          simp [HHX.out]
      case measure => rw [hw3.left, HW.out.left]; exact hls

set_option maxRecDepth 100000 in
set_option maxHeartbeats 1000000 in
/-- Over a nil map nothing comes. -/
theorem keys1_nil (F : Fence) (n : Nat) (h10 : F.fn 164) (hro : F.round = none) (l Bm : Nat) (J Jx : List PId → World → Prop)
    (W : World) (hJ : AbidesFrom W.heap.size J) (hm : W.cell? ⟨Bm, 0, none⟩ = some (.map none)) (h0 : J [] W) :
    CallsIn F n Tryz.prog 164 #[.func (.yield l) #[] #[], .pointer (some ⟨Bm, 0, none⟩)] W fun e W' => (∃ v, e = .returned v) ∧ ((∃ ss : List PId, ss.Perm [] ∧ J ss W') ∨ ∃ pre, True ∧ Jx pre W') := by
  have hrg := run_range_nilMap (P := Tryz.prog) W 159 36 57 Tryz.underlying159
  have hnx := run_next_nilMap (P := Tryz.prog) W 0 0 0 #[]
  have hJ0 : J [] (W.alloc (.mapIter none 0 #[] 0)) := hJ [] W _ none h0 (World.grownBy_alloc W _ none) (fun r e => by cases e)
  refine callsIn_of_wp Tryz.func164 rfl h10 ?_ hro
  simp only [Tryz.ntmps164, List.size_toArray, List.length_cons, List.length_nil, Nat.reduceAdd, Nat.reduceSub, Array.replicate_succ, Array.replicate_zero, List.push_toArray, List.append_toArray, List.nil_append, List.cons_append]
  gi_wp2
  gi_loopw [3] (fun _ wr => wr = W.alloc (.mapIter none 0 #[] 0)) (fun _ _ => 0)
  case atStart => rfl
  case round =>
    subst hrel
    gi_wp2
    go_end0
    exact ⟨⟨_, rfl⟩, .inl ⟨[], List.Perm.refl _, hJ0⟩⟩

/-- maps.Keys: the map is boxed, and the function value captures the box. -/
theorem keys_q (F : Fence) (n : Nat) (h7 : F.fn 138) (hro : F.round = none) (mb : Option Nat) (w : World) :
    CallsIn F n Tryz.prog 138 #[.map mb] w fun e w' => e = .returned (.func (.func 164) #[] #[.pointer (some ⟨w.heap.size, 0, none⟩)]) ∧ w' = w.alloc (.cells #[.map mb] 159) := by
  refine callsIn_of_wp Tryz.func138 rfl h7 ?_ hro
  simp only [Tryz.ntmps138, List.size_toArray, List.length_cons, List.length_nil, Nat.reduceAdd, Nat.reduceSub, Array.replicate_succ, Array.replicate_zero, List.push_toArray, List.append_toArray, List.nil_append, List.cons_append]
  gi_wp2
  go_ret
  exact ⟨rfl, rfl⟩

/-- maps.Keys hands back an iterator over the keys of a place's values. -/
theorem keys_stops (F : Fence) (n : Nat) (h10 : F.fn 164) (hro : F.round = none) (hn : 1 ≤ n) (Bm : Nat) (v : Option Nat) (vs : List (PId × PVal)) (w : World) (hm : w.cell? ⟨Bm, 0, none⟩ = some (.map v)) (hv : isVals w v vs) :
    SeqStopsK F n Tryz.prog 164 #[.pointer (some ⟨Bm, 0, none⟩)] (fun x => #[idV x]) KeepsWalks (fun ss => ss.Perm (vs.map (·.1))) (fun _ => True) vs.length w := by
  intro l J Jx W hW hJ hJx hY h0
  have hm' := keep hW hm
  rcases hv with ⟨rfl, rfl⟩ | ⟨b, es, clk, rfl, hmap⟩
  · exact keys1_nil F n h10 hro l Bm J Jx W hJ hm' h0
  · exact keys1_q F n h10 hro hn l Bm b vs es clk J Jx hY W hJ hm' (hmap.keep hW) h0

end Go.Proofs.YtnkpogjiiohapaaGreatDoor

/-! PSeqB: slices.AppendSeq and slices.Collect over an iterator of Ids. -/
namespace Go.Proofs.YtnkpogjiiohapaaGreatDoor
open Go.RowKit
attribute [local go_sem] Oper.semAt_some

theorem add_cells {w : World} {g : Nat} {l : List Value} (h : ∀ j u, l[j]? = some u → w.cell? ⟨g, j, none⟩ = some u) : ∀ j u, l[j]? = some u → w.cell? ((⟨g, 0, none⟩ : Addr).add j) = some u := by
  intro j u hu
  have : (⟨g, 0, none⟩ : Addr).add j = ⟨g, j, none⟩ := by unfold Addr.add; split <;> simp_all
  rw [this]; exact h j u hu
theorem others_walks {W W' : World} (h : KeepsOthers W W') : KeepsWalks W W' :=
  ⟨h.size, fun k o hk ho => h.same k o hk (by cases o <;> first | rfl | cases ho)⟩
theorem below_put {w W : World} {D : Nat} {o o' : Obj} (hD : w.heap.size ≤ D) (hK : W.heap[D]? = some o) : Below w.heap.size W (W.putObj D o') :=
  (Below.refl _ W).grown (grownBy_putObj' W D o') (by have := (Array.getElem?_eq_some_iff.1 hK).1; omega) (fun k e => by cases e; exact hD)

set_option maxRecDepth 100000 in
set_option maxHeartbeats 2000000 in
theorem appendSeq_q (F : Fence) (n : Nat) (hf : F.fn 180) (hro : F.round = none) (hn : 2 ≤ n) (g : Nat) (lb : Array Value) (hFg : F.fn g) (eg : ∀ args w, (callFunc g args).run Tryz.prog w = .ok (.enter g args) w)
    (S Sp : List PId → Prop) (N : Nat) (hN : N ≤ 10000) (w : World) (hseq : SeqStopsK F (n - 1) Tryz.prog g lb (fun x => #[idV x]) KeepsWalks S Sp N w) :
    CallsIn F n Tryz.prog 180 #[.slice none 0 0, .func (.func g) #[] lb] w fun e w' => ∃ v ss, e = .returned v ∧ S ss ∧ ownIds w.heap.size w' v ss ∧ Below w.heap.size w w' := by
  have h1 : 1 ≤ n := by omega
  obtain ⟨i0, hi, hz0, hz1, hz2⟩ := info_parts (P := Tryz.prog) (e := 36) (z := .agg #[.int .i64 0, .int .i64 0]) (size := 2) (bytes := 16) (by kernel_rfl)
  refine callsIn_of_wp_marks Tryz.func180 rfl hf ?_ hro
  simp only [Tryz.ntmps180, List.size_toArray, List.length_cons, List.length_nil, Nat.reduceAdd, Nat.reduceSub, Array.replicate_succ, Array.replicate_zero, List.push_toArray, List.append_toArray, List.nil_append, List.cons_append]
  gi_wp2
  obtain ⟨W0, hW0⟩ : ∃ W0, w.alloc (.cells #[.slice none 0 0] 65) = W0 := ⟨_, rfl⟩
  have hB0 : Below w.heap.size w W0 := by rw [← hW0]; exact (Below.refl _ w).alloc (Nat.le_refl _) _
  have hv0 : Boxed W0 w.heap.size 65 (.slice none 0 0) := by rw [← hW0]; exact Boxed.new w _ _
  have hs0 : W0.heap.size = w.heap.size + 1 := by rw [← hW0]; simp
  rw [hW0]
  refine wpIn_rangeFunc_ownH hro h1 (gf := g) (lb := lb) rfl hFg eg hseq (fun h k => h.trans k) ?hKb hB0 (fun _ => rfl)
    (fun pre W => (∃ v, Boxed W w.heap.size 65 v ∧ W.ownsRow w.heap.size 36 2 v pre.length (pre.flatMap idC) ∧ True) ∧ Below w.heap.size w W) (fun _ _ _ => False)
    (OwnFrom.and (Own.from (holdsRow_own w.heap.size w.heap.size 65 36 2 (fun pre : List PId => pre.length) (fun pre => pre.flatMap idC) (fun _ _ => True)) _) (ownFrom_below (Nat.le_refl _) (by omega)))
    (fun _ _ _ _ _ h _ _ => h) ⟨⟨_, hv0, World.ownsRow_nil _ _ _ _, trivial⟩, hB0⟩
    (fun x a' W => ∃ Bx, w.heap.size < Bx ∧ W.heap[Bx]? = some (.cells #[.int .i64 x.1, .int .i64 x.2] 36 (0, 0)) ∧ a' = { tmps := #[.slice none 0 0, .func (.func g) #[] lb, .pointer (some ⟨w.heap.size, 0, none⟩), undef, .slice none 0 0, .pointer (some ⟨Bx, 0, none⟩), .func (.func g) #[] lb, idV x, undef, undef, undef, undef, undef], defers := [] })
    ?hAx ?hassign ?hbody ?hdone ?hstop
  case hKb => exact fun W l o o' _ hl _ hw => KeepsWalks.putObj o' hl hw
  case hAx =>
    intro x a' s W W' row h hg hr
    obtain ⟨Bx, h1, h2, h3⟩ := h
    refine ⟨Bx, h1, ?_, h3⟩
    rw [hg.block Bx (Array.getElem?_eq_some_iff.1 h2).1 (fun e => by
      obtain ⟨_, o, ho, hc⟩ := hr Bx e.symm
      rw [h2] at ho
      cases ho
      cases hc)]
    exact h2
  case hassign =>
    rintro l pre x W K ⟨⟨v, hv, hrow, _⟩, hB⟩ hK
    have hz := hB.size
    have hvl := hv.lt
    unfold idV
    gi_wp2
    exact hK _ _ ((KeepsOthers.alloc _ _).from _) (KeepsWalks.alloc _ _) ⟨⟨v, hv.alloc _, hrow.alloc _, trivial⟩, hB.alloc hz _⟩ ⟨W.heap.size, hvl, World.alloc_heap_new W _, rfl⟩
  case hbody =>
    rintro l pre x a' W hl ⟨r, hr⟩ ⟨⟨v, hv, hrow, _⟩, hB⟩ ⟨Bx, hBx, hbx, rfl⟩ hlt
    have hc := hv.cell
    have hz := hB.size
    have b0 : W.cell? ⟨Bx, 0, none⟩ = some (.int .i64 x.1) := by simp [World.cell?, hbx]
    have b1 : W.cell? ⟨Bx, 1, none⟩ = some (.int .i64 x.2) := by simp [World.cell?, hbx]
    gi_wp2_with (gi_at_builtin; refine wpListIn_append_own _ rfl _ _ 65 rfl w.heap.size 36 i0 (.agg #[.int .i64 0, .int .i64 0]) 2 16 Tryz.underlying65 hi hz0 hz1 hz2 rfl (by decide) _ _ _ rfl (hrow.alloc _) ⟨W.heap.size, 0, none⟩ 1 1 (idC x) rfl rfl ?hc1 ?hc2 (by unfold maxLen; omega) (by omega) (by simp; omega) ?_; (case hc1 => exact add_cells (cells_ids (by simp [go_sem]) (by simp [go_sem]))); (case hc2 => exact wf_ids); intro v' w1 hown' hgrow _; obtain ⟨g', cap', rfl⟩ := ownsRow_succ hown'; obtain ⟨hv1, hv2, hr2, hk2, hb2⟩ := hv.appended (by decide) hrow hz (Nat.le_refl _) hown' hgrow; have hc1 := hv1.cell; have hf1 := hv1.frozen)
    exact ⟨hk2.from _, others_walks hk2, ⟨⟨_, hv2, by rw [List.length_append, List.flatMap_append]; simpa using hr2, trivial⟩, hB.trans hb2⟩⟩
  case hdone =>
    rintro D xs W hD hS ⟨⟨v, hv, hrow, _⟩, hB⟩ hK
    have hc := hv.cell
    gi_wp2
    refine ⟨by simp, .inl ⟨_, _, rfl, run_takeDeferred hK, ?_⟩⟩
    exact ⟨_, results_tmp rfl _ _ _, v, xs, rfl, hS, ownsRow_putObj hrow _ hK rfl, hB.trans (below_put (by omega) hK)⟩
  case hstop =>
    intro D c pre W _ _ h _
    exact h.elim

end Go.Proofs.YtnkpogjiiohapaaGreatDoor

/-! PSeqC: slices.SortFunc on at most one Id; slices.Collect, slices.SortedFunc, givers where a place has at most one value. -/
namespace Go.Proofs.YtnkpogjiiohapaaGreatDoor
open Go.RowKit

set_option maxRecDepth 1000000 in
set_option maxHeartbeats 400000 in
theorem bitsLen1 (k : Nat) (hk : k ≤ 1) (w : World) : Calls Tryz.prog 182 #[.int .u64 k] w fun e w' => (∃ m, e = .returned (.int .i64 m)) ∧ w' = w := by
  have : k = 0 ∨ k = 1 := by omega
  rcases this with rfl | rfl
  all_goals go_enter Tryz.func182, Tryz.ntmps182
  all_goals go_wp2
  all_goals go_ret
  all_goals exact ⟨⟨_, rfl⟩, rfl⟩

set_option maxRecDepth 1000000 in
set_option maxHeartbeats 400000 in
theorem insertion1 (a : Option Addr) (k c : Nat) (f : Value) (hk : k ≤ 1) (w : World) : Calls Tryz.prog 196 #[.slice a k c, .int .i64 0, .int .i64 k, f] w fun e w' => e = .returned (.tuple #[]) ∧ Below w.heap.size w w' := by
  have : k = 0 ∨ k = 1 := by omega
  clear hk
  rcases this with rfl | rfl
  all_goals go_enter Tryz.func196, Tryz.ntmps196
  all_goals go_wp2
  all_goals refine wp_loop_rounds 1 ?_
  all_goals rw [rounds_succ]
  all_goals go_wp2
  all_goals go_end0
  all_goals exact ⟨rfl, Below.refl _ _⟩

set_option maxRecDepth 1000000 in
set_option maxHeartbeats 400000 in
theorem pdq1 (a : Option Addr) (k c : Nat) (lim : Int) (f : Value) (hk : k ≤ 1) (w : World) : Calls Tryz.prog 181 #[.slice a k c, .int .i64 0, .int .i64 k, .int .i64 lim, f] w fun e w' => e = .returned (.tuple #[]) ∧ Below w.heap.size w w' := by
  have HI := hid (insertion1 a k c f hk w)
  have : k = 0 ∨ k = 1 := by omega
  clear hk
  rcases this with rfl | rfl
  all_goals go_enter Tryz.func181, Tryz.ntmps181
  all_goals go_wp2_with fail
  all_goals refine wp_loop_rounds 1 ?_
  all_goals rw [rounds_succ]
  all_goals go_wp2_with fail
  all_goals refine HI.out.mono ?_
  all_goals rintro e w1 ⟨rfl, hb⟩
  all_goals go_wp2
  all_goals exact bodyPost_ret (v := .tuple #[]) (by simp [results, Tryz.results181, go_sem]) rfl ⟨rfl, hb⟩

set_option maxRecDepth 1000000 in
set_option maxHeartbeats 400000 in
theorem sortFunc1 (a : Option Addr) (k c : Nat) (f : Value) (hk : k ≤ 1) (w : World) : Calls Tryz.prog 163 #[.slice a k c, f] w fun e w' => e = .returned (.tuple #[]) ∧ Below w.heap.size w w' := by
  have HL := hid (bitsLen1 k hk w)
  have HP := hid (fun lim => pdq1 a k c lim f hk w)
  have : k = 0 ∨ k = 1 := by omega
  clear hk
  rcases this with rfl | rfl
  all_goals go_enter Tryz.func163, Tryz.ntmps163
  all_goals go_wp2_with fail
  all_goals refine HL.out.mono ?_
  all_goals rintro e w1 ⟨⟨lim, rfl⟩, rfl⟩
  all_goals go_wp2_with fail
  all_goals refine (HP.out lim).mono ?_
  all_goals rintro e w2 ⟨rfl, hb⟩
  all_goals go_wp2
  all_goals go_end0
  all_goals exact ⟨rfl, hb⟩

end Go.Proofs.YtnkpogjiiohapaaGreatDoor

/-! RefZ: The reference's add: one operation more of a copy. What it leaves of the room; its walk up to the append. -/
namespace Go.Proofs.YtnkpogjiiohapaaGreatDoor
open Go.RowKit

/-- The rows of the room that are written lie apart. -/
structure Apart (N : Nat) (vops : Nat → Value) (cp : Nat → Nat → Value) : Prop where
  ops : ∀ i j, i < N → j < N → i ≠ j → (vops i).ownBlock = none ∨ (vops i).ownBlock ≠ (vops j).ownBlock
  has : ∀ c c', c < N → c' < N → c ≠ c' → (cp c 0).ownBlock ≠ (cp c' 0).ownBlock

def upd {α : Type} (f : Nat → α) (c : Nat) (x : α) : Nat → α := fun i => if i = c then x else f i
theorem upd_same {α : Type} (f : Nat → α) (c : Nat) (x : α) : upd f c x c = x := by simp [upd]
theorem upd_ne {α : Type} (f : Nat → α) {c i : Nat} (x : α) (h : i ≠ c) : upd f c x i = f i := by simp [upd, h]
end Go.Proofs.YtnkpogjiiohapaaGreatDoor

/-! RefAdd: The contract of the reference's add. -/
namespace Go.Proofs.YtnkpogjiiohapaaGreatDoor
open Go.RowKit

theorem row_other {w : World} {base : Nat} {e : TypeId} {size : Nat} {v : Value} {n : Nat} {xs : List Value} (h : w.ownsRow base e size v n xs) {g o : Nat} (hg : v.ownBlock ≠ some g) (u : Value) : (w.setCell ⟨g, o, none⟩ u).ownsRow base e size v n xs := by
  refine ⟨h.1, ?_⟩
  rcases h.2 with hn | ⟨g', cap, cur, rfl, hb, hgg, rest⟩
  · exact .inl hn
  · exact .inr ⟨g', cap, cur, rfl, hb, by rw [Below.heap_setCell _ _ _ _ (by intro e; exact hg (congrArg some e))]; exact hgg, rest⟩
section
end

section
end

end Go.Proofs.YtnkpogjiiohapaaGreatDoor

/-! RefWrote: What several written operations leave of the room; the greatest counter by the sorted list. -/
namespace Go.Proofs.YtnkpogjiiohapaaGreatDoor
open Go.RowKit

/-- The greatest counter of some operations. -/
def topP (S : List POp) : Int := S.foldl (fun m p => if m < p.id.1 then p.id.1 else m) 0
theorem topP_spec (S : List POp) : 0 ≤ topP S ∧ (∀ p ∈ S, p.id.1 ≤ topP S) ∧ (topP S = 0 ∨ ∃ p ∈ S, p.id.1 = topP S) := by
  have key : ∀ (S : List POp) (m : Int), m ≤ S.foldl (fun m p => if m < p.id.1 then p.id.1 else m) m ∧ (∀ p ∈ S, p.id.1 ≤ S.foldl (fun m p => if m < p.id.1 then p.id.1 else m) m) ∧
      (S.foldl (fun m p => if m < p.id.1 then p.id.1 else m) m = m ∨ ∃ p ∈ S, p.id.1 = S.foldl (fun m p => if m < p.id.1 then p.id.1 else m) m) := by
    intro S
    induction S with
    | nil => intro m; simp
    | cons x S ih =>
      intro m
      obtain ⟨h1, h2, h3⟩ := ih (if m < x.id.1 then x.id.1 else m)
      rw [List.foldl_cons]
      refine ⟨Int.le_trans ?_ h1, fun p hp => ?_, ?_⟩
      · split <;> omega
      · rcases List.mem_cons.1 hp with rfl | hp
        · refine Int.le_trans ?_ h1
          split <;> omega
        · exact h2 p hp
      · rcases h3 with h3 | ⟨p, hp, h3⟩
        · rw [h3]
          split
          · exact .inr ⟨x, List.mem_cons_self, rfl⟩
          · exact .inl rfl
        · exact .inr ⟨p, List.mem_cons_of_mem _ hp, h3⟩
  exact key S 0
section
end

section
end

/-- A block of two cells. -/
theorem blk2 {w : World} {g : Nat} {a b : Value} {t : TypeId} {f : Nat × Nat} (h : w.heap[g]? = some (.cells #[a, b] t f)) : w.cell? ⟨g, 0, none⟩ = some a ∧ w.cell? ⟨g, 1, none⟩ = some b := by
  simp [World.cell?, h]
theorem blk_fz {w : World} {g : Nat} {cs : Array Value} {t : TypeId} (h : w.heap[g]? = some (.cells cs t (0, 0))) (j : Nat) : w.frozen? ⟨g, j, none⟩ = false := by
  simp [World.frozen?, h]
theorem blk_lt {w : World} {g : Nat} {o : Obj} (h : w.heap[g]? = some o) : g < w.heap.size := (Array.getElem?_eq_some_iff.1 h).1
theorem blk_alloc {w : World} {g : Nat} {o o' : Obj} (h : w.heap[g]? = some o) : (w.alloc o').heap[g]? = some o := by
  show (w.heap.push o')[g]? = some o
  rw [← h, Array.getElem?_push, if_neg (Nat.ne_of_lt (blk_lt h))]
theorem blk_new (w : World) (o : Obj) : (w.alloc o).heap[w.heap.size]? = some o := by
  show (w.heap.push o)[w.heap.size]? = some o
  rw [Array.getElem?_push, if_pos rfl]
theorem blk_keep {w w' : World} {g : Nat} {o : Obj} (h : w.heap[g]? = some o) (hb : Below w.heap.size w w') : w'.heap[g]? = some o := by
  rw [hb.block g (blk_lt h)]; exact h
end Go.Proofs.YtnkpogjiiohapaaGreatDoor

/-! PDocB: The contracts of hasPlace and at. -/
namespace Go.Proofs.YtnkpogjiiohapaaGreatDoor
open Go.RowKit

def hasPl (os : List (PId × CQObj)) (els : List (PId × CQEl)) (o : PId) (key : ByteArray) (x : PId) : Bool :=
  if key = ⟨#[]⟩ then (match lookI x els with | some e => decide (e.list = o) | none => false) else (lookI o os).isSome && !qlist o os

theorem nil_toList : (⟨#[]⟩ : ByteArray).toList = [] := by
  unfold ByteArray.toList
  unfold ByteArray.toList.loop
  simp [ByteArray.size]
theorem key_ne {key : ByteArray} (h : key ≠ ⟨#[]⟩) : key.toList.isEmpty = false := by
  cases hk : key.toList with
  | cons a l => rfl
  | nil =>
    exfalso
    apply h
    rw [← Go.MapKept.bytes_beq, beq_toListBytes, hk, nil_toList]
    rfl

set_option maxRecDepth 1000000 in
set_option maxHeartbeats 800000 in
theorem hasPlace_q {w : World} {d bo be : Nat} {os : List (PId × CQObj)} {els : List (PId × CQEl)} (h : isQ w d bo be os els) (o1 o2 e1 e2 : Int) (key : ByteArray) :
    Calls Tryz.prog 136 #[.pointer (some ⟨d, 0, none⟩), .agg #[.int .i64 o1, .int .i64 o2, .string key, .int .i64 e1, .int .i64 e2]] w fun e w' => e = .returned (.bool (hasPl os els (o1, o2) key (e1, e2))) ∧ Below w.heap.size w w' := by
  have c1 := h.c1
  have hd := h.lt
  have HB0 := hid ((Below.refl w.heap.size w).alloc (Nat.le_refl _) (.cells #[.int .i64 o1, .int .i64 o2, .string key, .int .i64 e1, .int .i64 e2] 97))
  by_cases hk : key = ⟨#[]⟩
  · subst hk
    have hb1 := HB0.out.drew
    have hb2 := (HB0.out.alloc (by simp) (.cells #[.int .i64 0, .int .i64 0, .int .i64 0, .int .i64 0, .map none] 176)).drew
    have l1 := (h.keep hb1).lookE e1 e2 true
    have l2 := (h.keep hb2).lookE e1 e2 true
    clear h hb1 hb2
    unfold hasPl
    rw [if_pos rfl]
    generalize lookI (e1, e2) els = L at *
    cases L with
    | none =>
      simp only [Option.map_none, Option.getD_none, Option.isSome_none, if_true] at l1 l2
      go_enter Tryz.func136, Tryz.ntmps136
      go_wp2
      go_region
      all_goals go_wp2
      all_goals go_ret
      all_goals exact ⟨rfl, by go_grown⟩
    | some o =>
      obtain ⟨⟨q1, q2⟩, on, ov, ovs⟩ := o
      simp only [Option.map_some, Option.getD_some, Option.isSome_some, if_true, qelV] at l1 l2
      have heq := run_idEq
      go_enter Tryz.func136, Tryz.ntmps136
      go_wp2
      go_region
      all_goals go_wp2
      all_goals go_ret
      all_goals exact ⟨ret_bool (by rw [← idEq_eq (q1, q2) (o1, o2)]), by go_grown⟩
  · have hkn := key_ne hk
    have HO := hid (fun W hb => has_q (isQ.keep h (w' := W) hb) o1 o2)
    have HL := hid (fun W hb => isList_q (isQ.keep h (w' := W) hb) o1 o2)
    clear h c1
    unfold hasPl
    rw [if_neg hk]
    generalize (lookI (o1, o2) os).isSome = B at *
    generalize qlist (o1, o2) os = G at *
    go_enter Tryz.func136, Tryz.ntmps136
    go_wp2_with fail
    refine (HO.out _ HB0.out).mono ?_
    rintro e w1 ⟨rfl, hb1⟩
    have p0 := keep (a := ⟨w.heap.size, 0, none⟩) (v := .int .i64 o1) hb1 (by simp [go_sem])
    have p1 := keep (a := ⟨w.heap.size, 1, none⟩) (v := .int .i64 o2) hb1 (by simp [go_sem])
    have HB1 := hid (HB0.out.trans (hb1.mono HB0.out.size)); clear hb1
    cases B
    · go_wp2
      go_ret
      exact ⟨rfl, HB1.out⟩
    · go_wp2_with fail
      refine (HL.out _ HB1.out).mono ?_
      rintro e w2 ⟨rfl, hb2⟩
      have HB2 := hid (HB1.out.trans (hb2.mono HB1.out.size)); clear hb2
      go_wp2
      go_ret
      exact ⟨ret_bool (by cases G <;> rfl), HB2.out⟩

end Go.Proofs.YtnkpogjiiohapaaGreatDoor
