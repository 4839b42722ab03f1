/- Our own text (PDocC, PSeqD, RefNew, PDocD, PDocE). -/
import Derived.Deep.DeepCutAuto
import Derived.Test.YtnkpogjiiohapaaGreatDoorA03
set_option linter.unusedSimpArgs false
set_option linter.unusedVariables false

/-! PDocC: The contract of at: the values of a place. -/
namespace Go.Proofs.YtnkpogjiiohapaaGreatDoor
open Go.RowKit

def atPl (os : List (PId × CQObj)) (els : List (PId × CQEl)) (o : PId) (key : ByteArray) (x : PId) : CKey :=
  if hasPl os els o key x then
    (if key = ⟨#[]⟩ then (match lookI x els with | some e => ⟨e.v, e.vs⟩ | none => ⟨none, []⟩)
     else (match lookI o os with | some ob => (match lookI key ob.ks with | some c => c | none => ⟨none, []⟩) | none => ⟨none, []⟩))
  else ⟨none, []⟩

theorem look_mem {κ ν : Type} [DecidableEq κ] {x : κ} {m : List (κ × ν)} {v : ν} (h : lookI x m = some v) : (x, v) ∈ m := by
  unfold lookI at h
  cases hf : m.find? (fun p => decide (x = p.1)) with
  | none => rw [hf] at h; cases h
  | some p =>
    rw [hf] at h
    simp at h
    have h1 := List.find?_some hf
    simp at h1
    have h2 := List.mem_of_find?_eq_some hf
    rw [← h, h1]; exact h2
theorem isQ.at {w : World} {d bo be : Nat} {os : List (PId × CQObj)} {els : List (PId × CQEl)} (h : isQ w d bo be os els) (o : PId) (key : ByteArray) (x : PId) : isVals w (atPl os els o key x).v (atPl os els o key x).vs := by
  unfold atPl
  split
  · split
    · split
      · rename_i e he; exact h.hv _ (look_mem he)
      · exact .inl ⟨rfl, rfl⟩
    · split
      · split
        · rename_i _ ob hob _ c hc; exact (h.hk _ (look_mem hob)).2 _ (look_mem hc)
        · exact .inl ⟨rfl, rfl⟩
      · exact .inl ⟨rfl, rfl⟩
  · exact .inl ⟨rfl, rfl⟩

theorem run_lookNil {κ : Type} [DecidableEq κ] {kt : TypeId} {encK : κ → Value} (K : KeyOf κ kt encK) {t e : TypeId} (ht : Tryz.prog.underlying t = some (.map kt e)) {w : World} {z : Value} (hz : (zeroValue e).run Tryz.prog w = .ok z w) (x : κ) (ok : Bool) :
    (Instr.lookup t (.map none) (encK x) ok).run Tryz.prog w = .ok (if ok then .tuple #[z, .bool false] else z) w := by
  have h2 := K.check true x w
  have h3 := K.find (fun v : Value => v) x w [] [] rfl
  unfold Instr.lookup
  rw [Sem.run_bind, run_underlying ht, Result.andThen_ok]
  simp only [Sem.run_bind, Result.andThen_ok, Sem.run_pure]
  rw [show (#[] : Array MapEntry).isEmpty = true from rfl, h2]
  simp only [Result.andThen_ok]
  rw [h3]
  cases ok <;> simp [hitI, hz, Sem.run_bind]
theorem zero_vals (W : World) : (zeroValue 159).run Tryz.prog W = .ok (.map none) W := by kernel_rfl

/-- Looking up a key of an object. -/
theorem isKeys.look {w : World} {v : Option Nat} {ks : List (ByteArray × CKey)} (h : isKeys w v ks) (key : ByteArray) :
    (Instr.lookup 168 (.map v) (.string key) false).run Tryz.prog w = .ok (.map (match lookI key ks with | some c => c.v | none => none)) w := by
  rcases h.1 with ⟨rfl, rfl⟩ | ⟨b, es, clk, rfl, hm⟩
  · exact run_lookNil strKey Tryz.underlying168 (zero_vals w) key false
  · have := run_lookI strKey hm Tryz.underlying168 (zero_vals w) key false
    rw [show (Value.string key) = strV key from rfl, this]
    cases lookI key ks <;> rfl

theorem field_el (a b c d : Value) (r : Option Nat) (W : World) : (Instr.field 176 (.agg #[a, b, c, d, .map r]) 2).run Tryz.prog W = .ok (.map r) W := by kernel_rfl
theorem field_ob (a c d : Value) (r : Option Nat) (W : World) : (Instr.field 170 (.agg #[a, .map r, c, d]) 1).run Tryz.prog W = .ok (.map r) W := by kernel_rfl

set_option maxRecDepth 1000000 in
set_option maxHeartbeats 800000 in
theorem at_q {w : World} {d bo be : Nat} {os : List (PId × CQObj)} {els : List (PId × CQEl)} (h : isQ w d bo be os els) (o1 o2 e1 e2 : Int) (key : ByteArray) :
    Calls Tryz.prog 86 #[.pointer (some ⟨d, 0, none⟩), .agg #[.int .i64 o1, .int .i64 o2, .string key, .int .i64 e1, .int .i64 e2]] w fun e w' => e = .returned (.map (atPl os els (o1, o2) key (e1, e2)).v) ∧ Below w.heap.size w w' := by
  have HB0 := hid ((Below.refl w.heap.size w).alloc (Nat.le_refl _) (.cells #[.int .i64 o1, .int .i64 o2, .string key, .int .i64 e1, .int .i64 e2] 97))
  have HP := hid (hasPlace_q (h.keep HB0.out) o1 o2 e1 e2 key)
  by_cases hk : key = ⟨#[]⟩
  · subst hk
    have HC := hid (fun W (hb : Below w.heap.size w W) => (h.keep hb).c1)
    have HLE := hid (fun W (hb : Below w.heap.size w W) => (h.keep hb).lookE e1 e2 false)
    clear h
    unfold atPl
    simp only [if_true]
    generalize hasPl os els (o1, o2) ⟨#[]⟩ (e1, e2) = B at *
    generalize lookI (e1, e2) els = L at *
    cases B
    · go_enter Tryz.func86, Tryz.ntmps86
      go_wp2_with fail
      refine HP.out.mono ?_
      rintro e w1 ⟨rfl, hb1⟩
      have HB1 := hid (HB0.out.trans (hb1.mono HB0.out.size)); clear hb1
      go_wp2
      go_ret
      exact ⟨rfl, HB1.out⟩
    · cases L with
      | none =>
        go_enter Tryz.func86, Tryz.ntmps86
        go_wp2_with fail
        refine HP.out.mono ?_
        rintro e w1 ⟨rfl, hb1⟩
        have p2 := keep (a := ⟨w.heap.size, 2, none⟩) (v := .string ⟨#[]⟩) hb1 (by simp [go_sem])
        have p3 := keep (a := ⟨w.heap.size, 3, none⟩) (v := .int .i64 e1) hb1 (by simp [go_sem])
        have p4 := keep (a := ⟨w.heap.size, 4, none⟩) (v := .int .i64 e2) hb1 (by simp [go_sem])
        have HB1 := hid (HB0.out.trans (hb1.mono HB0.out.size)); clear hb1
        have c1 := HC.out _ HB1.out
        have l1 := HLE.out _ HB1.out.drew
        simp only [Option.map_none, Option.getD_none, Bool.false_eq_true, if_false] at l1
        have fe := field_el
        have fo := field_ob
        go_wp2
        go_region
        go_wp2
        go_ret
        exact ⟨rfl, HB1.out.drew⟩
      | some el =>
        obtain ⟨q, on, ov, ovs⟩ := el
        go_enter Tryz.func86, Tryz.ntmps86
        go_wp2_with fail
        refine HP.out.mono ?_
        rintro e w1 ⟨rfl, hb1⟩
        have p2 := keep (a := ⟨w.heap.size, 2, none⟩) (v := .string ⟨#[]⟩) hb1 (by simp [go_sem])
        have p3 := keep (a := ⟨w.heap.size, 3, none⟩) (v := .int .i64 e1) hb1 (by simp [go_sem])
        have p4 := keep (a := ⟨w.heap.size, 4, none⟩) (v := .int .i64 e2) hb1 (by simp [go_sem])
        have HB1 := hid (HB0.out.trans (hb1.mono HB0.out.size)); clear hb1
        have c1 := HC.out _ HB1.out
        have l1 := HLE.out _ HB1.out.drew
        simp only [Option.map_some, Option.getD_some, Bool.false_eq_true, if_false, qelV] at l1
        have fe := field_el
        have fo := field_ob
        go_wp2
        go_region
        go_wp2
        go_ret
        exact ⟨rfl, HB1.out.drew⟩
  · have hkn := key_ne hk
    have HC := hid (fun W (hb : Below w.heap.size w W) => (h.keep hb).c0)
    have HLO := hid (fun W (hb : Below w.heap.size w W) => (h.keep hb).lookO o1 o2 false)
    unfold atPl
    simp only [hk, if_false]
    have HKS := hid (fun ob (hob : lookI (o1, o2) os = some ob) W (hb : Below w.heap.size w W) => ((h.hk _ (look_mem hob)).keep hb).look key)
    clear h
    generalize hasPl os els (o1, o2) key (e1, e2) = B at *
    generalize lookI (o1, o2) os = L at *
    cases B
    · go_enter Tryz.func86, Tryz.ntmps86
      go_wp2_with fail
      refine HP.out.mono ?_
      rintro e w1 ⟨rfl, hb1⟩
      have HB1 := hid (HB0.out.trans (hb1.mono HB0.out.size)); clear hb1
      go_wp2
      go_ret
      exact ⟨rfl, HB1.out⟩
    · cases L with
      | none =>
        have HKN := hid (fun W => run_lookNil strKey Tryz.underlying168 (zero_vals W) key false)
        go_enter Tryz.func86, Tryz.ntmps86
        go_wp2_with fail
        refine HP.out.mono ?_
        rintro e w1 ⟨rfl, hb1⟩
        have p0 := keep (a := ⟨w.heap.size, 0, none⟩) (v := .int .i64 o1) hb1 (by simp [go_sem])
        have p1 := keep (a := ⟨w.heap.size, 1, none⟩) (v := .int .i64 o2) hb1 (by simp [go_sem])
        have p2 := keep (a := ⟨w.heap.size, 2, none⟩) (v := .string key) hb1 (by simp [go_sem])
        have HB1 := hid (HB0.out.trans (hb1.mono HB0.out.size)); clear hb1
        have c1 := HC.out _ HB1.out
        have l1 := HLO.out _ HB1.out.drew
        have l2 := HKN.out w1.drew
        simp only [Option.map_none, Option.getD_none, Bool.false_eq_true, if_false, strV] at l1 l2
        have fe := field_el
        have fo := field_ob
        go_wp2
        go_region
        go_wp2
        go_ret
        exact ⟨rfl, HB1.out.drew⟩
      | some ob =>
        obtain ⟨ol, okv, oks, ofr⟩ := ob
        have HKY := hid (HKS.out _ rfl); clear HKS
        simp only at HKY
        have e2 : (match lookI key oks with | some c => c | none => ⟨none, []⟩ : CKey).v = (match lookI key oks with | some c => c.v | none => none) := by cases lookI key oks <;> rfl
        simp only [if_true]
        rw [e2]
        clear e2
        generalize (match lookI key oks with | some c => c.v | none => none : Option Nat) = R at *
        go_enter Tryz.func86, Tryz.ntmps86
        go_wp2_with fail
        refine HP.out.mono ?_
        rintro e w1 ⟨rfl, hb1⟩
        have p0 := keep (a := ⟨w.heap.size, 0, none⟩) (v := .int .i64 o1) hb1 (by simp [go_sem])
        have p1 := keep (a := ⟨w.heap.size, 1, none⟩) (v := .int .i64 o2) hb1 (by simp [go_sem])
        have p2 := keep (a := ⟨w.heap.size, 2, none⟩) (v := .string key) hb1 (by simp [go_sem])
        have HB1 := hid (HB0.out.trans (hb1.mono HB0.out.size)); clear hb1
        have c1 := HC.out _ HB1.out
        have l1 := HLO.out _ HB1.out.drew
        have l2 := HKY.out _ HB1.out.drew
        simp only [Option.map_some, Option.getD_some, Bool.false_eq_true, if_false, qobjV] at l1
        have fe := field_el
        have fo := field_ob
        go_wp2
        go_region
        go_wp2
        go_ret
        exact ⟨rfl, HB1.out.drew⟩

end Go.Proofs.YtnkpogjiiohapaaGreatDoor

/-! PSeqD: slices.Collect, slices.SortedFunc, givers, where a place has at most one value. -/
namespace Go.Proofs.YtnkpogjiiohapaaGreatDoor
open Go.RowKit
attribute [local go_sem] Oper.semAt_some

theorem enters_keys (args : Array Value) (w : World) : (callFunc 164 args).run Tryz.prog w = .ok (.enter 164 args) w :=
  enters_of Tryz.func164 (by kernel_rfl) rfl args w

set_option maxRecDepth 100000 in
set_option maxHeartbeats 1000000 in
theorem collect_q (Bm : Nat) (v : Option Nat) (vs : List (PId × PVal)) (w : World) (hm : w.cell? ⟨Bm, 0, none⟩ = some (.map v)) (hv : isVals w v vs) (hN : vs.length ≤ 10000) :
    Calls Tryz.prog 162 #[.func (.func 164) #[] #[.pointer (some ⟨Bm, 0, none⟩)]] w fun e w' => ∃ u ss, e = .returned u ∧ ss.Perm (vs.map (·.1)) ∧ ownIds w.heap.size w' u ss ∧ Below w.heap.size w w' := by
  have HA := hid (callsIn_wide.1 (appendSeq_q Fence.wide 3 trivial rfl (by omega) 164 #[.pointer (some ⟨Bm, 0, none⟩)] trivial enters_keys (fun ss => ss.Perm (vs.map (·.1))) (fun _ => True) vs.length hN w (keys_stops Fence.wide 2 trivial rfl (by omega) Bm v vs w hm hv)))
  clear hm hv
  go_enter Tryz.func162, Tryz.ntmps162
  go_wp2_with fail
  refine HA.out.mono ?_
  rintro e w1 ⟨u, ss, rfl, hS, hu, hb⟩
  have HX := hid (And.intro hS (And.intro hu hb)); clear hS hu hb
  go_wp2
  go_ret
  exact ⟨u, ss, rfl, HX.out.1, HX.out.2.1, HX.out.2.2⟩

end Go.Proofs.YtnkpogjiiohapaaGreatDoor

/-! RefNew: The contract of the reference's New. -/
namespace Go.Proofs.YtnkpogjiiohapaaGreatDoor
open Go.RowKit

/-- A row of zeros, as 'make' lays it. -/
def zrow (N : Nat) : Array Value := madeCells (Value.int .i64 0).cells (N * 1)
theorem run_mkInts (N : Nat) (hN : N ≤ 4) (W : World) : (Instr.makeSlice 24 (.int .i64 (N : Int)) (.int .i64 (N : Int))).run Tryz.prog W = .ok (.slice (some ⟨W.heap.size, 0, none⟩) N N) (W.alloc (.cells (zrow N) 3)) := by
  obtain ⟨i, hi, h0, h1, h2⟩ := info_parts (P := Tryz.prog) (e := 3) (z := .int .i64 0) (size := 1) (bytes := 8) (by kernel_rfl)
  have := run_make (P := Tryz.prog) W 24 3 i (.int .i64 0) Tryz.underlying24 hi h0 .i64 .i64 N N (by omega) (Int.le_refl _) (by rw [h2]; omega) (by omega)
  rw [h1] at this
  simpa [zrow] using this
/-- Rows of one cell an element. -/
def one (v : Value) : List Value := [v]
/-- A zeroed row. -/
def zeros (B : Nat) (w : World) (v : Value) (N : Nat) : Prop := w.ownsRow B 3 1 v N ((List.range N).map fun _ => Value.int .i64 0)
theorem blkc4 {w : World} {g : Nat} {a b c d : Value} {t : TypeId} {f : Nat × Nat} (h : w.heap[g]? = some (.cells #[a, b, c, d] t f)) : w.cell? ⟨g, 3, none⟩ = some d := by
  simp [World.cell?, h]

theorem blkq0 {w : World} {g : Nat} {a b c d : Value} {t : TypeId} {f : Nat × Nat} (h : w.heap[g]? = some (.cells #[a, b, c, d] t f)) : w.cell? ⟨g, 0, none⟩ = some a := by
  simp [World.cell?, h]
theorem blkq1 {w : World} {g : Nat} {a b c d : Value} {t : TypeId} {f : Nat × Nat} (h : w.heap[g]? = some (.cells #[a, b, c, d] t f)) : w.cell? ⟨g, 1, none⟩ = some b := by
  simp [World.cell?, h]
theorem blkq2 {w : World} {g : Nat} {a b c d : Value} {t : TypeId} {f : Nat × Nat} (h : w.heap[g]? = some (.cells #[a, b, c, d] t f)) : w.cell? ⟨g, 2, none⟩ = some c := by
  simp [World.cell?, h]

theorem set3 {w : World} {g : Nat} {a b c d u : Value} {t : TypeId} (h : w.heap[g]? = some (.cells #[a, b, c, d] t (0, 0))) : (w.setCell ⟨g, 3, none⟩ u).heap[g]? = some (.cells #[a, b, c, u] t (0, 0)) := by
  have hl := blk_lt h
  obtain ⟨_, he⟩ := Array.getElem?_eq_some_iff.1 h
  simp [World.setCell, hl, Array.getElem_modify_self, he]
theorem set2 {w : World} {g : Nat} {a b c d u : Value} {t : TypeId} (h : w.heap[g]? = some (.cells #[a, b, c, d] t (0, 0))) : (w.setCell ⟨g, 2, none⟩ u).heap[g]? = some (.cells #[a, b, u, d] t (0, 0)) := by
  have hl := blk_lt h
  obtain ⟨_, he⟩ := Array.getElem?_eq_some_iff.1 h
  simp [World.setCell, hl, Array.getElem_modify_self, he]
structure C4 where
  a : Value
  b : Value
  c : Value
  d : Value
def c4 (x : C4) : List Value := [x.a, x.b, x.c, x.d]
theorem row_blk {w w' : World} {base : Nat} {e : TypeId} {size : Nat} {v : Value} {n : Nat} {xs : List Value} (h : w.ownsRow base e size v n xs) (hg : ∀ g, v.ownBlock = some g → w'.heap[g]? = w.heap[g]?) : w'.ownsRow base e size v n xs := by
  refine ⟨h.1, ?_⟩
  rcases h.2 with hn | ⟨g, cap, cur, rfl, hb, hgg, rest⟩
  · exact .inl hn
  · exact .inr ⟨g, cap, cur, rfl, hb, by rw [hg g rfl]; exact hgg, rest⟩

section
end

end Go.Proofs.YtnkpogjiiohapaaGreatDoor

/-! PDocD: Givers and Values, where a place has at most one value. -/
namespace Go.Proofs.YtnkpogjiiohapaaGreatDoor
open Go.RowKit

theorem zero_val (W : World) : (zeroValue 57).run Tryz.prog W = .ok (.agg #[.int .i64 0, .int .i64 0, .int .i64 0]) W := by kernel_rfl
theorem isVals.look {w : World} {v : Option Nat} {vs : List (PId × PVal)} (h : isVals w v vs) (x1 x2 : Int) : (Instr.lookup 159 (.map v) (.agg #[.int .i64 x1, .int .i64 x2]) false).run Tryz.prog w = .ok (valV ((lookI (x1, x2) vs).getD (0, (0, 0)))) w := by
  rcases h with ⟨rfl, rfl⟩ | ⟨b, es, clk, rfl, hm⟩
  · exact run_lookNil idKey Tryz.underlying159 (zero_val w) (x1, x2) false
  · have := run_lookI idKey hm Tryz.underlying159 (zero_val w) (x1, x2) false
    rw [show (Value.agg #[.int .i64 x1, .int .i64 x2]) = idV (x1, x2) from rfl, this]
    cases lookI (x1, x2) vs <;> rfl
theorem run_lenMap {w : World} {v : Option Nat} {vs : List (PId × PVal)} (h : isVals w v vs) {ty : TypeId} : (Builtin.len_ #[159] ty #[.map v]).run Tryz.prog w = .ok (.int .i64 vs.length) w := by
  unfold Builtin.len_
  rcases h with ⟨rfl, rfl⟩ | ⟨b, es, clk, rfl, hm⟩
  · simp [run_underlying Tryz.underlying159, goInt, Sem.run_bind]
  · simp [run_underlying Tryz.underlying159, goInt, Sem.run_bind, run_getMap hm.blk, hm.len]
end Go.Proofs.YtnkpogjiiohapaaGreatDoor

/-! PDocE: Elements: the elements of a list that can be seen. -/
namespace Go.Proofs.YtnkpogjiiohapaaGreatDoor
open Go.RowKit

/-- A list's elements, one behind the other, from the first on. -/
def Chain (els : List (PId × CQEl)) : PId → List PId → Prop
  | x, [] => x = (0, 0)
  | x, y :: L => x = y ∧ y ≠ (0, 0) ∧ ∃ e, lookI y els = some e ∧ Chain els e.next L
def seenEl (els : List (PId × CQEl)) (y : PId) : Bool := match lookI y els with | some e => decide (0 < e.vs.length) | none => false

theorem Chain.unique {els : List (PId × CQEl)} : ∀ {x : PId} {R R' : List PId}, Chain els x R → Chain els x R' → R = R'
  | _, [], [], _, _ => rfl
  | _, [], y :: R', h, h' => absurd (h'.1.symm.trans h) h'.2.1
  | _, y :: R, [], h, h' => absurd (h.1.symm.trans h') h.2.1
  | x, y :: R, y' :: R', h, h' => by
    obtain ⟨h1, _, e, h2, h3⟩ := h
    obtain ⟨h1', _, e', h2', h3'⟩ := h'
    have hy : y = y' := h1.symm.trans h1'
    subst hy
    rw [h2] at h2'
    cases h2'
    rw [Chain.unique h3 h3']
/-- How many are left from an element on. -/
theorem rank_ex (els : List (PId × CQEl)) : ∃ rank : PId → Nat, ∀ x R, Chain els x R → rank x = R.length := by
  have h1 : ∀ x, ∃ n : Nat, ∀ R, Chain els x R → n = R.length := fun x => by
    by_cases h : ∃ R, Chain els x R
    · obtain ⟨R, h⟩ := h
      exact ⟨R.length, fun R' h' => by rw [Chain.unique h h']⟩
    · exact ⟨0, fun R' h' => absurd ⟨R', h'⟩ h⟩
  exact ⟨fun x => Classical.choose (h1 x), fun x => Classical.choose_spec (h1 x)⟩
/-- What a box of an Id holds. -/
def boxId (w : World) : Value → PId
  | .pointer (some a) => (intOf ((w.cell? ⟨a.block, 0, none⟩).getD undef), intOf ((w.cell? ⟨a.block, 1, none⟩).getD undef))
  | _ => (0, 0)
theorem boxId_of {w : World} {g : Nat} {x : PId} (h : w.heap[g]? = some (.cells #[.int .i64 x.1, .int .i64 x.2] 36 (0, 0))) : boxId w (.pointer (some ⟨g, 0, none⟩)) = x := by
  simp [boxId, World.cell?, h, intOf]

theorem field_first (a : Value) (m : Value) (f1 f2 : Int) (W : World) : (Instr.field 170 (.agg #[a, m, .int .i64 f1, .int .i64 f2]) 2).run Tryz.prog W = .ok (.agg #[.int .i64 f1, .int .i64 f2]) W := by kernel_rfl
theorem field_next (a b m : Value) (f1 f2 : Int) (W : World) : (Instr.field 176 (.agg #[a, b, .int .i64 f1, .int .i64 f2, m]) 1).run Tryz.prog W = .ok (.agg #[.int .i64 f1, .int .i64 f2]) W := by kernel_rfl

/-- Behind a round: the box holds the next one. -/
theorem box_set {w : World} {g : Nat} {y1 y2 n1 n2 : Int} (h : w.heap[g]? = some (.cells #[.int .i64 y1, .int .i64 y2] 36 (0, 0))) : ((w.setCell ⟨g, 0, none⟩ (.int .i64 n1)).setCell ⟨g, 1, none⟩ (.int .i64 n2)).drew.heap[g]? = some (.cells #[.int .i64 n1, .int .i64 n2] 36 (0, 0)) := by
  have hl := blk_lt h
  obtain ⟨_, he⟩ := Array.getElem?_eq_some_iff.1 h
  show ((w.setCell ⟨g, 0, none⟩ (.int .i64 n1)).setCell ⟨g, 1, none⟩ (.int .i64 n2)).heap[g]? = _
  simp [World.setCell, hl, Array.getElem_modify_self, he]
theorem chain_rel {w w3 : World} {els : List (PId × CQEl)} {L done rest : List PId} {y1 y2 n1 n2 : Int} {g : Nat} {v : Value} (hdr : done ++ (y1, y2) :: rest = L) (hg : w.heap.size ≤ g) (hx : w3.heap[g]? = some (.cells #[.int .i64 y1, .int .i64 y2] 36 (0, 0)))
    (hch : Chain els (n1, n2) rest) (hown : ownIds w.heap.size w3 v ((done ++ [(y1, y2)]).filter (seenEl els))) (hne : v.ownBlock ≠ some g) (hb : Below w.heap.size w w3) :
    ∃ done rest y gb, done ++ rest = L ∧ Value.pointer (some ⟨g, 0, none⟩) = Value.pointer (some ⟨gb, 0, none⟩) ∧ w.heap.size ≤ gb ∧ ((w3.setCell ⟨g, 0, none⟩ (.int .i64 n1)).setCell ⟨g, 1, none⟩ (.int .i64 n2)).drew.heap[gb]? = some (.cells #[.int .i64 y.1, .int .i64 y.2] 36 (0, 0)) ∧
      Chain els y rest ∧ ownIds w.heap.size ((w3.setCell ⟨g, 0, none⟩ (.int .i64 n1)).setCell ⟨g, 1, none⟩ (.int .i64 n2)).drew v (done.filter (seenEl els)) ∧ v.ownBlock ≠ some gb ∧ Below w.heap.size w ((w3.setCell ⟨g, 0, none⟩ (.int .i64 n1)).setCell ⟨g, 1, none⟩ (.int .i64 n2)).drew :=
  ⟨done ++ [(y1, y2)], rest, (n1, n2), g, by simpa using hdr, rfl, hg, box_set hx, hch, World.ownsRow.drew (row_other (row_other hown hne _) hne _), hne, ((hb.setCell hg _).setCell hg _).drew⟩
theorem chain_less {wr w3 : World} {els : List (PId × CQEl)} {rank : PId → Nat} (hrk : ∀ x R, Chain els x R → rank x = R.length) {rest : List PId} {y1 y2 n1 n2 : Int} {g gb : Nat} {e : CQEl} (hel : lookI (y1, y2) els = some e) (hn : e.next = (n1, n2)) (h0 : (y1, y2) ≠ ((0 : Int), (0 : Int))) (hch : Chain els (n1, n2) rest)
    (hgb : wr.heap[gb]? = some (.cells #[.int .i64 y1, .int .i64 y2] 36 (0, 0))) (hx : w3.heap[g]? = some (.cells #[.int .i64 y1, .int .i64 y2] 36 (0, 0))) :
    rank (boxId ((w3.setCell ⟨g, 0, none⟩ (.int .i64 n1)).setCell ⟨g, 1, none⟩ (.int .i64 n2)).drew (.pointer (some ⟨g, 0, none⟩))) < rank (boxId wr (.pointer (some ⟨gb, 0, none⟩))) := by
  rw [boxId_of (x := (n1, n2)) (box_set hx), boxId_of (x := (y1, y2)) hgb, hrk _ _ hch]
  have : Chain els (y1, y2) ((y1, y2) :: rest) := ⟨rfl, h0, e, hel, by rw [hn]; exact hch⟩
  rw [hrk _ _ this]
  simp

set_option maxRecDepth 1000000 in
set_option maxHeartbeats 800000 in
theorem elements_q {w : World} {d bo be : Nat} {os : List (PId × CQObj)} {els : List (PId × CQEl)} (h : isQ w d bo be os els) (x1 x2 : Int) {ob : CQObj} (hob : lookI (x1, x2) os = some ob) (hl : ob.list = true) {L : List PId} (hch : Chain els ob.first L) (hL : L.length ≤ 10000) :
    Calls Tryz.prog 57 #[.pointer (some ⟨d, 0, none⟩), .agg #[.int .i64 x1, .int .i64 x2]] w fun e w' => ∃ u, e = .returned u ∧ ownIds w.heap.size w' u (L.filter (seenEl els)) ∧ Below w.heap.size w w' := by
  have HB0 := hid ((Below.refl w.heap.size w).alloc (Nat.le_refl _) (.cells #[.int .i64 x1, .int .i64 x2] 36))
  have HL := hid (isList_q (h.keep HB0.out) x1 x2)
  have hq : qlist (x1, x2) os = true := by unfold qlist; rw [hob]; exact hl
  rw [hq] at HL
  have HLO := hid (fun W (hb : Below w.heap.size w W) => (h.keep hb).lookO x1 x2 false)
  rw [hob] at HLO
  have HC := hid (fun W (hb : Below w.heap.size w W) => (h.keep hb).c0)
  obtain ⟨rank, hrank⟩ := rank_ex els
  have HRK := hid hrank; clear hrank
  obtain ⟨ol, okv, oks, ⟨f1, f2⟩⟩ := ob
  simp only at hl hch
  have HCH := hid hch; clear hch hob hq hl
  simp only [Option.map_some, Option.getD_some, Bool.false_eq_true, if_false, qobjV] at HLO
  have HH := hid h; clear h
  go_enter Tryz.func57, Tryz.ntmps57
  go_wp2_with fail
  refine HL.out.mono ?_
  rintro e w1 ⟨rfl, hb1⟩
  have b0 := keep (a := ⟨w.heap.size, 0, none⟩) (v := .int .i64 x1) hb1 (by simp [go_sem])
  have b1 := keep (a := ⟨w.heap.size, 1, none⟩) (v := .int .i64 x2) hb1 (by simp [go_sem])
  have HB1 := hid (HB0.out.trans (hb1.mono HB0.out.size)); clear hb1
  have c0 := HC.out _ HB1.out
  have l1 := HLO.out _ HB1.out
  have l2 := HLO.out _ HB1.out.drew
  have l3 := HLO.out _ (HB1.out.alloc HB1.out.size (.cells #[.int .i64 0, .int .i64 0] 36)).drew
  have ff := field_first
  have hz1 := HB1.out.size
  have hdl := (HH.out.keep HB1.out).lt
  have hwl : w.heap.size < w1.heap.size := World.block_lt_of_cell? w1 _ b0
  go_wp2
  go_cut [6] (fun p wc => p = .pointer (some ⟨w1.heap.size, 0, none⟩) ∧ wc = (w1.alloc (.cells #[.int .i64 f1, .int .i64 f2] 36)).drew)
  case first =>
    go_region
    all_goals (go_wp2_with fail; go_meet)
    all_goals exact ⟨rfl, rfl⟩
  case rest =>
    obtain ⟨rfl, hwc⟩ := hcut
    have HBC := hid (show Below w.heap.size w wc by rw [hwc]; exact (HB1.out.alloc hz1 _).drew)
    have HBX := hid (show wc.heap[w1.heap.size]? = some (.cells #[.int .i64 f1, .int .i64 f2] 36 (0, 0)) by rw [hwc]; exact blk_new w1 _)
    clear hwc b0 b1 c0 l1 l2 l3 ff
    go_wp2
    go_loopw [5, 6] (fun u p wr => ∃ done rest y gb, done ++ rest = L ∧ p = .pointer (some ⟨gb, 0, none⟩) ∧ w.heap.size ≤ gb ∧ wr.heap[gb]? = some (.cells #[.int .i64 y.1, .int .i64 y.2] 36 (0, 0)) ∧ Chain els y rest ∧ ownIds w.heap.size wr u (done.filter (seenEl els)) ∧ u.ownBlock ≠ some gb ∧ Below w.heap.size w wr) (fun _ p wr => rank (boxId wr p))
    case atStart => exact ⟨[], L, (f1, f2), w1.heap.size, rfl, rfl, hz1, HBX.out, HCH.out, World.ownsRow_nil _ _ _ _, by simp [Value.ownBlock], HBC.out⟩
    case round =>
      obtain ⟨done, rest, ⟨y1, y2⟩, gb, hdr, rfl, hgw, hgb, hchr, hown, hne, hbel⟩ := hrel
      simp only at hgb
      have HG := hid hgb; clear hgb
      have c0 := (blk2 HG.out).1
      have c1 := (blk2 HG.out).2
      have hgl := blk_lt HG.out
      have heq := run_idNe
      have HO := hid hown; clear hown
      cases rest with
      | nil =>
        have hy : (y1, y2) = ((0 : Int), (0 : Int)) := hchr
        injection hy with hy1 hy2
        subst hy1; subst hy2
        go_wp2
        go_ret
        have hd : done = L := by simpa using hdr
        exact ⟨_, rfl, by rw [← hd]; exact HO.out, hbel⟩
      | cons x rest =>
        obtain ⟨hx, hx0, el, hel, hnx⟩ := hchr
        subst hx
        obtain ⟨q, ⟨n1, n2⟩, ev, evs⟩ := el
        simp only at hnx
        have hid0 : idEq y1 y2 0 0 = false := by rw [idEq_false]; exact hx0
        have c1' := (HH.out.keep hbel).c1
        have hl1 := (HH.out.keep hbel.drew).lookE y1 y2 false
        rw [hel] at hl1
        simp only [Option.map_some, Option.getD_some, Bool.false_eq_true, if_false, qelV] at hl1
        have hln := run_lenMap ((HH.out.hv _ (look_mem hel)).keep hbel.drew) (ty := 3)
        simp only at hln
        have fe := field_el
        have fn := field_next
        have hseen : seenEl els (y1, y2) = decide (0 < evs.length) := by unfold seenEl; rw [hel]
        have HSE := hid hseen; clear hseen
        have HNX := hid hnx; clear hnx
        have HEL := hid hel; clear hel
        have HBE := hid hbel; clear hbel
        have hbz := HBE.out.size
        have hdl2 := (HH.out.keep HBE.out).lt
        by_cases hs : 0 < evs.length
        · go_wp2
          go_region
          obtain ⟨wd, hwd⟩ : ∃ wd, wd = wr.drew := ⟨_, rfl⟩
          rw [← hwd]
          have HGD := hid (show wd.heap[gb]? = some (.cells #[.int .i64 y1, .int .i64 y2] 36 (0, 0)) by rw [hwd]; exact HG.out)
          have HOD := hid (show ownIds w.heap.size wd u5 (done.filter (seenEl els)) by rw [hwd]; exact World.ownsRow.drew HO.out)
          have HBD := hid (show Below w.heap.size w wd by rw [hwd]; exact HBE.out.drew)
          have hlenD : (done.filter (seenEl els)).length ≤ 10000 := by
            have h1 := List.length_filter_le (seenEl els) done
            have h2 : done.length ≤ L.length := by rw [← hdr, List.length_append]; omega
            omega
          clear hwd hl1 hln c1'
          replace c0 := (blk2 HGD.out).1
          replace c1 := (blk2 HGD.out).2
          have hgl := blk_lt HGD.out
          have hbzd := HBD.out.size
          go_wp2_with (at_builtin; go_must (refine app_id rfl (.tmp 37) (.tmp 39) rfl w.heap.size _ (done.filter (seenEl els)) rfl ?h1 wd.heap.size 1 y1 y2 rfl ?h2 ?h3 ?h4 ?h5 ?_; (case h1 => exact HOD.out.alloc _); (case h2 => simp [go_sem]); (case h3 => simp [go_sem]); (case h4 => omega); (case h5 => simp; omega); intro v' w2 hown2 hg2; have HG2 := hid (show w2.heap[gb]? = some (.cells #[.int .i64 y1, .int .i64 y2] 36 (0, 0)) from (hg2.block gb (by simp; omega) (fun e => hne e.symm)).trans (blk_alloc HGD.out)); have HB2 := hid (ownIds.below (HOD.out.alloc _) (HBD.out.alloc hbzd _) (by simp; omega) hg2); clear hg2; have HN2 := hid hown2; clear hown2; have a0 := (blk2 HG2.out).1; have a1 := (blk2 HG2.out).2; have ac := (HH.out.keep HB2.out).c1))
          obtain ⟨w3, hw3⟩ : ∃ w3, w3 = w2.alloc (.cells #[.int .i64 y1, .int .i64 y2] 36) := ⟨_, rfl⟩
          rw [← hw3]
          have HB3 := hid (show Below w.heap.size w w3 by rw [hw3]; exact HB2.out.alloc HB2.out.size _)
          have HX3 := hid (show w3.heap[w2.heap.size]? = some (.cells #[.int .i64 y1, .int .i64 y2] 36 (0, 0)) by rw [hw3]; exact blk_new w2 _)
          have HN3 := hid (show ownIds w.heap.size w3 v' (done.filter (seenEl els) ++ [(y1, y2)]) by rw [hw3]; exact HN2.out.alloc _)
          have HNE := hid (show v'.ownBlock ≠ some w2.heap.size from fun e => by have := (World.ownsRow.lt HN2.out _ e).2; omega)
          have s0 := (blk2 HX3.out).1
          have s1 := (blk2 HX3.out).2
          have sf := blk_fz HX3.out
          have sc := (HH.out.keep HB3.out).c1
          have sl := (HH.out.keep HB3.out.drew).lookE y1 y2 false
          rw [HEL.out] at sl
          simp only [Option.map_some, Option.getD_some, Bool.false_eq_true, if_false, qelV] at sl
          have hzz := HB2.out.size
          clear hw3 a0 a1 ac c0 c1
          go_region
          all_goals (try go_wp2)
          all_goals go_roundw
          all_goals first
            | exact chain_rel hdr hzz HX3.out HNX.out (by rw [List.filter_append, show [(y1, y2)].filter (seenEl els) = [(y1, y2)] by simp [HSE.out, hs]]; exact HN3.out) HNE.out HB3.out
            | exact chain_less HRK.out HEL.out rfl hx0 HNX.out HG.out HX3.out
        · go_wp2
          go_region
          obtain ⟨wd, hwd⟩ : ∃ wd, wd = wr.drew := ⟨_, rfl⟩
          rw [← hwd]
          have HGD := hid (show wd.heap[gb]? = some (.cells #[.int .i64 y1, .int .i64 y2] 36 (0, 0)) by rw [hwd]; exact HG.out)
          have HOD := hid (show ownIds w.heap.size wd u5 (done.filter (seenEl els)) by rw [hwd]; exact World.ownsRow.drew HO.out)
          have HBD := hid (show Below w.heap.size w wd by rw [hwd]; exact HBE.out.drew)
          clear hwd hl1 hln c1'
          replace c0 := (blk2 HGD.out).1
          replace c1 := (blk2 HGD.out).2
          have hgl := blk_lt HGD.out
          have hbzd := HBD.out.size
          go_wp2
          obtain ⟨w3, hw3⟩ : ∃ w3, w3 = wd.alloc (.cells #[.int .i64 y1, .int .i64 y2] 36) := ⟨_, rfl⟩
          rw [← hw3]
          have HB3 := hid (show Below w.heap.size w w3 by rw [hw3]; exact HBD.out.alloc hbzd _)
          have HX3 := hid (show w3.heap[wd.heap.size]? = some (.cells #[.int .i64 y1, .int .i64 y2] 36 (0, 0)) by rw [hw3]; exact blk_new wd _)
          have HN3 := hid (show ownIds w.heap.size w3 u5 (done.filter (seenEl els)) by rw [hw3]; exact HOD.out.alloc _)
          have HNE := hid (show u5.ownBlock ≠ some wd.heap.size from fun e => by have := (World.ownsRow.lt HOD.out _ e).2; omega)
          have s0 := (blk2 HX3.out).1
          have s1 := (blk2 HX3.out).2
          have sf := blk_fz HX3.out
          have sc := (HH.out.keep HB3.out).c1
          have sl := (HH.out.keep HB3.out.drew).lookE y1 y2 false
          rw [HEL.out] at sl
          simp only [Option.map_some, Option.getD_some, Bool.false_eq_true, if_false, qelV] at sl
          clear hw3 c0 c1
          go_region
          all_goals (try go_wp2)
          all_goals go_roundw
          all_goals first
            | exact chain_rel hdr hbzd HX3.out HNX.out (by rw [List.filter_append, show [(y1, y2)].filter (seenEl els) = [] by simp [HSE.out, hs], List.append_nil]; exact HN3.out) HNE.out HB3.out
            | exact chain_less HRK.out HEL.out rfl hx0 HNX.out HG.out HX3.out

end Go.Proofs.YtnkpogjiiohapaaGreatDoor
