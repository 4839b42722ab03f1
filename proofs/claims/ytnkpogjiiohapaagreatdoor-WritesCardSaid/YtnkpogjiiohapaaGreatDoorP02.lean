/- Our own text (PSeqC, PDocB, PDocC, PSeqD, PDocD, PDocE, PDoA). -/
import Derived.LoopN
import Derived.Deep.DeepCutAuto
import Derived.Test.YtnkpogjiiohapaaGreatDoorP01
import Derived.Test.YtnkpogjiiohapaaGreatDoorR02
import Derived.Test.YtnkpogjiiohapaaGreatDoorR03
set_option linter.unusedSimpArgs false
set_option linter.unusedVariables false

/-! PSeqC: slices.SortFunc on at most one Id; slices.Collect, slices.SortedFunc, givers where a place has at most one value. -/
namespace Go.Proofs.YtnkpogjiiohapaaGreatDoor
open Go.RowKit

set_option maxRecDepth 1000000 in
set_option maxHeartbeats 400000 in
theorem bitsLen1 (k : Nat) (hk : k ≤ 1) (w : World) : Calls Tryz.prog 182 #[.int .u64 k] w fun e w' => (∃ m, e = .returned (.int .i64 m)) ∧ w' = w := by
  have : k = 0 ∨ k = 1 := by omega
  rcases this with rfl | rfl
  all_goals go_enter Tryz.func182, Tryz.ntmps182
  all_goals go_wp2
  all_goals go_ret
  all_goals exact ⟨⟨_, rfl⟩, rfl⟩

set_option maxRecDepth 1000000 in
set_option maxHeartbeats 400000 in
theorem insertion1 (a : Option Addr) (k c : Nat) (f : Value) (hk : k ≤ 1) (w : World) : Calls Tryz.prog 196 #[.slice a k c, .int .i64 0, .int .i64 k, f] w fun e w' => e = .returned (.tuple #[]) ∧ Below w.heap.size w w' := by
  have : k = 0 ∨ k = 1 := by omega
  clear hk
  rcases this with rfl | rfl
  all_goals go_enter Tryz.func196, Tryz.ntmps196
  all_goals go_wp2
  all_goals refine wp_loop_rounds 1 ?_
  all_goals rw [rounds_succ]
  all_goals go_wp2
  all_goals go_end0
  all_goals exact ⟨rfl, Below.refl _ _⟩

set_option maxRecDepth 1000000 in
set_option maxHeartbeats 400000 in
theorem pdq1 (a : Option Addr) (k c : Nat) (lim : Int) (f : Value) (hk : k ≤ 1) (w : World) : Calls Tryz.prog 181 #[.slice a k c, .int .i64 0, .int .i64 k, .int .i64 lim, f] w fun e w' => e = .returned (.tuple #[]) ∧ Below w.heap.size w w' := by
  have HI := hid (insertion1 a k c f hk w)
  have : k = 0 ∨ k = 1 := by omega
  clear hk
  rcases this with rfl | rfl
  all_goals go_enter Tryz.func181, Tryz.ntmps181
  all_goals go_wp2_with fail
  all_goals refine wp_loop_rounds 1 ?_
  all_goals rw [rounds_succ]
  all_goals go_wp2_with fail
  all_goals refine HI.out.mono ?_
  all_goals rintro e w1 ⟨rfl, hb⟩
  all_goals go_wp2
  all_goals exact bodyPost_ret (v := .tuple #[]) (by simp [results, Tryz.results181, go_sem]) rfl ⟨rfl, hb⟩

set_option maxRecDepth 1000000 in
set_option maxHeartbeats 400000 in
theorem sortFunc1 (a : Option Addr) (k c : Nat) (f : Value) (hk : k ≤ 1) (w : World) : Calls Tryz.prog 163 #[.slice a k c, f] w fun e w' => e = .returned (.tuple #[]) ∧ Below w.heap.size w w' := by
  have HL := hid (bitsLen1 k hk w)
  have HP := hid (fun lim => pdq1 a k c lim f hk w)
  have : k = 0 ∨ k = 1 := by omega
  clear hk
  rcases this with rfl | rfl
  all_goals go_enter Tryz.func163, Tryz.ntmps163
  all_goals go_wp2_with fail
  all_goals refine HL.out.mono ?_
  all_goals rintro e w1 ⟨⟨lim, rfl⟩, rfl⟩
  all_goals go_wp2_with fail
  all_goals refine (HP.out lim).mono ?_
  all_goals rintro e w2 ⟨rfl, hb⟩
  all_goals go_wp2
  all_goals go_end0
  all_goals exact ⟨rfl, hb⟩

end Go.Proofs.YtnkpogjiiohapaaGreatDoor

/-! PDocB: The contracts of hasPlace and at. -/
namespace Go.Proofs.YtnkpogjiiohapaaGreatDoor
open Go.RowKit

def placeV (o1 o2 : Int) (key : ByteArray) (e1 e2 : Int) : Value := .agg #[.int .i64 o1, .int .i64 o2, .string key, .int .i64 e1, .int .i64 e2]
def hasPl (os : List (PId × CQObj)) (els : List (PId × CQEl)) (o : PId) (key : ByteArray) (x : PId) : Bool :=
  if key = ⟨#[]⟩ then (match lookI x els with | some e => decide (e.list = o) | none => false) else (lookI o os).isSome && !qlist o os

theorem nil_toList : (⟨#[]⟩ : ByteArray).toList = [] := by
  unfold ByteArray.toList
  unfold ByteArray.toList.loop
  simp [ByteArray.size]
theorem key_ne {key : ByteArray} (h : key ≠ ⟨#[]⟩) : key.toList.isEmpty = false := by
  cases hk : key.toList with
  | cons a l => rfl
  | nil =>
    exfalso
    apply h
    rw [← Go.MapKept.bytes_beq, beq_toListBytes, hk, nil_toList]
    rfl

set_option maxRecDepth 1000000 in
set_option maxHeartbeats 800000 in
theorem hasPlace_q {w : World} {d bo be : Nat} {os : List (PId × CQObj)} {els : List (PId × CQEl)} (h : isQ w d bo be os els) (o1 o2 e1 e2 : Int) (key : ByteArray) :
    Calls Tryz.prog 136 #[.pointer (some ⟨d, 0, none⟩), .agg #[.int .i64 o1, .int .i64 o2, .string key, .int .i64 e1, .int .i64 e2]] w fun e w' => e = .returned (.bool (hasPl os els (o1, o2) key (e1, e2))) ∧ Below w.heap.size w w' := by
  have c1 := h.c1
  have hd := h.lt
  have HB0 := hid ((Below.refl w.heap.size w).alloc (Nat.le_refl _) (.cells #[.int .i64 o1, .int .i64 o2, .string key, .int .i64 e1, .int .i64 e2] 97))
  by_cases hk : key = ⟨#[]⟩
  · subst hk
    have hb1 := HB0.out.drew
    have hb2 := (HB0.out.alloc (by simp) (.cells #[.int .i64 0, .int .i64 0, .int .i64 0, .int .i64 0, .map none] 176)).drew
    have l1 := (h.keep hb1).lookE e1 e2 true
    have l2 := (h.keep hb2).lookE e1 e2 true
    clear h hb1 hb2
    unfold hasPl
    rw [if_pos rfl]
    generalize lookI (e1, e2) els = L at *
    cases L with
    | none =>
      simp only [Option.map_none, Option.getD_none, Option.isSome_none, if_true] at l1 l2
      go_enter Tryz.func136, Tryz.ntmps136
      go_wp2
      go_region
      all_goals go_wp2
      all_goals go_ret
      all_goals exact ⟨rfl, by go_grown⟩
    | some o =>
      obtain ⟨⟨q1, q2⟩, on, ov, ovs⟩ := o
      simp only [Option.map_some, Option.getD_some, Option.isSome_some, if_true, qelV] at l1 l2
      have heq := run_idEq
      go_enter Tryz.func136, Tryz.ntmps136
      go_wp2
      go_region
      all_goals go_wp2
      all_goals go_ret
      all_goals exact ⟨ret_bool (by rw [← idEq_eq (q1, q2) (o1, o2)]), by go_grown⟩
  · have hkn := key_ne hk
    have HO := hid (fun W hb => has_q (isQ.keep h (w' := W) hb) o1 o2)
    have HL := hid (fun W hb => isList_q (isQ.keep h (w' := W) hb) o1 o2)
    clear h c1
    unfold hasPl
    rw [if_neg hk]
    generalize (lookI (o1, o2) os).isSome = B at *
    generalize qlist (o1, o2) os = G at *
    go_enter Tryz.func136, Tryz.ntmps136
    go_wp2_with fail
    refine (HO.out _ HB0.out).mono ?_
    rintro e w1 ⟨rfl, hb1⟩
    have p0 := keep (a := ⟨w.heap.size, 0, none⟩) (v := .int .i64 o1) hb1 (by simp [go_sem])
    have p1 := keep (a := ⟨w.heap.size, 1, none⟩) (v := .int .i64 o2) hb1 (by simp [go_sem])
    have HB1 := hid (HB0.out.trans (hb1.mono HB0.out.size)); clear hb1
    cases B
    · go_wp2
      go_ret
      exact ⟨rfl, HB1.out⟩
    · go_wp2_with fail
      refine (HL.out _ HB1.out).mono ?_
      rintro e w2 ⟨rfl, hb2⟩
      have HB2 := hid (HB1.out.trans (hb2.mono HB1.out.size)); clear hb2
      go_wp2
      go_ret
      exact ⟨ret_bool (by cases G <;> rfl), HB2.out⟩

end Go.Proofs.YtnkpogjiiohapaaGreatDoor

/-! PDocC: The contract of at: the values of a place. -/
namespace Go.Proofs.YtnkpogjiiohapaaGreatDoor
open Go.RowKit

def atPl (os : List (PId × CQObj)) (els : List (PId × CQEl)) (o : PId) (key : ByteArray) (x : PId) : CKey :=
  if hasPl os els o key x then
    (if key = ⟨#[]⟩ then (match lookI x els with | some e => ⟨e.v, e.vs⟩ | none => ⟨none, []⟩)
     else (match lookI o os with | some ob => (match lookI key ob.ks with | some c => c | none => ⟨none, []⟩) | none => ⟨none, []⟩))
  else ⟨none, []⟩

theorem look_mem {κ ν : Type} [DecidableEq κ] {x : κ} {m : List (κ × ν)} {v : ν} (h : lookI x m = some v) : (x, v) ∈ m := by
  unfold lookI at h
  cases hf : m.find? (fun p => decide (x = p.1)) with
  | none => rw [hf] at h; cases h
  | some p =>
    rw [hf] at h
    simp at h
    have h1 := List.find?_some hf
    simp at h1
    have h2 := List.mem_of_find?_eq_some hf
    rw [← h, h1]; exact h2
theorem isQ.at {w : World} {d bo be : Nat} {os : List (PId × CQObj)} {els : List (PId × CQEl)} (h : isQ w d bo be os els) (o : PId) (key : ByteArray) (x : PId) : isVals w (atPl os els o key x).v (atPl os els o key x).vs := by
  unfold atPl
  split
  · split
    · split
      · rename_i e he; exact h.hv _ (look_mem he)
      · exact .inl ⟨rfl, rfl⟩
    · split
      · split
        · rename_i _ ob hob _ c hc; exact (h.hk _ (look_mem hob)).2 _ (look_mem hc)
        · exact .inl ⟨rfl, rfl⟩
      · exact .inl ⟨rfl, rfl⟩
  · exact .inl ⟨rfl, rfl⟩

theorem run_lookNil {κ : Type} [DecidableEq κ] {kt : TypeId} {encK : κ → Value} (K : KeyOf κ kt encK) {t e : TypeId} (ht : Tryz.prog.underlying t = some (.map kt e)) {w : World} {z : Value} (hz : (zeroValue e).run Tryz.prog w = .ok z w) (x : κ) (ok : Bool) :
    (Instr.lookup t (.map none) (encK x) ok).run Tryz.prog w = .ok (if ok then .tuple #[z, .bool false] else z) w := by
  have h2 := K.check true x w
  have h3 := K.find (fun v : Value => v) x w [] [] rfl
  unfold Instr.lookup
  rw [Sem.run_bind, run_underlying ht, Result.andThen_ok]
  simp only [Sem.run_bind, Result.andThen_ok, Sem.run_pure]
  rw [show (#[] : Array MapEntry).isEmpty = true from rfl, h2]
  simp only [Result.andThen_ok]
  rw [h3]
  cases ok <;> simp [hitI, hz, Sem.run_bind]
theorem zero_vals (W : World) : (zeroValue 159).run Tryz.prog W = .ok (.map none) W := by kernel_rfl

/-- Looking up a key of an object. -/
theorem isKeys.look {w : World} {v : Option Nat} {ks : List (ByteArray × CKey)} (h : isKeys w v ks) (key : ByteArray) :
    (Instr.lookup 168 (.map v) (.string key) false).run Tryz.prog w = .ok (.map (match lookI key ks with | some c => c.v | none => none)) w := by
  rcases h.1 with ⟨rfl, rfl⟩ | ⟨b, es, clk, rfl, hm⟩
  · exact run_lookNil strKey Tryz.underlying168 (zero_vals w) key false
  · have := run_lookI strKey hm Tryz.underlying168 (zero_vals w) key false
    rw [show (Value.string key) = strV key from rfl, this]
    cases lookI key ks <;> rfl

theorem field_el (a b c d : Value) (r : Option Nat) (W : World) : (Instr.field 176 (.agg #[a, b, c, d, .map r]) 2).run Tryz.prog W = .ok (.map r) W := by kernel_rfl
theorem field_ob (a c d : Value) (r : Option Nat) (W : World) : (Instr.field 170 (.agg #[a, .map r, c, d]) 1).run Tryz.prog W = .ok (.map r) W := by kernel_rfl

set_option maxRecDepth 1000000 in
set_option maxHeartbeats 800000 in
theorem at_q {w : World} {d bo be : Nat} {os : List (PId × CQObj)} {els : List (PId × CQEl)} (h : isQ w d bo be os els) (o1 o2 e1 e2 : Int) (key : ByteArray) :
    Calls Tryz.prog 86 #[.pointer (some ⟨d, 0, none⟩), .agg #[.int .i64 o1, .int .i64 o2, .string key, .int .i64 e1, .int .i64 e2]] w fun e w' => e = .returned (.map (atPl os els (o1, o2) key (e1, e2)).v) ∧ Below w.heap.size w w' := by
  have HB0 := hid ((Below.refl w.heap.size w).alloc (Nat.le_refl _) (.cells #[.int .i64 o1, .int .i64 o2, .string key, .int .i64 e1, .int .i64 e2] 97))
  have HP := hid (hasPlace_q (h.keep HB0.out) o1 o2 e1 e2 key)
  by_cases hk : key = ⟨#[]⟩
  · subst hk
    have HC := hid (fun W (hb : Below w.heap.size w W) => (h.keep hb).c1)
    have HLE := hid (fun W (hb : Below w.heap.size w W) => (h.keep hb).lookE e1 e2 false)
    clear h
    unfold atPl
    simp only [if_true]
    generalize hasPl os els (o1, o2) ⟨#[]⟩ (e1, e2) = B at *
    generalize lookI (e1, e2) els = L at *
    cases B
    · go_enter Tryz.func86, Tryz.ntmps86
      go_wp2_with fail
      refine HP.out.mono ?_
      rintro e w1 ⟨rfl, hb1⟩
      have HB1 := hid (HB0.out.trans (hb1.mono HB0.out.size)); clear hb1
      go_wp2
      go_ret
      exact ⟨rfl, HB1.out⟩
    · cases L with
      | none =>
        go_enter Tryz.func86, Tryz.ntmps86
        go_wp2_with fail
        refine HP.out.mono ?_
        rintro e w1 ⟨rfl, hb1⟩
        have p2 := keep (a := ⟨w.heap.size, 2, none⟩) (v := .string ⟨#[]⟩) hb1 (by simp [go_sem])
        have p3 := keep (a := ⟨w.heap.size, 3, none⟩) (v := .int .i64 e1) hb1 (by simp [go_sem])
        have p4 := keep (a := ⟨w.heap.size, 4, none⟩) (v := .int .i64 e2) hb1 (by simp [go_sem])
        have HB1 := hid (HB0.out.trans (hb1.mono HB0.out.size)); clear hb1
        have c1 := HC.out _ HB1.out
        have l1 := HLE.out _ HB1.out.drew
        simp only [Option.map_none, Option.getD_none, Bool.false_eq_true, if_false] at l1
        have fe := field_el
        have fo := field_ob
        go_wp2
        go_region
        go_wp2
        go_ret
        exact ⟨rfl, HB1.out.drew⟩
      | some el =>
        obtain ⟨q, on, ov, ovs⟩ := el
        go_enter Tryz.func86, Tryz.ntmps86
        go_wp2_with fail
        refine HP.out.mono ?_
        rintro e w1 ⟨rfl, hb1⟩
        have p2 := keep (a := ⟨w.heap.size, 2, none⟩) (v := .string ⟨#[]⟩) hb1 (by simp [go_sem])
        have p3 := keep (a := ⟨w.heap.size, 3, none⟩) (v := .int .i64 e1) hb1 (by simp [go_sem])
        have p4 := keep (a := ⟨w.heap.size, 4, none⟩) (v := .int .i64 e2) hb1 (by simp [go_sem])
        have HB1 := hid (HB0.out.trans (hb1.mono HB0.out.size)); clear hb1
        have c1 := HC.out _ HB1.out
        have l1 := HLE.out _ HB1.out.drew
        simp only [Option.map_some, Option.getD_some, Bool.false_eq_true, if_false, qelV] at l1
        have fe := field_el
        have fo := field_ob
        go_wp2
        go_region
        go_wp2
        go_ret
        exact ⟨rfl, HB1.out.drew⟩
  · have hkn := key_ne hk
    have HC := hid (fun W (hb : Below w.heap.size w W) => (h.keep hb).c0)
    have HLO := hid (fun W (hb : Below w.heap.size w W) => (h.keep hb).lookO o1 o2 false)
    unfold atPl
    simp only [hk, if_false]
    have HKS := hid (fun ob (hob : lookI (o1, o2) os = some ob) W (hb : Below w.heap.size w W) => ((h.hk _ (look_mem hob)).keep hb).look key)
    clear h
    generalize hasPl os els (o1, o2) key (e1, e2) = B at *
    generalize lookI (o1, o2) os = L at *
    cases B
    · go_enter Tryz.func86, Tryz.ntmps86
      go_wp2_with fail
      refine HP.out.mono ?_
      rintro e w1 ⟨rfl, hb1⟩
      have HB1 := hid (HB0.out.trans (hb1.mono HB0.out.size)); clear hb1
      go_wp2
      go_ret
      exact ⟨rfl, HB1.out⟩
    · cases L with
      | none =>
        have HKN := hid (fun W => run_lookNil strKey Tryz.underlying168 (zero_vals W) key false)
        go_enter Tryz.func86, Tryz.ntmps86
        go_wp2_with fail
        refine HP.out.mono ?_
        rintro e w1 ⟨rfl, hb1⟩
        have p0 := keep (a := ⟨w.heap.size, 0, none⟩) (v := .int .i64 o1) hb1 (by simp [go_sem])
        have p1 := keep (a := ⟨w.heap.size, 1, none⟩) (v := .int .i64 o2) hb1 (by simp [go_sem])
        have p2 := keep (a := ⟨w.heap.size, 2, none⟩) (v := .string key) hb1 (by simp [go_sem])
        have HB1 := hid (HB0.out.trans (hb1.mono HB0.out.size)); clear hb1
        have c1 := HC.out _ HB1.out
        have l1 := HLO.out _ HB1.out.drew
        have l2 := HKN.out w1.drew
        simp only [Option.map_none, Option.getD_none, Bool.false_eq_true, if_false, strV] at l1 l2
        have fe := field_el
        have fo := field_ob
        go_wp2
        go_region
        go_wp2
        go_ret
        exact ⟨rfl, HB1.out.drew⟩
      | some ob =>
        obtain ⟨ol, okv, oks, ofr⟩ := ob
        have HKY := hid (HKS.out _ rfl); clear HKS
        simp only at HKY
        have e2 : (match lookI key oks with | some c => c | none => ⟨none, []⟩ : CKey).v = (match lookI key oks with | some c => c.v | none => none) := by cases lookI key oks <;> rfl
        simp only [if_true]
        rw [e2]
        clear e2
        generalize (match lookI key oks with | some c => c.v | none => none : Option Nat) = R at *
        go_enter Tryz.func86, Tryz.ntmps86
        go_wp2_with fail
        refine HP.out.mono ?_
        rintro e w1 ⟨rfl, hb1⟩
        have p0 := keep (a := ⟨w.heap.size, 0, none⟩) (v := .int .i64 o1) hb1 (by simp [go_sem])
        have p1 := keep (a := ⟨w.heap.size, 1, none⟩) (v := .int .i64 o2) hb1 (by simp [go_sem])
        have p2 := keep (a := ⟨w.heap.size, 2, none⟩) (v := .string key) hb1 (by simp [go_sem])
        have HB1 := hid (HB0.out.trans (hb1.mono HB0.out.size)); clear hb1
        have c1 := HC.out _ HB1.out
        have l1 := HLO.out _ HB1.out.drew
        have l2 := HKY.out _ HB1.out.drew
        simp only [Option.map_some, Option.getD_some, Bool.false_eq_true, if_false, qobjV] at l1
        have fe := field_el
        have fo := field_ob
        go_wp2
        go_region
        go_wp2
        go_ret
        exact ⟨rfl, HB1.out.drew⟩

end Go.Proofs.YtnkpogjiiohapaaGreatDoor

/-! PSeqD: slices.Collect, slices.SortedFunc, givers, where a place has at most one value. -/
namespace Go.Proofs.YtnkpogjiiohapaaGreatDoor
open Go.RowKit
attribute [local go_sem] Oper.semAt_some

theorem enters_keys (args : Array Value) (w : World) : (callFunc 164 args).run Tryz.prog w = .ok (.enter 164 args) w :=
  enters_of Tryz.func164 (by kernel_rfl) rfl args w

set_option maxRecDepth 100000 in
set_option maxHeartbeats 1000000 in
theorem collect_q (Bm : Nat) (v : Option Nat) (vs : List (PId × PVal)) (w : World) (hm : w.cell? ⟨Bm, 0, none⟩ = some (.map v)) (hv : isVals w v vs) (hN : vs.length ≤ 10000) :
    Calls Tryz.prog 162 #[.func (.func 164) #[] #[.pointer (some ⟨Bm, 0, none⟩)]] w fun e w' => ∃ u ss, e = .returned u ∧ ss.Perm (vs.map (·.1)) ∧ ownIds w.heap.size w' u ss ∧ Below w.heap.size w w' := by
  have HA := hid (callsIn_wide.1 (appendSeq_q Fence.wide 3 trivial rfl (by omega) 164 #[.pointer (some ⟨Bm, 0, none⟩)] trivial enters_keys (fun ss => ss.Perm (vs.map (·.1))) (fun _ => True) vs.length hN w (keys_stops Fence.wide 2 trivial rfl (by omega) Bm v vs w hm hv)))
  clear hm hv
  go_enter Tryz.func162, Tryz.ntmps162
  go_wp2_with fail
  refine HA.out.mono ?_
  rintro e w1 ⟨u, ss, rfl, hS, hu, hb⟩
  have HX := hid (And.intro hS (And.intro hu hb)); clear hS hu hb
  go_wp2
  go_ret
  exact ⟨u, ss, rfl, HX.out.1, HX.out.2.1, HX.out.2.2⟩

set_option maxRecDepth 100000 in
set_option maxHeartbeats 1000000 in
theorem sortedFunc1 (Bm : Nat) (v : Option Nat) (vs : List (PId × PVal)) (f : Value) (w : World) (hm : w.cell? ⟨Bm, 0, none⟩ = some (.map v)) (hv : isVals w v vs) (hN : vs.length ≤ 1) :
    Calls Tryz.prog 137 #[.func (.func 164) #[] #[.pointer (some ⟨Bm, 0, none⟩)], f] w fun e w' => ∃ u, e = .returned u ∧ ownIds w.heap.size w' u (vs.map (·.1)) ∧ Below w.heap.size w w' := by
  have HC := hid (collect_q Bm v vs w hm hv (by omega))
  clear hm hv
  go_enter Tryz.func137, Tryz.ntmps137
  go_wp2_with fail
  refine HC.out.mono ?_
  rintro e w1 ⟨u, ss, rfl, hS, hu, hb⟩
  have hlen : ss.length ≤ 1 := by have := hS.length_eq; rw [List.length_map] at this; omega
  have hss : ss = vs.map (·.1) := by
    match vs, hN, hS with
    | [], _, hS => exact List.perm_nil.1 hS
    | [p], _, hS => exact List.perm_singleton.1 hS
  obtain ⟨a, c, rfl, _, _, _⟩ := owns_form hu
  have HS := hid (sortFunc1 a ss.length c f hlen w1)
  have HX := hid (And.intro hss (And.intro hu hb)); clear hss hS hu hb
  go_wp2_with fail
  refine HS.out.mono ?_
  rintro e w2 ⟨rfl, hb2⟩
  have HB2 := hid hb2; clear hb2
  go_wp2
  go_ret
  exact ⟨_, rfl, by rw [← HX.out.1]; exact owns_keep HX.out.2.1 HB2.out, HX.out.2.2.trans (HB2.out.mono HX.out.2.2.size)⟩

set_option maxRecDepth 100000 in
set_option maxHeartbeats 1000000 in
theorem givers1 (v : Option Nat) (vs : List (PId × PVal)) (w : World) (hv : isVals w v vs) (hN : vs.length ≤ 1) :
    Calls Tryz.prog 87 #[.map v] w fun e w' => ∃ u, e = .returned u ∧ ownIds w.heap.size w' u (vs.map (·.1)) ∧ Below w.heap.size w w' := by
  have HK := hid (callsIn_wide.1 (keys_q Fence.wide 3 trivial rfl v w))
  have hb0 : Below w.heap.size w (w.alloc (.cells #[.map v] 159)) := (Below.refl _ w).alloc (Nat.le_refl _) _
  have HB0 := hid hb0
  have HS := hid (fun f => sortedFunc1 w.heap.size v vs f (w.alloc (.cells #[.map v] 159)) (by simp [go_sem]) (hv.keep hb0) hN)
  clear hv hb0
  go_enter Tryz.func87, Tryz.ntmps87
  go_wp2_with fail
  refine HK.out.mono ?_
  rintro e w1 ⟨rfl, rfl⟩
  go_wp2_with fail
  refine (HS.out _).mono ?_
  rintro e w2 ⟨u, rfl, hu, hb⟩
  have HX := hid (And.intro hu hb); clear hu hb
  go_wp2
  go_ret
  exact ⟨u, rfl, owns_mono HX.out.1 (by simp), HB0.out.trans (HX.out.2.mono HB0.out.size)⟩

end Go.Proofs.YtnkpogjiiohapaaGreatDoor

/-! PDocD: Givers and Values, where a place has at most one value. -/
namespace Go.Proofs.YtnkpogjiiohapaaGreatDoor
open Go.RowKit

set_option maxRecDepth 1000000 in
set_option maxHeartbeats 800000 in
theorem givers_q {w : World} {d bo be : Nat} {os : List (PId × CQObj)} {els : List (PId × CQEl)} (h : isQ w d bo be os els) (o1 o2 e1 e2 : Int) (key : ByteArray) (hN : (atPl os els (o1, o2) key (e1, e2)).vs.length ≤ 1) :
    Calls Tryz.prog 92 #[.pointer (some ⟨d, 0, none⟩), .agg #[.int .i64 o1, .int .i64 o2, .string key, .int .i64 e1, .int .i64 e2]] w fun e w' => ∃ u, e = .returned u ∧ ownIds w.heap.size w' u ((atPl os els (o1, o2) key (e1, e2)).vs.map (·.1)) ∧ Below w.heap.size w w' := by
  have HB0 := hid ((Below.refl w.heap.size w).alloc (Nat.le_refl _) (.cells #[.int .i64 o1, .int .i64 o2, .string key, .int .i64 e1, .int .i64 e2] 97))
  have HA := hid (at_q (h.keep HB0.out) o1 o2 e1 e2 key)
  have HV := hid (fun W (hb : Below w.heap.size w W) => givers1 _ _ W ((h.at (o1, o2) key (e1, e2)).keep hb) hN)
  clear h hN
  generalize atPl os els (o1, o2) key (e1, e2) = A at *
  go_enter Tryz.func92, Tryz.ntmps92
  go_wp2_with fail
  refine HA.out.mono ?_
  rintro e w1 ⟨rfl, hb1⟩
  have HB1 := hid (HB0.out.trans (hb1.mono HB0.out.size)); clear hb1
  go_wp2_with fail
  refine (HV.out _ HB1.out).mono ?_
  rintro e w2 ⟨u, rfl, hu, hb2⟩
  have HX := hid (And.intro hu hb2); clear hu hb2
  go_wp2
  go_ret
  exact ⟨u, rfl, owns_mono HX.out.1 HB1.out.size, HB1.out.trans (HX.out.2.mono HB1.out.size)⟩

theorem zero_val (W : World) : (zeroValue 57).run Tryz.prog W = .ok (.agg #[.int .i64 0, .int .i64 0, .int .i64 0]) W := by kernel_rfl
theorem isVals.look {w : World} {v : Option Nat} {vs : List (PId × PVal)} (h : isVals w v vs) (x1 x2 : Int) : (Instr.lookup 159 (.map v) (.agg #[.int .i64 x1, .int .i64 x2]) false).run Tryz.prog w = .ok (valV ((lookI (x1, x2) vs).getD (0, (0, 0)))) w := by
  rcases h with ⟨rfl, rfl⟩ | ⟨b, es, clk, rfl, hm⟩
  · exact run_lookNil idKey Tryz.underlying159 (zero_val w) (x1, x2) false
  · have := run_lookI idKey hm Tryz.underlying159 (zero_val w) (x1, x2) false
    rw [show (Value.agg #[.int .i64 x1, .int .i64 x2]) = idV (x1, x2) from rfl, this]
    cases lookI (x1, x2) vs <;> rfl
theorem run_lenMap {w : World} {v : Option Nat} {vs : List (PId × PVal)} (h : isVals w v vs) {ty : TypeId} : (Builtin.len_ #[159] ty #[.map v]).run Tryz.prog w = .ok (.int .i64 vs.length) w := by
  unfold Builtin.len_
  rcases h with ⟨rfl, rfl⟩ | ⟨b, es, clk, rfl, hm⟩
  · simp [run_underlying Tryz.underlying159, goInt, Sem.run_bind]
  · simp [run_underlying Tryz.underlying159, goInt, Sem.run_bind, run_getMap hm.blk, hm.len]
theorem look_one {vs : List (PId × PVal)} (hN : vs.length ≤ 1) {k : Nat} (hk : k < vs.length) : lookI (vs[k].1) vs = some vs[k].2 := by
  match vs, hN, k, hk with
  | [p], _, 0, _ => simp [lookI]

set_option maxRecDepth 1000000 in
set_option maxHeartbeats 800000 in
theorem qvalues_q {w : World} {d bo be : Nat} {os : List (PId × CQObj)} {els : List (PId × CQEl)} (h : isQ w d bo be os els) (o1 o2 e1 e2 : Int) (key : ByteArray) (hN : (atPl os els (o1, o2) key (e1, e2)).vs.length ≤ 1) :
    Calls Tryz.prog 49 #[.pointer (some ⟨d, 0, none⟩), .agg #[.int .i64 o1, .int .i64 o2, .string key, .int .i64 e1, .int .i64 e2]] w fun e w' => ∃ u, e = .returned u ∧ ownVals w.heap.size w' u ((atPl os els (o1, o2) key (e1, e2)).vs.map (·.2)) ∧ Below w.heap.size w w' := by
  have HB0 := hid ((Below.refl w.heap.size w).alloc (Nat.le_refl _) (.cells #[.int .i64 o1, .int .i64 o2, .string key, .int .i64 e1, .int .i64 e2] 97))
  have HA := hid (at_q (h.keep HB0.out) o1 o2 e1 e2 key)
  have HV := hid (fun W (hb : Below w.heap.size w W) => (h.at (o1, o2) key (e1, e2)).keep hb)
  clear h
  generalize atPl os els (o1, o2) key (e1, e2) = A at *
  go_enter Tryz.func49, Tryz.ntmps49
  go_wp2_with fail
  refine HA.out.mono ?_
  rintro e w1 ⟨rfl, hb1⟩
  have HB1 := hid (HB0.out.trans (hb1.mono HB0.out.size)); clear hb1
  have hl := run_lenMap (HV.out _ HB1.out) (ty := 3)
  obtain ⟨i0, hi0, hz0, hz1, hz2⟩ := info_parts (P := Tryz.prog) (e := 57) (z := .agg #[.int .i64 0, .int .i64 0, .int .i64 0]) (size := 3) (bytes := 24) (by kernel_rfl)
  have hz := HB1.out.size
  go_wp2_with (first
    | (at_make; refine wpList_make_own _ rfl (.const (.int .i64 0)) (.tmp 13) 53 rfl w.heap.size 57 i0 (.agg #[.int .i64 0, .int .i64 0, .int .i64 0]) 3 Tryz.underlying53 hi0 hz0 hz1 _ _ _ A.vs.length rfl rfl ?h1 ?h2 ?h3 ?h4 ?_; (case h1 => rfl); (case h2 => rw [hz2]; omega); (case h3 => unfold maxLen; omega); (case h4 => exact hz); intro w2 hown2 hg2; have HO2 := hid hown2; clear hown2; have HG2 := hid hg2; clear hg2)
    | fail)
  have HB2 := hid (show Below w.heap.size w w2 from HB1.out.grown HG2.out hz (fun k hk => by cases hk))
  refine (givers1 _ _ w2 (HV.out _ HB2.out) hN).mono ?_
  rintro e w3 ⟨u, rfl, hu, hb3⟩
  have HB3 := hid (HB2.out.trans (hb3.mono HB2.out.size))
  have HO3 := hid (show ownVals w.heap.size w3 (.slice (some ⟨w1.heap.size, 0, none⟩) 0 A.vs.length) [] from owns_keep HO2.out hb3)
  obtain ⟨ua, uc, rfl, hul, hum, huf⟩ := owns_form hu
  rw [List.length_map] at hul huf
  unfold maxLen at hum
  have HU := hid hu; clear hu hb3
  have HUF := hid huf; clear huf
  have hz3 := HB3.out.size
  clear hl HG2 HO2
  rw [List.length_map]
  go_wp2
  go_loopw [6, 18] (fun tv i wr => ∃ k : Nat, k ≤ A.vs.length ∧ i = .int .i64 k ∧ ownVals w.heap.size wr tv ((A.vs.take k).map (·.2)) ∧ isIds wr (.slice ua A.vs.length uc) (A.vs.map (·.1)) ∧ Below w.heap.size w wr) (fun _ i _ => A.vs.length - (intOf i).toNat)
  case atStart => exact ⟨0, Nat.zero_le _, rfl, HO3.out, by have := HU.out.ids; rwa [List.length_map] at this, HB3.out⟩
  case round =>
    obtain ⟨k, hk, rfl, hown, hids, hbel⟩ := hrel
    by_cases hlt : k < A.vs.length
    · obtain ⟨g, rfl⟩ := HUF.out k hlt
      obtain ⟨c0, c1⟩ := isIds.cells hids (by simp) k (by simpa using hlt)
      simp only [List.getElem_map] at c0 c1
      have hgl : g < wr.heap.size := World.block_lt_of_cell? wr _ c0
      have hba := (Below.refl wr.heap.size wr).alloc (Nat.le_refl _) (.cells #[.int .i64 A.vs[k].1.1, .int .i64 A.vs[k].1.2] 36)
      have l1 := (HV.out _ (hbel.trans (hba.mono hbel.size))).look A.vs[k].1.1 A.vs[k].1.2
      have l2 := (HV.out _ (hbel.trans (hba.mono hbel.size)).drew).look A.vs[k].1.1 A.vs[k].1.2
      have hlk : lookI (A.vs[k].1.1, A.vs[k].1.2) A.vs = some A.vs[k].2 := look_one hN hlt
      rw [hlk] at l1 l2
      simp only [Option.getD_some, valV] at l1 l2
      have HO := hid hown; clear hown
      have HI := hid hids; clear hids
      have hbz := hbel.size
      have HBE := hid hbel; clear hbel hlk hba
      go_wp2_with (at_builtin; go_must (refine app_val rfl (.tmp 22) (.tmp 26) rfl w.heap.size _ ((A.vs.take k).map (·.2)) rfl ?h1 (wr.heap.size + 1) 1 A.vs[k].2 rfl ?h2 ?h4 ?h5 ?_; (case h1 => exact (HO.out.alloc _).alloc _); (case h2 => exact cells_val (by simp [go_sem]) (by simp [go_sem]) (by simp [go_sem])); (case h4 => simp; omega); (case h5 => simp; omega); intro v' w4 hown4 hg4; have HG := hid hg4; clear hg4; have HN4 := hid hown4; clear hown4))
      go_roundw
      case rel =>
        have hb4 : Below w.heap.size w w4 := ownVals.below ((HO.out.alloc _).alloc _) ((HBE.out.alloc hbz _).alloc (by simp; omega) _) (by simp; omega) HG.out
        refine ⟨k + 1, by omega, by go_num, by rw [take_map_succ _ hlt]; exact HN4.out, ?_, hb4⟩
        refine row_blk HI.out (fun g' hg' => ?_)
        obtain ⟨cs', hcs'⟩ := own_type HI.out hg'
        have hlt' := blk_lt hcs'
        rw [HG.out.block g' (by simp; omega) (fun e => by
          obtain ⟨c2, hc2⟩ := own_type ((HO.out.alloc (.cells #[.int .i64 A.vs[k].1.1, .int .i64 A.vs[k].1.2] 36)).alloc (.cells #[.int .i64 A.vs[k].2.1, .int .i64 A.vs[k].2.2.1, .int .i64 A.vs[k].2.2.2] 57)) e.symm
          exact absurd (cells_type (blk_alloc (blk_alloc hcs')) hc2) (by decide))]
        rw [alloc_old_r _ _ (by simp; omega), alloc_old_r _ _ hlt']
      case measure => simp [intOf]; omega
    · go_wp2
      go_ret
      rw [List.take_of_length_le (by omega)] at hown
      exact ⟨_, rfl, hown, hbel⟩

end Go.Proofs.YtnkpogjiiohapaaGreatDoor

/-! PDocE: Elements: the elements of a list that can be seen. -/
namespace Go.Proofs.YtnkpogjiiohapaaGreatDoor
open Go.RowKit

/-- A list's elements, one behind the other, from the first on. -/
def Chain (els : List (PId × CQEl)) : PId → List PId → Prop
  | x, [] => x = (0, 0)
  | x, y :: L => x = y ∧ y ≠ (0, 0) ∧ ∃ e, lookI y els = some e ∧ Chain els e.next L
def seenEl (els : List (PId × CQEl)) (y : PId) : Bool := match lookI y els with | some e => decide (0 < e.vs.length) | none => false

theorem Chain.unique {els : List (PId × CQEl)} : ∀ {x : PId} {R R' : List PId}, Chain els x R → Chain els x R' → R = R'
  | _, [], [], _, _ => rfl
  | _, [], y :: R', h, h' => absurd (h'.1.symm.trans h) h'.2.1
  | _, y :: R, [], h, h' => absurd (h.1.symm.trans h') h.2.1
  | x, y :: R, y' :: R', h, h' => by
    obtain ⟨h1, _, e, h2, h3⟩ := h
    obtain ⟨h1', _, e', h2', h3'⟩ := h'
    have hy : y = y' := h1.symm.trans h1'
    subst hy
    rw [h2] at h2'
    cases h2'
    rw [Chain.unique h3 h3']
/-- How many are left from an element on. -/
theorem rank_ex (els : List (PId × CQEl)) : ∃ rank : PId → Nat, ∀ x R, Chain els x R → rank x = R.length := by
  have h1 : ∀ x, ∃ n : Nat, ∀ R, Chain els x R → n = R.length := fun x => by
    by_cases h : ∃ R, Chain els x R
    · obtain ⟨R, h⟩ := h
      exact ⟨R.length, fun R' h' => by rw [Chain.unique h h']⟩
    · exact ⟨0, fun R' h' => absurd ⟨R', h'⟩ h⟩
  exact ⟨fun x => Classical.choose (h1 x), fun x => Classical.choose_spec (h1 x)⟩
/-- What a box of an Id holds. -/
def boxId (w : World) : Value → PId
  | .pointer (some a) => (intOf ((w.cell? ⟨a.block, 0, none⟩).getD undef), intOf ((w.cell? ⟨a.block, 1, none⟩).getD undef))
  | _ => (0, 0)
theorem boxId_of {w : World} {g : Nat} {x : PId} (h : w.heap[g]? = some (.cells #[.int .i64 x.1, .int .i64 x.2] 36 (0, 0))) : boxId w (.pointer (some ⟨g, 0, none⟩)) = x := by
  simp [boxId, World.cell?, h, intOf]

theorem field_first (a : Value) (m : Value) (f1 f2 : Int) (W : World) : (Instr.field 170 (.agg #[a, m, .int .i64 f1, .int .i64 f2]) 2).run Tryz.prog W = .ok (.agg #[.int .i64 f1, .int .i64 f2]) W := by kernel_rfl
theorem field_next (a b m : Value) (f1 f2 : Int) (W : World) : (Instr.field 176 (.agg #[a, b, .int .i64 f1, .int .i64 f2, m]) 1).run Tryz.prog W = .ok (.agg #[.int .i64 f1, .int .i64 f2]) W := by kernel_rfl

/-- Behind a round: the box holds the next one. -/
theorem box_set {w : World} {g : Nat} {y1 y2 n1 n2 : Int} (h : w.heap[g]? = some (.cells #[.int .i64 y1, .int .i64 y2] 36 (0, 0))) : ((w.setCell ⟨g, 0, none⟩ (.int .i64 n1)).setCell ⟨g, 1, none⟩ (.int .i64 n2)).drew.heap[g]? = some (.cells #[.int .i64 n1, .int .i64 n2] 36 (0, 0)) := by
  have hl := blk_lt h
  obtain ⟨_, he⟩ := Array.getElem?_eq_some_iff.1 h
  show ((w.setCell ⟨g, 0, none⟩ (.int .i64 n1)).setCell ⟨g, 1, none⟩ (.int .i64 n2)).heap[g]? = _
  simp [World.setCell, hl, Array.getElem_modify_self, he]
theorem chain_rel {w w3 : World} {els : List (PId × CQEl)} {L done rest : List PId} {y1 y2 n1 n2 : Int} {g : Nat} {v : Value} (hdr : done ++ (y1, y2) :: rest = L) (hg : w.heap.size ≤ g) (hx : w3.heap[g]? = some (.cells #[.int .i64 y1, .int .i64 y2] 36 (0, 0)))
    (hch : Chain els (n1, n2) rest) (hown : ownIds w.heap.size w3 v ((done ++ [(y1, y2)]).filter (seenEl els))) (hne : v.ownBlock ≠ some g) (hb : Below w.heap.size w w3) :
    ∃ done rest y gb, done ++ rest = L ∧ Value.pointer (some ⟨g, 0, none⟩) = Value.pointer (some ⟨gb, 0, none⟩) ∧ w.heap.size ≤ gb ∧ ((w3.setCell ⟨g, 0, none⟩ (.int .i64 n1)).setCell ⟨g, 1, none⟩ (.int .i64 n2)).drew.heap[gb]? = some (.cells #[.int .i64 y.1, .int .i64 y.2] 36 (0, 0)) ∧
      Chain els y rest ∧ ownIds w.heap.size ((w3.setCell ⟨g, 0, none⟩ (.int .i64 n1)).setCell ⟨g, 1, none⟩ (.int .i64 n2)).drew v (done.filter (seenEl els)) ∧ v.ownBlock ≠ some gb ∧ Below w.heap.size w ((w3.setCell ⟨g, 0, none⟩ (.int .i64 n1)).setCell ⟨g, 1, none⟩ (.int .i64 n2)).drew :=
  ⟨done ++ [(y1, y2)], rest, (n1, n2), g, by simpa using hdr, rfl, hg, box_set hx, hch, World.ownsRow.drew (row_other (row_other hown hne _) hne _), hne, ((hb.setCell hg _).setCell hg _).drew⟩
theorem chain_less {wr w3 : World} {els : List (PId × CQEl)} {rank : PId → Nat} (hrk : ∀ x R, Chain els x R → rank x = R.length) {rest : List PId} {y1 y2 n1 n2 : Int} {g gb : Nat} {e : CQEl} (hel : lookI (y1, y2) els = some e) (hn : e.next = (n1, n2)) (h0 : (y1, y2) ≠ ((0 : Int), (0 : Int))) (hch : Chain els (n1, n2) rest)
    (hgb : wr.heap[gb]? = some (.cells #[.int .i64 y1, .int .i64 y2] 36 (0, 0))) (hx : w3.heap[g]? = some (.cells #[.int .i64 y1, .int .i64 y2] 36 (0, 0))) :
    rank (boxId ((w3.setCell ⟨g, 0, none⟩ (.int .i64 n1)).setCell ⟨g, 1, none⟩ (.int .i64 n2)).drew (.pointer (some ⟨g, 0, none⟩))) < rank (boxId wr (.pointer (some ⟨gb, 0, none⟩))) := by
  rw [boxId_of (x := (n1, n2)) (box_set hx), boxId_of (x := (y1, y2)) hgb, hrk _ _ hch]
  have : Chain els (y1, y2) ((y1, y2) :: rest) := ⟨rfl, h0, e, hel, by rw [hn]; exact hch⟩
  rw [hrk _ _ this]
  simp

set_option maxRecDepth 1000000 in
set_option maxHeartbeats 800000 in
theorem elements_none {w : World} {d bo be : Nat} {os : List (PId × CQObj)} {els : List (PId × CQEl)} (h : isQ w d bo be os els) (x1 x2 : Int) (hl : qlist (x1, x2) os = false) :
    Calls Tryz.prog 57 #[.pointer (some ⟨d, 0, none⟩), .agg #[.int .i64 x1, .int .i64 x2]] w fun e w' => e = .returned (.slice none 0 0) ∧ Below w.heap.size w w' := by
  have HB0 := hid ((Below.refl w.heap.size w).alloc (Nat.le_refl _) (.cells #[.int .i64 x1, .int .i64 x2] 36))
  have HL := hid (isList_q (h.keep HB0.out) x1 x2)
  rw [hl] at HL
  clear h hl
  go_enter Tryz.func57, Tryz.ntmps57
  go_wp2_with fail
  refine HL.out.mono ?_
  rintro e w1 ⟨rfl, hb1⟩
  have HB1 := hid (HB0.out.trans (hb1.mono HB0.out.size)); clear hb1
  go_wp2
  go_ret
  exact ⟨rfl, HB1.out⟩

set_option maxRecDepth 1000000 in
set_option maxHeartbeats 800000 in
theorem elements_q {w : World} {d bo be : Nat} {os : List (PId × CQObj)} {els : List (PId × CQEl)} (h : isQ w d bo be os els) (x1 x2 : Int) {ob : CQObj} (hob : lookI (x1, x2) os = some ob) (hl : ob.list = true) {L : List PId} (hch : Chain els ob.first L) (hL : L.length ≤ 10000) :
    Calls Tryz.prog 57 #[.pointer (some ⟨d, 0, none⟩), .agg #[.int .i64 x1, .int .i64 x2]] w fun e w' => ∃ u, e = .returned u ∧ ownIds w.heap.size w' u (L.filter (seenEl els)) ∧ Below w.heap.size w w' := by
  have HB0 := hid ((Below.refl w.heap.size w).alloc (Nat.le_refl _) (.cells #[.int .i64 x1, .int .i64 x2] 36))
  have HL := hid (isList_q (h.keep HB0.out) x1 x2)
  have hq : qlist (x1, x2) os = true := by unfold qlist; rw [hob]; exact hl
  rw [hq] at HL
  have HLO := hid (fun W (hb : Below w.heap.size w W) => (h.keep hb).lookO x1 x2 false)
  rw [hob] at HLO
  have HC := hid (fun W (hb : Below w.heap.size w W) => (h.keep hb).c0)
  obtain ⟨rank, hrank⟩ := rank_ex els
  have HRK := hid hrank; clear hrank
  obtain ⟨ol, okv, oks, ⟨f1, f2⟩⟩ := ob
  simp only at hl hch
  have HCH := hid hch; clear hch hob hq hl
  simp only [Option.map_some, Option.getD_some, Bool.false_eq_true, if_false, qobjV] at HLO
  have HH := hid h; clear h
  go_enter Tryz.func57, Tryz.ntmps57
  go_wp2_with fail
  refine HL.out.mono ?_
  rintro e w1 ⟨rfl, hb1⟩
  have b0 := keep (a := ⟨w.heap.size, 0, none⟩) (v := .int .i64 x1) hb1 (by simp [go_sem])
  have b1 := keep (a := ⟨w.heap.size, 1, none⟩) (v := .int .i64 x2) hb1 (by simp [go_sem])
  have HB1 := hid (HB0.out.trans (hb1.mono HB0.out.size)); clear hb1
  have c0 := HC.out _ HB1.out
  have l1 := HLO.out _ HB1.out
  have l2 := HLO.out _ HB1.out.drew
  have l3 := HLO.out _ (HB1.out.alloc HB1.out.size (.cells #[.int .i64 0, .int .i64 0] 36)).drew
  have ff := field_first
  have hz1 := HB1.out.size
  have hdl := (HH.out.keep HB1.out).lt
  have hwl : w.heap.size < w1.heap.size := World.block_lt_of_cell? w1 _ b0
  go_wp2
  go_cut [6] (fun p wc => p = .pointer (some ⟨w1.heap.size, 0, none⟩) ∧ wc = (w1.alloc (.cells #[.int .i64 f1, .int .i64 f2] 36)).drew)
  case first =>
    go_region
    all_goals (go_wp2_with fail; go_meet)
    all_goals exact ⟨rfl, rfl⟩
  case rest =>
    obtain ⟨rfl, hwc⟩ := hcut
    have HBC := hid (show Below w.heap.size w wc by rw [hwc]; exact (HB1.out.alloc hz1 _).drew)
    have HBX := hid (show wc.heap[w1.heap.size]? = some (.cells #[.int .i64 f1, .int .i64 f2] 36 (0, 0)) by rw [hwc]; exact blk_new w1 _)
    clear hwc b0 b1 c0 l1 l2 l3 ff
    go_wp2
    go_loopw [5, 6] (fun u p wr => ∃ done rest y gb, done ++ rest = L ∧ p = .pointer (some ⟨gb, 0, none⟩) ∧ w.heap.size ≤ gb ∧ wr.heap[gb]? = some (.cells #[.int .i64 y.1, .int .i64 y.2] 36 (0, 0)) ∧ Chain els y rest ∧ ownIds w.heap.size wr u (done.filter (seenEl els)) ∧ u.ownBlock ≠ some gb ∧ Below w.heap.size w wr) (fun _ p wr => rank (boxId wr p))
    case atStart => exact ⟨[], L, (f1, f2), w1.heap.size, rfl, rfl, hz1, HBX.out, HCH.out, World.ownsRow_nil _ _ _ _, by simp [Value.ownBlock], HBC.out⟩
    case round =>
      obtain ⟨done, rest, ⟨y1, y2⟩, gb, hdr, rfl, hgw, hgb, hchr, hown, hne, hbel⟩ := hrel
      simp only at hgb
      have HG := hid hgb; clear hgb
      have c0 := (blk2 HG.out).1
      have c1 := (blk2 HG.out).2
      have hgl := blk_lt HG.out
      have heq := run_idNe
      have HO := hid hown; clear hown
      cases rest with
      | nil =>
        have hy : (y1, y2) = ((0 : Int), (0 : Int)) := hchr
        injection hy with hy1 hy2
        subst hy1; subst hy2
        go_wp2
        go_ret
        have hd : done = L := by simpa using hdr
        exact ⟨_, rfl, by rw [← hd]; exact HO.out, hbel⟩
      | cons x rest =>
        obtain ⟨hx, hx0, el, hel, hnx⟩ := hchr
        subst hx
        obtain ⟨q, ⟨n1, n2⟩, ev, evs⟩ := el
        simp only at hnx
        have hid0 : idEq y1 y2 0 0 = false := by rw [idEq_false]; exact hx0
        have c1' := (HH.out.keep hbel).c1
        have hl1 := (HH.out.keep hbel.drew).lookE y1 y2 false
        rw [hel] at hl1
        simp only [Option.map_some, Option.getD_some, Bool.false_eq_true, if_false, qelV] at hl1
        have hln := run_lenMap ((HH.out.hv _ (look_mem hel)).keep hbel.drew) (ty := 3)
        simp only at hln
        have fe := field_el
        have fn := field_next
        have hseen : seenEl els (y1, y2) = decide (0 < evs.length) := by unfold seenEl; rw [hel]
        have HSE := hid hseen; clear hseen
        have HNX := hid hnx; clear hnx
        have HEL := hid hel; clear hel
        have HBE := hid hbel; clear hbel
        have hbz := HBE.out.size
        have hdl2 := (HH.out.keep HBE.out).lt
        by_cases hs : 0 < evs.length
        · go_wp2
          go_region
          obtain ⟨wd, hwd⟩ : ∃ wd, wd = wr.drew := ⟨_, rfl⟩
          rw [← hwd]
          have HGD := hid (show wd.heap[gb]? = some (.cells #[.int .i64 y1, .int .i64 y2] 36 (0, 0)) by rw [hwd]; exact HG.out)
          have HOD := hid (show ownIds w.heap.size wd u5 (done.filter (seenEl els)) by rw [hwd]; exact World.ownsRow.drew HO.out)
          have HBD := hid (show Below w.heap.size w wd by rw [hwd]; exact HBE.out.drew)
          have hlenD : (done.filter (seenEl els)).length ≤ 10000 := by
            have h1 := List.length_filter_le (seenEl els) done
            have h2 : done.length ≤ L.length := by rw [← hdr, List.length_append]; omega
            omega
          clear hwd hl1 hln c1'
          replace c0 := (blk2 HGD.out).1
          replace c1 := (blk2 HGD.out).2
          have hgl := blk_lt HGD.out
          have hbzd := HBD.out.size
          go_wp2_with (at_builtin; go_must (refine app_id rfl (.tmp 37) (.tmp 39) rfl w.heap.size _ (done.filter (seenEl els)) rfl ?h1 wd.heap.size 1 y1 y2 rfl ?h2 ?h3 ?h4 ?h5 ?_; (case h1 => exact HOD.out.alloc _); (case h2 => simp [go_sem]); (case h3 => simp [go_sem]); (case h4 => omega); (case h5 => simp; omega); intro v' w2 hown2 hg2; have HG2 := hid (show w2.heap[gb]? = some (.cells #[.int .i64 y1, .int .i64 y2] 36 (0, 0)) from (hg2.block gb (by simp; omega) (fun e => hne e.symm)).trans (blk_alloc HGD.out)); have HB2 := hid (ownIds.below (HOD.out.alloc _) (HBD.out.alloc hbzd _) (by simp; omega) hg2); clear hg2; have HN2 := hid hown2; clear hown2; have a0 := (blk2 HG2.out).1; have a1 := (blk2 HG2.out).2; have ac := (HH.out.keep HB2.out).c1))
          obtain ⟨w3, hw3⟩ : ∃ w3, w3 = w2.alloc (.cells #[.int .i64 y1, .int .i64 y2] 36) := ⟨_, rfl⟩
          rw [← hw3]
          have HB3 := hid (show Below w.heap.size w w3 by rw [hw3]; exact HB2.out.alloc HB2.out.size _)
          have HX3 := hid (show w3.heap[w2.heap.size]? = some (.cells #[.int .i64 y1, .int .i64 y2] 36 (0, 0)) by rw [hw3]; exact blk_new w2 _)
          have HN3 := hid (show ownIds w.heap.size w3 v' (done.filter (seenEl els) ++ [(y1, y2)]) by rw [hw3]; exact HN2.out.alloc _)
          have HNE := hid (show v'.ownBlock ≠ some w2.heap.size from fun e => by have := (World.ownsRow.lt HN2.out _ e).2; omega)
          have s0 := (blk2 HX3.out).1
          have s1 := (blk2 HX3.out).2
          have sf := blk_fz HX3.out
          have sc := (HH.out.keep HB3.out).c1
          have sl := (HH.out.keep HB3.out.drew).lookE y1 y2 false
          rw [HEL.out] at sl
          simp only [Option.map_some, Option.getD_some, Bool.false_eq_true, if_false, qelV] at sl
          have hzz := HB2.out.size
          clear hw3 a0 a1 ac c0 c1
          go_region
          all_goals (try go_wp2)
          all_goals go_roundw
          all_goals first
            | exact chain_rel hdr hzz HX3.out HNX.out (by rw [List.filter_append, show [(y1, y2)].filter (seenEl els) = [(y1, y2)] by simp [HSE.out, hs]]; exact HN3.out) HNE.out HB3.out
            | exact chain_less HRK.out HEL.out rfl hx0 HNX.out HG.out HX3.out
        · go_wp2
          go_region
          obtain ⟨wd, hwd⟩ : ∃ wd, wd = wr.drew := ⟨_, rfl⟩
          rw [← hwd]
          have HGD := hid (show wd.heap[gb]? = some (.cells #[.int .i64 y1, .int .i64 y2] 36 (0, 0)) by rw [hwd]; exact HG.out)
          have HOD := hid (show ownIds w.heap.size wd u5 (done.filter (seenEl els)) by rw [hwd]; exact World.ownsRow.drew HO.out)
          have HBD := hid (show Below w.heap.size w wd by rw [hwd]; exact HBE.out.drew)
          clear hwd hl1 hln c1'
          replace c0 := (blk2 HGD.out).1
          replace c1 := (blk2 HGD.out).2
          have hgl := blk_lt HGD.out
          have hbzd := HBD.out.size
          go_wp2
          obtain ⟨w3, hw3⟩ : ∃ w3, w3 = wd.alloc (.cells #[.int .i64 y1, .int .i64 y2] 36) := ⟨_, rfl⟩
          rw [← hw3]
          have HB3 := hid (show Below w.heap.size w w3 by rw [hw3]; exact HBD.out.alloc hbzd _)
          have HX3 := hid (show w3.heap[wd.heap.size]? = some (.cells #[.int .i64 y1, .int .i64 y2] 36 (0, 0)) by rw [hw3]; exact blk_new wd _)
          have HN3 := hid (show ownIds w.heap.size w3 u5 (done.filter (seenEl els)) by rw [hw3]; exact HOD.out.alloc _)
          have HNE := hid (show u5.ownBlock ≠ some wd.heap.size from fun e => by have := (World.ownsRow.lt HOD.out _ e).2; omega)
          have s0 := (blk2 HX3.out).1
          have s1 := (blk2 HX3.out).2
          have sf := blk_fz HX3.out
          have sc := (HH.out.keep HB3.out).c1
          have sl := (HH.out.keep HB3.out.drew).lookE y1 y2 false
          rw [HEL.out] at sl
          simp only [Option.map_some, Option.getD_some, Bool.false_eq_true, if_false, qelV] at sl
          clear hw3 c0 c1
          go_region
          all_goals (try go_wp2)
          all_goals go_roundw
          all_goals first
            | exact chain_rel hdr hbzd HX3.out HNX.out (by rw [List.filter_append, show [(y1, y2)].filter (seenEl els) = [] by simp [HSE.out, hs], List.append_nil]; exact HN3.out) HNE.out HB3.out
            | exact chain_less HRK.out HEL.out rfl hx0 HNX.out HG.out HX3.out

end Go.Proofs.YtnkpogjiiohapaaGreatDoor

/-! PDoA: What is written in the program's document: stores into its two maps; Make's do. -/
namespace Go.Proofs.YtnkpogjiiohapaaGreatDoor
open Go.RowKit

/-- The document's two maps lie apart from each other and from all that they lead to (which lies in R). -/
structure QOwn (bo be : Nat) (R : Nat → Prop) (os : List (PId × CQObj)) (els : List (PId × CQEl)) : Prop where
  ne : bo ≠ be
  ro : ¬ R bo
  re : ¬ R be
  kv : ∀ p ∈ os, ∀ b, p.2.kv = some b → R b
  kk : ∀ p ∈ os, ∀ k ∈ p.2.ks, ∀ b, k.2.v = some b → R b
  vals : ∀ p ∈ els, ∀ b, p.2.v = some b → R b
theorem QOwn.mono {bo be : Nat} {R R' : Nat → Prop} {os : List (PId × CQObj)} {els : List (PId × CQEl)} (h : QOwn bo be R os els) (hr : ∀ k, R k → R' k) (h1 : ¬ R' bo) (h2 : ¬ R' be) : QOwn bo be R' os els :=
  ⟨h.ne, h1, h2, fun p hp b hb => hr b (h.kv p hp b hb), fun p hp k hk b hb => hr b (h.kk p hp k hk b hb), fun p hp b hb => hr b (h.vals p hp b hb)⟩

/-- Blocks outside S have not turned. -/
structure Turned (S : Nat → Prop) (w w' : World) : Prop where
  os : w'.os = w.os
  tape : w'.tape = w.tape
  output : w'.output = w.output
  size : w.heap.size ≤ w'.heap.size
  other : ∀ k, k < w.heap.size → ¬ S k → w'.heap[k]? = w.heap[k]?
theorem Turned.of_below {S : Nat → Prop} {w w' : World} (h : Below w.heap.size w w') : Turned S w w' := ⟨h.os, h.tape, h.output, h.size, fun k hk _ => h.block k hk⟩
theorem Turned.trans {S : Nat → Prop} {a b c : World} (h : Turned S a b) (k : Turned S b c) : Turned S a c :=
  ⟨k.os.trans h.os, k.tape.trans h.tape, k.output.trans h.output, Nat.le_trans h.size k.size, fun i hi hs => by rw [k.other i (Nat.lt_of_lt_of_le hi h.size) hs, h.other i hi hs]⟩
theorem Turned.mono {S S' : Nat → Prop} {w w' : World} (h : Turned S w w') (hs : ∀ k, S k → S' k) : Turned S' w w' := ⟨h.os, h.tape, h.output, h.size, fun k hk hn => h.other k hk (fun h' => hn (hs k h'))⟩
theorem Turned.put {S : Nat → Prop} {w : World} {b : Nat} (o : Obj) (hb : S b) : Turned S w (putObj w b o) :=
  ⟨rfl, rfl, rfl, by simp [putObj], fun k _ hn => putObj_other (fun e => hn (e ▸ hb))⟩

section
theorem isMap.blockK {κ ν : Type} {encK : κ → Value} {encV : ν → Value} {w w' : World} {b : Nat} {m : List (κ × ν)} {es : Array MapEntry} {clk : Nat} (h : isMap encK encV w b m es clk) (hb : w'.heap[b]? = w.heap[b]?) : isMap encK encV w' b m es clk := ⟨by rw [hb]; exact h.blk, h.ents, h.nodup, h.old⟩
end
theorem isVals.blockK {w w' : World} {v : Option Nat} {vs : List (PId × PVal)} (h : isVals w v vs) (hb : ∀ b, v = some b → w'.heap[b]? = w.heap[b]?) : isVals w' v vs :=
  h.imp id fun ⟨b, es, clk, e, hm⟩ => ⟨b, es, clk, e, hm.blockK (hb b e)⟩
theorem isKeys.blockK {w w' : World} {v : Option Nat} {ks : List (ByteArray × CKey)} (h : isKeys w v ks) (hb : ∀ b, v = some b → w'.heap[b]? = w.heap[b]?) (hk : ∀ k ∈ ks, ∀ b, k.2.v = some b → w'.heap[b]? = w.heap[b]?) : isKeys w' v ks :=
  ⟨h.1.imp id fun ⟨b, es, clk, e, hm⟩ => ⟨b, es, clk, e, hm.blockK (hb b e)⟩, fun p hp => (h.2 p hp).blockK (hk p hp)⟩

theorem put_mem {κ ν : Type} [DecidableEq κ] {x : κ} {v : ν} : ∀ {m : List (κ × ν)} {p : κ × ν}, p ∈ putI x v m → p ∈ m ∨ p = (x, v)
  | [], p, h => by simp [putI] at h; exact .inr h
  | q :: m, p, h => by
    unfold putI at h
    split at h
    · rcases List.mem_cons.1 h with h | h
      · exact .inr h
      · exact .inl (List.mem_cons_of_mem _ h)
    · rcases List.mem_cons.1 h with h | h
      · exact .inl (h ▸ List.mem_cons_self)
      · rcases put_mem h with h | h
        · exact .inl (List.mem_cons_of_mem _ h)
        · exact .inr h

section
/-- AN OBJECT IS STORED. -/
theorem isQ.putO {w : World} {d bo be : Nat} {R : Nat → Prop} {os : List (PId × CQObj)} {els : List (PId × CQEl)} (h : isQ w d bo be os els) (ho : QOwn bo be R os els) (x : PId) (o : CQObj) (hk : isKeys w o.kv o.ks) (hkv : ∀ b, o.kv = some b → R b) (hkk : ∀ k ∈ o.ks, ∀ b, k.2.v = some b → R b) :
    ∃ es' clk', (Instr.mapUpdate 171 (.map (some bo)) (idV x) (qobjV o)).run Tryz.prog w = .ok () (putObj w bo (.map es' clk')) ∧ isQ (putObj w bo (.map es' clk')) d bo be (putI x o os) els ∧ QOwn bo be R (putI x o os) els := by
  obtain ⟨es, clk, hmo⟩ := h.ho
  obtain ⟨es2, clk2, hme⟩ := h.he
  obtain ⟨es', clk', hrun, hm'⟩ := run_putI idKey hmo Tryz.underlying171 x o
  have hoth : ∀ k, k ≠ bo → (putObj w bo (.map es' clk')).heap[k]? = w.heap[k]? := fun k hk => putObj_other hk
  have hR : ∀ k, R k → (putObj w bo (.map es' clk')).heap[k]? = w.heap[k]? := fun k hk => hoth k (fun e => ho.ro (e ▸ hk))
  refine ⟨es', clk', hrun, ⟨?_, ⟨es', clk', hm'⟩, ⟨es2, clk2, hme.blockK (hoth be (Ne.symm ho.ne))⟩, ?_, ?_⟩, ⟨ho.ne, ho.ro, ho.re, ?_, ?_, ho.vals⟩⟩
  · rw [hoth d (fun e => by subst e; have h1 := h.hd; rw [hmo.blk] at h1; cases h1)]; exact h.hd
  · intro p hp
    rcases put_mem hp with hp | rfl
    · exact (h.hk p hp).blockK (fun b hb => hR b (ho.kv p hp b hb)) (fun k hk b hb => hR b (ho.kk p hp k hk b hb))
    · exact hk.blockK (fun b hb => hR b (hkv b hb)) (fun k hk' b hb => hR b (hkk k hk' b hb))
  · intro p hp
    exact (h.hv p hp).blockK (fun b hb => hR b (ho.vals p hp b hb))
  · intro p hp b hb
    rcases put_mem hp with hp | rfl
    · exact ho.kv p hp b hb
    · exact hkv b hb
  · intro p hp k hk' b hb
    rcases put_mem hp with hp | rfl
    · exact ho.kk p hp k hk' b hb
    · exact hkk k hk' b hb
/-- AN ELEMENT IS STORED. -/
theorem isQ.putE {w : World} {d bo be : Nat} {R : Nat → Prop} {os : List (PId × CQObj)} {els : List (PId × CQEl)} (h : isQ w d bo be os els) (ho : QOwn bo be R os els) (x : PId) (e : CQEl) (hv : isVals w e.v e.vs) (hev : ∀ b, e.v = some b → R b) :
    ∃ es' clk', (Instr.mapUpdate 172 (.map (some be)) (idV x) (qelV e)).run Tryz.prog w = .ok () (putObj w be (.map es' clk')) ∧ isQ (putObj w be (.map es' clk')) d bo be os (putI x e els) ∧ QOwn bo be R os (putI x e els) := by
  obtain ⟨es, clk, hmo⟩ := h.ho
  obtain ⟨es2, clk2, hme⟩ := h.he
  obtain ⟨es', clk', hrun, hm'⟩ := run_putI idKey hme Tryz.underlying172 x e
  have hoth : ∀ k, k ≠ be → (putObj w be (.map es' clk')).heap[k]? = w.heap[k]? := fun k hk => putObj_other hk
  have hR : ∀ k, R k → (putObj w be (.map es' clk')).heap[k]? = w.heap[k]? := fun k hk => hoth k (fun e => ho.re (e ▸ hk))
  refine ⟨es', clk', hrun, ⟨?_, ⟨es, clk, hmo.blockK (hoth bo ho.ne)⟩, ⟨es', clk', hm'⟩, ?_, ?_⟩, ⟨ho.ne, ho.ro, ho.re, ho.kv, ho.kk, ?_⟩⟩
  · rw [hoth d (fun e => by subst e; have h1 := h.hd; rw [hme.blk] at h1; cases h1)]; exact h.hd
  · intro p hp
    exact (h.hk p hp).blockK (fun b hb => hR b (ho.kv p hp b hb)) (fun k hk b hb => hR b (ho.kk p hp k hk b hb))
  · intro p hp
    rcases put_mem hp with hp | rfl
    · exact (h.hv p hp).blockK (fun b hb => hR b (ho.vals p hp b hb))
    · exact hv.blockK (fun b hb => hR b (hev b hb))
  · intro p hp b hb
    rcases put_mem hp with hp | rfl
    · exact ho.vals p hp b hb
    · exact hev b hb
end

set_option maxRecDepth 1000000 in
set_option maxHeartbeats 800000 in
theorem make_do {w : World} {d bo be : Nat} {R : Nat → Prop} {os : List (PId × CQObj)} {els : List (PId × CQEl)} (h : isQ w d bo be os els) (ho : QOwn bo be R os els) (lst : Bool) (x1 x2 : Int) :
    Calls Tryz.prog 305 #[.agg #[.bool lst], .pointer (some ⟨d, 0, none⟩), .agg #[.int .i64 x1, .int .i64 x2]] w fun e w' => (∃ r, e = .returned r) ∧ isQ w' d bo be (putI (x1, x2) ⟨lst, none, [], (0, 0)⟩ os) els ∧ QOwn bo be R (putI (x1, x2) ⟨lst, none, [], (0, 0)⟩ os) els ∧ Turned (fun k => k = bo) w w' := by
  have hb : Below w.heap.size w ((w.alloc (.cells #[.bool lst] 197)).alloc (.cells #[.int .i64 x1, .int .i64 x2] 36)).drew := (((Below.refl _ w).alloc (Nat.le_refl _) _).alloc (by simp) _).drew
  have c0 := h.c0
  have hd := h.lt
  obtain ⟨es', clk', hrun, hq, hown⟩ := (h.keep hb).putO ho (x1, x2) ⟨lst, none, [], (0, 0)⟩ ⟨.inl ⟨rfl, rfl⟩, fun p hp => by cases hp⟩ (fun b hb => by cases hb) (fun k hk => by cases hk)
  simp only [idV, qobjV] at hrun
  have HX := hid (And.intro hq (And.intro hown ((Turned.of_below hb).trans (Turned.put (S := fun k => k = bo) (.map es' clk') rfl))))
  clear h ho hq hown hb
  go_enter Tryz.func305, Tryz.ntmps305
  go_wp2
  go_region
  all_goals (try go_wp2)
  all_goals go_end0
  all_goals exact ⟨⟨_, rfl⟩, HX.out.1, HX.out.2.1, HX.out.2.2⟩

end Go.Proofs.YtnkpogjiiohapaaGreatDoor
