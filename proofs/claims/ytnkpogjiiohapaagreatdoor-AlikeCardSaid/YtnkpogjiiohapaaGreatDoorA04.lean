/- Our own text (PSeqC, RefZ, RefAdd, RefWrote, PDocB, PDocC, PSeqD, RefNew, PDocD). -/
import Derived.LoopN
import Derived.Deep.DeepCutAuto
import Derived.Test.YtnkpogjiiohapaaGreatDoorA03
import Derived.Test.YtnkpogjiiohapaaGreatDoorA02
set_option linter.unusedSimpArgs false
set_option linter.unusedVariables false

/-! PSeqC: slices.SortFunc on at most one Id; slices.Collect, slices.SortedFunc, givers where a place has at most one value. -/
namespace Go.Proofs.YtnkpogjiiohapaaGreatDoor
open Go.RowKit

set_option maxRecDepth 1000000 in
set_option maxHeartbeats 400000 in
theorem bitsLen1 (k : Nat) (hk : k ≤ 1) (w : World) : Calls Tryz.prog 182 #[.int .u64 k] w fun e w' => (∃ m, e = .returned (.int .i64 m)) ∧ w' = w := by
  have : k = 0 ∨ k = 1 := by omega
  rcases this with rfl | rfl
  all_goals go_enter Tryz.func182, Tryz.ntmps182
  all_goals go_wp2
  all_goals go_ret
  all_goals exact ⟨⟨_, rfl⟩, rfl⟩

set_option maxRecDepth 1000000 in
set_option maxHeartbeats 400000 in
theorem insertion1 (a : Option Addr) (k c : Nat) (f : Value) (hk : k ≤ 1) (w : World) : Calls Tryz.prog 196 #[.slice a k c, .int .i64 0, .int .i64 k, f] w fun e w' => e = .returned (.tuple #[]) ∧ Below w.heap.size w w' := by
  have : k = 0 ∨ k = 1 := by omega
  clear hk
  rcases this with rfl | rfl
  all_goals go_enter Tryz.func196, Tryz.ntmps196
  all_goals go_wp2
  all_goals refine wp_loop_rounds 1 ?_
  all_goals rw [rounds_succ]
  all_goals go_wp2
  all_goals go_end0
  all_goals exact ⟨rfl, Below.refl _ _⟩

set_option maxRecDepth 1000000 in
set_option maxHeartbeats 400000 in
theorem pdq1 (a : Option Addr) (k c : Nat) (lim : Int) (f : Value) (hk : k ≤ 1) (w : World) : Calls Tryz.prog 181 #[.slice a k c, .int .i64 0, .int .i64 k, .int .i64 lim, f] w fun e w' => e = .returned (.tuple #[]) ∧ Below w.heap.size w w' := by
  have HI := hid (insertion1 a k c f hk w)
  have : k = 0 ∨ k = 1 := by omega
  clear hk
  rcases this with rfl | rfl
  all_goals go_enter Tryz.func181, Tryz.ntmps181
  all_goals go_wp2_with fail
  all_goals refine wp_loop_rounds 1 ?_
  all_goals rw [rounds_succ]
  all_goals go_wp2_with fail
  all_goals refine HI.out.mono ?_
  all_goals rintro e w1 ⟨rfl, hb⟩
  all_goals go_wp2
  all_goals exact bodyPost_ret (v := .tuple #[]) (by simp [results, Tryz.results181, go_sem]) rfl ⟨rfl, hb⟩

set_option maxRecDepth 1000000 in
set_option maxHeartbeats 400000 in
theorem sortFunc1 (a : Option Addr) (k c : Nat) (f : Value) (hk : k ≤ 1) (w : World) : Calls Tryz.prog 163 #[.slice a k c, f] w fun e w' => e = .returned (.tuple #[]) ∧ Below w.heap.size w w' := by
  have HL := hid (bitsLen1 k hk w)
  have HP := hid (fun lim => pdq1 a k c lim f hk w)
  have : k = 0 ∨ k = 1 := by omega
  clear hk
  rcases this with rfl | rfl
  all_goals go_enter Tryz.func163, Tryz.ntmps163
  all_goals go_wp2_with fail
  all_goals refine HL.out.mono ?_
  all_goals rintro e w1 ⟨⟨lim, rfl⟩, rfl⟩
  all_goals go_wp2_with fail
  all_goals refine (HP.out lim).mono ?_
  all_goals rintro e w2 ⟨rfl, hb⟩
  all_goals go_wp2
  all_goals go_end0
  all_goals exact ⟨rfl, hb⟩

end Go.Proofs.YtnkpogjiiohapaaGreatDoor

/-! RefZ: The reference's add: one operation more of a copy. What it leaves of the room; its walk up to the append. -/
namespace Go.Proofs.YtnkpogjiiohapaaGreatDoor
open Go.RowKit

def upd {α : Type} (f : Nat → α) (c : Nat) (x : α) : Nat → α := fun i => if i = c then x else f i
theorem upd_same {α : Type} (f : Nat → α) (c : Nat) (x : α) : upd f c x c = x := by simp [upd]
theorem upd_ne {α : Type} (f : Nat → α) {c i : Nat} (x : α) (h : i ≠ c) : upd f c x i = f i := by simp [upd, h]
end Go.Proofs.YtnkpogjiiohapaaGreatDoor

/-! RefAdd: The contract of the reference's add. -/
namespace Go.Proofs.YtnkpogjiiohapaaGreatDoor
open Go.RowKit

theorem row_other {w : World} {base : Nat} {e : TypeId} {size : Nat} {v : Value} {n : Nat} {xs : List Value} (h : w.ownsRow base e size v n xs) {g o : Nat} (hg : v.ownBlock ≠ some g) (u : Value) : (w.setCell ⟨g, o, none⟩ u).ownsRow base e size v n xs := by
  refine ⟨h.1, ?_⟩
  rcases h.2 with hn | ⟨g', cap, cur, rfl, hb, hgg, rest⟩
  · exact .inl hn
  · exact .inr ⟨g', cap, cur, rfl, hb, by rw [Below.heap_setCell _ _ _ _ (by intro e; exact hg (congrArg some e))]; exact hgg, rest⟩
section
end

section
end

end Go.Proofs.YtnkpogjiiohapaaGreatDoor

/-! RefWrote: What several written operations leave of the room; the greatest counter by the sorted list. -/
namespace Go.Proofs.YtnkpogjiiohapaaGreatDoor
open Go.RowKit

/-- The greatest counter of some operations. -/
def topP (S : List POp) : Int := S.foldl (fun m p => if m < p.id.1 then p.id.1 else m) 0
theorem topP_spec (S : List POp) : 0 ≤ topP S ∧ (∀ p ∈ S, p.id.1 ≤ topP S) ∧ (topP S = 0 ∨ ∃ p ∈ S, p.id.1 = topP S) := by
  have key : ∀ (S : List POp) (m : Int), m ≤ S.foldl (fun m p => if m < p.id.1 then p.id.1 else m) m ∧ (∀ p ∈ S, p.id.1 ≤ S.foldl (fun m p => if m < p.id.1 then p.id.1 else m) m) ∧
      (S.foldl (fun m p => if m < p.id.1 then p.id.1 else m) m = m ∨ ∃ p ∈ S, p.id.1 = S.foldl (fun m p => if m < p.id.1 then p.id.1 else m) m) := by
    intro S
    induction S with
    | nil => intro m; simp
    | cons x S ih =>
      intro m
      obtain ⟨h1, h2, h3⟩ := ih (if m < x.id.1 then x.id.1 else m)
      rw [List.foldl_cons]
      refine ⟨Int.le_trans ?_ h1, fun p hp => ?_, ?_⟩
      · split <;> omega
      · rcases List.mem_cons.1 hp with rfl | hp
        · refine Int.le_trans ?_ h1
          split <;> omega
        · exact h2 p hp
      · rcases h3 with h3 | ⟨p, hp, h3⟩
        · rw [h3]
          split
          · exact .inr ⟨x, List.mem_cons_self, rfl⟩
          · exact .inl rfl
        · exact .inr ⟨p, List.mem_cons_of_mem _ hp, h3⟩
  exact key S 0
section
end

section
end

/-- A block of two cells. -/
theorem blk2 {w : World} {g : Nat} {a b : Value} {t : TypeId} {f : Nat × Nat} (h : w.heap[g]? = some (.cells #[a, b] t f)) : w.cell? ⟨g, 0, none⟩ = some a ∧ w.cell? ⟨g, 1, none⟩ = some b := by
  simp [World.cell?, h]
theorem blk_fz {w : World} {g : Nat} {cs : Array Value} {t : TypeId} (h : w.heap[g]? = some (.cells cs t (0, 0))) (j : Nat) : w.frozen? ⟨g, j, none⟩ = false := by
  simp [World.frozen?, h]
theorem blk_lt {w : World} {g : Nat} {o : Obj} (h : w.heap[g]? = some o) : g < w.heap.size := (Array.getElem?_eq_some_iff.1 h).1
theorem blk_alloc {w : World} {g : Nat} {o o' : Obj} (h : w.heap[g]? = some o) : (w.alloc o').heap[g]? = some o := by
  show (w.heap.push o')[g]? = some o
  rw [← h, Array.getElem?_push, if_neg (Nat.ne_of_lt (blk_lt h))]
theorem blk_new (w : World) (o : Obj) : (w.alloc o).heap[w.heap.size]? = some o := by
  show (w.heap.push o)[w.heap.size]? = some o
  rw [Array.getElem?_push, if_pos rfl]
theorem blk_keep {w w' : World} {g : Nat} {o : Obj} (h : w.heap[g]? = some o) (hb : Below w.heap.size w w') : w'.heap[g]? = some o := by
  rw [hb.block g (blk_lt h)]; exact h
end Go.Proofs.YtnkpogjiiohapaaGreatDoor

/-! PDocB: The contracts of hasPlace and at. -/
namespace Go.Proofs.YtnkpogjiiohapaaGreatDoor
open Go.RowKit

def hasPl (os : List (PId × CQObj)) (els : List (PId × CQEl)) (o : PId) (key : ByteArray) (x : PId) : Bool :=
  if key = ⟨#[]⟩ then (match lookI x els with | some e => decide (e.list = o) | none => false) else (lookI o os).isSome && !qlist o os

theorem nil_toList : (⟨#[]⟩ : ByteArray).toList = [] := by
  unfold ByteArray.toList
  unfold ByteArray.toList.loop
  simp [ByteArray.size]
theorem key_ne {key : ByteArray} (h : key ≠ ⟨#[]⟩) : key.toList.isEmpty = false := by
  cases hk : key.toList with
  | cons a l => rfl
  | nil =>
    exfalso
    apply h
    rw [← Go.MapKept.bytes_beq, beq_toListBytes, hk, nil_toList]
    rfl

set_option maxRecDepth 1000000 in
set_option maxHeartbeats 800000 in
theorem hasPlace_q {w : World} {d bo be : Nat} {os : List (PId × CQObj)} {els : List (PId × CQEl)} (h : isQ w d bo be os els) (o1 o2 e1 e2 : Int) (key : ByteArray) :
    Calls Tryz.prog 136 #[.pointer (some ⟨d, 0, none⟩), .agg #[.int .i64 o1, .int .i64 o2, .string key, .int .i64 e1, .int .i64 e2]] w fun e w' => e = .returned (.bool (hasPl os els (o1, o2) key (e1, e2))) ∧ Below w.heap.size w w' := by
  have c1 := h.c1
  have hd := h.lt
  have HB0 := hid ((Below.refl w.heap.size w).alloc (Nat.le_refl _) (.cells #[.int .i64 o1, .int .i64 o2, .string key, .int .i64 e1, .int .i64 e2] 97))
  by_cases hk : key = ⟨#[]⟩
  · subst hk
    have hb1 := HB0.out.drew
    have hb2 := (HB0.out.alloc (by simp) (.cells #[.int .i64 0, .int .i64 0, .int .i64 0, .int .i64 0, .map none] 176)).drew
    have l1 := (h.keep hb1).lookE e1 e2 true
    have l2 := (h.keep hb2).lookE e1 e2 true
    clear h hb1 hb2
    unfold hasPl
    rw [if_pos rfl]
    generalize lookI (e1, e2) els = L at *
    cases L with
    | none =>
      simp only [Option.map_none, Option.getD_none, Option.isSome_none, if_true] at l1 l2
      go_enter Tryz.func136, Tryz.ntmps136
      go_wp2
      go_region
      all_goals go_wp2
      all_goals go_ret
      all_goals exact ⟨rfl, by go_grown⟩
    | some o =>
      obtain ⟨⟨q1, q2⟩, on, ov, ovs⟩ := o
      simp only [Option.map_some, Option.getD_some, Option.isSome_some, if_true, qelV] at l1 l2
      have heq := run_idEq
      go_enter Tryz.func136, Tryz.ntmps136
      go_wp2
      go_region
      all_goals go_wp2
      all_goals go_ret
      all_goals exact ⟨ret_bool (by rw [← idEq_eq (q1, q2) (o1, o2)]), by go_grown⟩
  · have hkn := key_ne hk
    have HO := hid (fun W hb => has_q (isQ.keep h (w' := W) hb) o1 o2)
    have HL := hid (fun W hb => isList_q (isQ.keep h (w' := W) hb) o1 o2)
    clear h c1
    unfold hasPl
    rw [if_neg hk]
    generalize (lookI (o1, o2) os).isSome = B at *
    generalize qlist (o1, o2) os = G at *
    go_enter Tryz.func136, Tryz.ntmps136
    go_wp2_with fail
    refine (HO.out _ HB0.out).mono ?_
    rintro e w1 ⟨rfl, hb1⟩
    have p0 := keep (a := ⟨w.heap.size, 0, none⟩) (v := .int .i64 o1) hb1 (by simp [go_sem])
    have p1 := keep (a := ⟨w.heap.size, 1, none⟩) (v := .int .i64 o2) hb1 (by simp [go_sem])
    have HB1 := hid (HB0.out.trans (hb1.mono HB0.out.size)); clear hb1
    cases B
    · go_wp2
      go_ret
      exact ⟨rfl, HB1.out⟩
    · go_wp2_with fail
      refine (HL.out _ HB1.out).mono ?_
      rintro e w2 ⟨rfl, hb2⟩
      have HB2 := hid (HB1.out.trans (hb2.mono HB1.out.size)); clear hb2
      go_wp2
      go_ret
      exact ⟨ret_bool (by cases G <;> rfl), HB2.out⟩

end Go.Proofs.YtnkpogjiiohapaaGreatDoor

/-! PDocC: The contract of at: the values of a place. -/
namespace Go.Proofs.YtnkpogjiiohapaaGreatDoor
open Go.RowKit

def atPl (os : List (PId × CQObj)) (els : List (PId × CQEl)) (o : PId) (key : ByteArray) (x : PId) : CKey :=
  if hasPl os els o key x then
    (if key = ⟨#[]⟩ then (match lookI x els with | some e => ⟨e.v, e.vs⟩ | none => ⟨none, []⟩)
     else (match lookI o os with | some ob => (match lookI key ob.ks with | some c => c | none => ⟨none, []⟩) | none => ⟨none, []⟩))
  else ⟨none, []⟩

theorem look_mem {κ ν : Type} [DecidableEq κ] {x : κ} {m : List (κ × ν)} {v : ν} (h : lookI x m = some v) : (x, v) ∈ m := by
  unfold lookI at h
  cases hf : m.find? (fun p => decide (x = p.1)) with
  | none => rw [hf] at h; cases h
  | some p =>
    rw [hf] at h
    simp at h
    have h1 := List.find?_some hf
    simp at h1
    have h2 := List.mem_of_find?_eq_some hf
    rw [← h, h1]; exact h2
theorem isQ.at {w : World} {d bo be : Nat} {os : List (PId × CQObj)} {els : List (PId × CQEl)} (h : isQ w d bo be os els) (o : PId) (key : ByteArray) (x : PId) : isVals w (atPl os els o key x).v (atPl os els o key x).vs := by
  unfold atPl
  split
  · split
    · split
      · rename_i e he; exact h.hv _ (look_mem he)
      · exact .inl ⟨rfl, rfl⟩
    · split
      · split
        · rename_i _ ob hob _ c hc; exact (h.hk _ (look_mem hob)).2 _ (look_mem hc)
        · exact .inl ⟨rfl, rfl⟩
      · exact .inl ⟨rfl, rfl⟩
  · exact .inl ⟨rfl, rfl⟩

theorem run_lookNil {κ : Type} [DecidableEq κ] {kt : TypeId} {encK : κ → Value} (K : KeyOf κ kt encK) {t e : TypeId} (ht : Tryz.prog.underlying t = some (.map kt e)) {w : World} {z : Value} (hz : (zeroValue e).run Tryz.prog w = .ok z w) (x : κ) (ok : Bool) :
    (Instr.lookup t (.map none) (encK x) ok).run Tryz.prog w = .ok (if ok then .tuple #[z, .bool false] else z) w := by
  have h2 := K.check true x w
  have h3 := K.find (fun v : Value => v) x w [] [] rfl
  unfold Instr.lookup
  rw [Sem.run_bind, run_underlying ht, Result.andThen_ok]
  simp only [Sem.run_bind, Result.andThen_ok, Sem.run_pure]
  rw [show (#[] : Array MapEntry).isEmpty = true from rfl, h2]
  simp only [Result.andThen_ok]
  rw [h3]
  cases ok <;> simp [hitI, hz, Sem.run_bind]
theorem zero_vals (W : World) : (zeroValue 159).run Tryz.prog W = .ok (.map none) W := by kernel_rfl

/-- Looking up a key of an object. -/
theorem isKeys.look {w : World} {v : Option Nat} {ks : List (ByteArray × CKey)} (h : isKeys w v ks) (key : ByteArray) :
    (Instr.lookup 168 (.map v) (.string key) false).run Tryz.prog w = .ok (.map (match lookI key ks with | some c => c.v | none => none)) w := by
  rcases h.1 with ⟨rfl, rfl⟩ | ⟨b, es, clk, rfl, hm⟩
  · exact run_lookNil strKey Tryz.underlying168 (zero_vals w) key false
  · have := run_lookI strKey hm Tryz.underlying168 (zero_vals w) key false
    rw [show (Value.string key) = strV key from rfl, this]
    cases lookI key ks <;> rfl

theorem field_el (a b c d : Value) (r : Option Nat) (W : World) : (Instr.field 176 (.agg #[a, b, c, d, .map r]) 2).run Tryz.prog W = .ok (.map r) W := by kernel_rfl
theorem field_ob (a c d : Value) (r : Option Nat) (W : World) : (Instr.field 170 (.agg #[a, .map r, c, d]) 1).run Tryz.prog W = .ok (.map r) W := by kernel_rfl

set_option maxRecDepth 1000000 in
set_option maxHeartbeats 800000 in
theorem at_q {w : World} {d bo be : Nat} {os : List (PId × CQObj)} {els : List (PId × CQEl)} (h : isQ w d bo be os els) (o1 o2 e1 e2 : Int) (key : ByteArray) :
    Calls Tryz.prog 86 #[.pointer (some ⟨d, 0, none⟩), .agg #[.int .i64 o1, .int .i64 o2, .string key, .int .i64 e1, .int .i64 e2]] w fun e w' => e = .returned (.map (atPl os els (o1, o2) key (e1, e2)).v) ∧ Below w.heap.size w w' := by
  have HB0 := hid ((Below.refl w.heap.size w).alloc (Nat.le_refl _) (.cells #[.int .i64 o1, .int .i64 o2, .string key, .int .i64 e1, .int .i64 e2] 97))
  have HP := hid (hasPlace_q (h.keep HB0.out) o1 o2 e1 e2 key)
  by_cases hk : key = ⟨#[]⟩
  · subst hk
    have HC := hid (fun W (hb : Below w.heap.size w W) => (h.keep hb).c1)
    have HLE := hid (fun W (hb : Below w.heap.size w W) => (h.keep hb).lookE e1 e2 false)
    clear h
    unfold atPl
    simp only [if_true]
    generalize hasPl os els (o1, o2) ⟨#[]⟩ (e1, e2) = B at *
    generalize lookI (e1, e2) els = L at *
    cases B
    · go_enter Tryz.func86, Tryz.ntmps86
      go_wp2_with fail
      refine HP.out.mono ?_
      rintro e w1 ⟨rfl, hb1⟩
      have HB1 := hid (HB0.out.trans (hb1.mono HB0.out.size)); clear hb1
      go_wp2
      go_ret
      exact ⟨rfl, HB1.out⟩
    · cases L with
      | none =>
        go_enter Tryz.func86, Tryz.ntmps86
        go_wp2_with fail
        refine HP.out.mono ?_
        rintro e w1 ⟨rfl, hb1⟩
        have p2 := keep (a := ⟨w.heap.size, 2, none⟩) (v := .string ⟨#[]⟩) hb1 (by simp [go_sem])
        have p3 := keep (a := ⟨w.heap.size, 3, none⟩) (v := .int .i64 e1) hb1 (by simp [go_sem])
        have p4 := keep (a := ⟨w.heap.size, 4, none⟩) (v := .int .i64 e2) hb1 (by simp [go_sem])
        have HB1 := hid (HB0.out.trans (hb1.mono HB0.out.size)); clear hb1
        have c1 := HC.out _ HB1.out
        have l1 := HLE.out _ HB1.out.drew
        simp only [Option.map_none, Option.getD_none, Bool.false_eq_true, if_false] at l1
        have fe := field_el
        have fo := field_ob
        go_wp2
        go_region
        go_wp2
        go_ret
        exact ⟨rfl, HB1.out.drew⟩
      | some el =>
        obtain ⟨q, on, ov, ovs⟩ := el
        go_enter Tryz.func86, Tryz.ntmps86
        go_wp2_with fail
        refine HP.out.mono ?_
        rintro e w1 ⟨rfl, hb1⟩
        have p2 := keep (a := ⟨w.heap.size, 2, none⟩) (v := .string ⟨#[]⟩) hb1 (by simp [go_sem])
        have p3 := keep (a := ⟨w.heap.size, 3, none⟩) (v := .int .i64 e1) hb1 (by simp [go_sem])
        have p4 := keep (a := ⟨w.heap.size, 4, none⟩) (v := .int .i64 e2) hb1 (by simp [go_sem])
        have HB1 := hid (HB0.out.trans (hb1.mono HB0.out.size)); clear hb1
        have c1 := HC.out _ HB1.out
        have l1 := HLE.out _ HB1.out.drew
        simp only [Option.map_some, Option.getD_some, Bool.false_eq_true, if_false, qelV] at l1
        have fe := field_el
        have fo := field_ob
        go_wp2
        go_region
        go_wp2
        go_ret
        exact ⟨rfl, HB1.out.drew⟩
  · have hkn := key_ne hk
    have HC := hid (fun W (hb : Below w.heap.size w W) => (h.keep hb).c0)
    have HLO := hid (fun W (hb : Below w.heap.size w W) => (h.keep hb).lookO o1 o2 false)
    unfold atPl
    simp only [hk, if_false]
    have HKS := hid (fun ob (hob : lookI (o1, o2) os = some ob) W (hb : Below w.heap.size w W) => ((h.hk _ (look_mem hob)).keep hb).look key)
    clear h
    generalize hasPl os els (o1, o2) key (e1, e2) = B at *
    generalize lookI (o1, o2) os = L at *
    cases B
    · go_enter Tryz.func86, Tryz.ntmps86
      go_wp2_with fail
      refine HP.out.mono ?_
      rintro e w1 ⟨rfl, hb1⟩
      have HB1 := hid (HB0.out.trans (hb1.mono HB0.out.size)); clear hb1
      go_wp2
      go_ret
      exact ⟨rfl, HB1.out⟩
    · cases L with
      | none =>
        have HKN := hid (fun W => run_lookNil strKey Tryz.underlying168 (zero_vals W) key false)
        go_enter Tryz.func86, Tryz.ntmps86
        go_wp2_with fail
        refine HP.out.mono ?_
        rintro e w1 ⟨rfl, hb1⟩
        have p0 := keep (a := ⟨w.heap.size, 0, none⟩) (v := .int .i64 o1) hb1 (by simp [go_sem])
        have p1 := keep (a := ⟨w.heap.size, 1, none⟩) (v := .int .i64 o2) hb1 (by simp [go_sem])
        have p2 := keep (a := ⟨w.heap.size, 2, none⟩) (v := .string key) hb1 (by simp [go_sem])
        have HB1 := hid (HB0.out.trans (hb1.mono HB0.out.size)); clear hb1
        have c1 := HC.out _ HB1.out
        have l1 := HLO.out _ HB1.out.drew
        have l2 := HKN.out w1.drew
        simp only [Option.map_none, Option.getD_none, Bool.false_eq_true, if_false, strV] at l1 l2
        have fe := field_el
        have fo := field_ob
        go_wp2
        go_region
        go_wp2
        go_ret
        exact ⟨rfl, HB1.out.drew⟩
      | some ob =>
        obtain ⟨ol, okv, oks, ofr⟩ := ob
        have HKY := hid (HKS.out _ rfl); clear HKS
        simp only at HKY
        have e2 : (match lookI key oks with | some c => c | none => ⟨none, []⟩ : CKey).v = (match lookI key oks with | some c => c.v | none => none) := by cases lookI key oks <;> rfl
        simp only [if_true]
        rw [e2]
        clear e2
        generalize (match lookI key oks with | some c => c.v | none => none : Option Nat) = R at *
        go_enter Tryz.func86, Tryz.ntmps86
        go_wp2_with fail
        refine HP.out.mono ?_
        rintro e w1 ⟨rfl, hb1⟩
        have p0 := keep (a := ⟨w.heap.size, 0, none⟩) (v := .int .i64 o1) hb1 (by simp [go_sem])
        have p1 := keep (a := ⟨w.heap.size, 1, none⟩) (v := .int .i64 o2) hb1 (by simp [go_sem])
        have p2 := keep (a := ⟨w.heap.size, 2, none⟩) (v := .string key) hb1 (by simp [go_sem])
        have HB1 := hid (HB0.out.trans (hb1.mono HB0.out.size)); clear hb1
        have c1 := HC.out _ HB1.out
        have l1 := HLO.out _ HB1.out.drew
        have l2 := HKY.out _ HB1.out.drew
        simp only [Option.map_some, Option.getD_some, Bool.false_eq_true, if_false, qobjV] at l1
        have fe := field_el
        have fo := field_ob
        go_wp2
        go_region
        go_wp2
        go_ret
        exact ⟨rfl, HB1.out.drew⟩

end Go.Proofs.YtnkpogjiiohapaaGreatDoor

/-! PSeqD: slices.Collect, slices.SortedFunc, givers, where a place has at most one value. -/
namespace Go.Proofs.YtnkpogjiiohapaaGreatDoor
open Go.RowKit
attribute [local go_sem] Oper.semAt_some

theorem enters_keys (args : Array Value) (w : World) : (callFunc 164 args).run Tryz.prog w = .ok (.enter 164 args) w :=
  enters_of Tryz.func164 (by kernel_rfl) rfl args w

set_option maxRecDepth 100000 in
set_option maxHeartbeats 1000000 in
theorem collect_q (Bm : Nat) (v : Option Nat) (vs : List (PId × PVal)) (w : World) (hm : w.cell? ⟨Bm, 0, none⟩ = some (.map v)) (hv : isVals w v vs) (hN : vs.length ≤ 10000) :
    Calls Tryz.prog 162 #[.func (.func 164) #[] #[.pointer (some ⟨Bm, 0, none⟩)]] w fun e w' => ∃ u ss, e = .returned u ∧ ss.Perm (vs.map (·.1)) ∧ ownIds w.heap.size w' u ss ∧ Below w.heap.size w w' := by
  have HA := hid (callsIn_wide.1 (appendSeq_q Fence.wide 3 trivial rfl (by omega) 164 #[.pointer (some ⟨Bm, 0, none⟩)] trivial enters_keys (fun ss => ss.Perm (vs.map (·.1))) (fun _ => True) vs.length hN w (keys_stops Fence.wide 2 trivial rfl (by omega) Bm v vs w hm hv)))
  clear hm hv
  go_enter Tryz.func162, Tryz.ntmps162
  go_wp2_with fail
  refine HA.out.mono ?_
  rintro e w1 ⟨u, ss, rfl, hS, hu, hb⟩
  have HX := hid (And.intro hS (And.intro hu hb)); clear hS hu hb
  go_wp2
  go_ret
  exact ⟨u, ss, rfl, HX.out.1, HX.out.2.1, HX.out.2.2⟩

end Go.Proofs.YtnkpogjiiohapaaGreatDoor

/-! RefNew: The contract of the reference's New. -/
namespace Go.Proofs.YtnkpogjiiohapaaGreatDoor
open Go.RowKit

/-- A row of zeros, as 'make' lays it. -/
def zrow (N : Nat) : Array Value := madeCells (Value.int .i64 0).cells (N * 1)
theorem run_mkInts (N : Nat) (hN : N ≤ 4) (W : World) : (Instr.makeSlice 24 (.int .i64 (N : Int)) (.int .i64 (N : Int))).run Tryz.prog W = .ok (.slice (some ⟨W.heap.size, 0, none⟩) N N) (W.alloc (.cells (zrow N) 3)) := by
  obtain ⟨i, hi, h0, h1, h2⟩ := info_parts (P := Tryz.prog) (e := 3) (z := .int .i64 0) (size := 1) (bytes := 8) (by kernel_rfl)
  have := run_make (P := Tryz.prog) W 24 3 i (.int .i64 0) Tryz.underlying24 hi h0 .i64 .i64 N N (by omega) (Int.le_refl _) (by rw [h2]; omega) (by omega)
  rw [h1] at this
  simpa [zrow] using this
/-- Rows of one cell an element. -/
def one (v : Value) : List Value := [v]
/-- A zeroed row. -/
def zeros (B : Nat) (w : World) (v : Value) (N : Nat) : Prop := w.ownsRow B 3 1 v N ((List.range N).map fun _ => Value.int .i64 0)
theorem blkc4 {w : World} {g : Nat} {a b c d : Value} {t : TypeId} {f : Nat × Nat} (h : w.heap[g]? = some (.cells #[a, b, c, d] t f)) : w.cell? ⟨g, 3, none⟩ = some d := by
  simp [World.cell?, h]

theorem blkq0 {w : World} {g : Nat} {a b c d : Value} {t : TypeId} {f : Nat × Nat} (h : w.heap[g]? = some (.cells #[a, b, c, d] t f)) : w.cell? ⟨g, 0, none⟩ = some a := by
  simp [World.cell?, h]
theorem blkq1 {w : World} {g : Nat} {a b c d : Value} {t : TypeId} {f : Nat × Nat} (h : w.heap[g]? = some (.cells #[a, b, c, d] t f)) : w.cell? ⟨g, 1, none⟩ = some b := by
  simp [World.cell?, h]
theorem blkq2 {w : World} {g : Nat} {a b c d : Value} {t : TypeId} {f : Nat × Nat} (h : w.heap[g]? = some (.cells #[a, b, c, d] t f)) : w.cell? ⟨g, 2, none⟩ = some c := by
  simp [World.cell?, h]

theorem set3 {w : World} {g : Nat} {a b c d u : Value} {t : TypeId} (h : w.heap[g]? = some (.cells #[a, b, c, d] t (0, 0))) : (w.setCell ⟨g, 3, none⟩ u).heap[g]? = some (.cells #[a, b, c, u] t (0, 0)) := by
  have hl := blk_lt h
  obtain ⟨_, he⟩ := Array.getElem?_eq_some_iff.1 h
  simp [World.setCell, hl, Array.getElem_modify_self, he]
theorem set2 {w : World} {g : Nat} {a b c d u : Value} {t : TypeId} (h : w.heap[g]? = some (.cells #[a, b, c, d] t (0, 0))) : (w.setCell ⟨g, 2, none⟩ u).heap[g]? = some (.cells #[a, b, u, d] t (0, 0)) := by
  have hl := blk_lt h
  obtain ⟨_, he⟩ := Array.getElem?_eq_some_iff.1 h
  simp [World.setCell, hl, Array.getElem_modify_self, he]
structure C4 where
  a : Value
  b : Value
  c : Value
  d : Value
def c4 (x : C4) : List Value := [x.a, x.b, x.c, x.d]
theorem row_blk {w w' : World} {base : Nat} {e : TypeId} {size : Nat} {v : Value} {n : Nat} {xs : List Value} (h : w.ownsRow base e size v n xs) (hg : ∀ g, v.ownBlock = some g → w'.heap[g]? = w.heap[g]?) : w'.ownsRow base e size v n xs := by
  refine ⟨h.1, ?_⟩
  rcases h.2 with hn | ⟨g, cap, cur, rfl, hb, hgg, rest⟩
  · exact .inl hn
  · exact .inr ⟨g, cap, cur, rfl, hb, by rw [hg g rfl]; exact hgg, rest⟩

section
end

end Go.Proofs.YtnkpogjiiohapaaGreatDoor

/-! PDocD: Givers and Values, where a place has at most one value. -/
namespace Go.Proofs.YtnkpogjiiohapaaGreatDoor
open Go.RowKit

theorem zero_val (W : World) : (zeroValue 57).run Tryz.prog W = .ok (.agg #[.int .i64 0, .int .i64 0, .int .i64 0]) W := by kernel_rfl
theorem isVals.look {w : World} {v : Option Nat} {vs : List (PId × PVal)} (h : isVals w v vs) (x1 x2 : Int) : (Instr.lookup 159 (.map v) (.agg #[.int .i64 x1, .int .i64 x2]) false).run Tryz.prog w = .ok (valV ((lookI (x1, x2) vs).getD (0, (0, 0)))) w := by
  rcases h with ⟨rfl, rfl⟩ | ⟨b, es, clk, rfl, hm⟩
  · exact run_lookNil idKey Tryz.underlying159 (zero_val w) (x1, x2) false
  · have := run_lookI idKey hm Tryz.underlying159 (zero_val w) (x1, x2) false
    rw [show (Value.agg #[.int .i64 x1, .int .i64 x2]) = idV (x1, x2) from rfl, this]
    cases lookI (x1, x2) vs <;> rfl
theorem run_lenMap {w : World} {v : Option Nat} {vs : List (PId × PVal)} (h : isVals w v vs) {ty : TypeId} : (Builtin.len_ #[159] ty #[.map v]).run Tryz.prog w = .ok (.int .i64 vs.length) w := by
  unfold Builtin.len_
  rcases h with ⟨rfl, rfl⟩ | ⟨b, es, clk, rfl, hm⟩
  · simp [run_underlying Tryz.underlying159, goInt, Sem.run_bind]
  · simp [run_underlying Tryz.underlying159, goInt, Sem.run_bind, run_getMap hm.blk, hm.len]
end Go.Proofs.YtnkpogjiiohapaaGreatDoor
