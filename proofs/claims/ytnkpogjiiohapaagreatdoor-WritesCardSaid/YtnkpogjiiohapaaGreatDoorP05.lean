/- Our own text (PCloneA, PHistA, PHistB, PHistC, PHistD, PHistE, PHistF, PHistG). -/
import Derived.Shelf.SlMaps.Clone
import Derived.Deep.RegionHeld3
import Derived.Deep.DrawnRows
import Derived.Deep.QuietTactic
import Derived.BigQuiet
import Derived.Deep.RegionLaw
import Derived.Test.YtnkpogjiiohapaaGreatDoorP04
set_option linter.unusedSimpArgs false
set_option linter.unusedVariables false

/-! PCloneA: maps.Clone at the document's two maps; Clone. -/
namespace Go.Proofs.YtnkpogjiiohapaaGreatDoor
open Go.RowKit

set_option maxRecDepth 1000000 in
set_option maxHeartbeats 2000000 in
theorem clone_o (b : Nat) (es : Array MapEntry) (clk : Nat) (w : World) (hb : w.heap[b]? = some (.map es clk)) :
    Calls Tryz.prog 235 #[.map (some b)] w fun e w' => e = .returned (.map (some w.heap.size)) ∧ w' = w.alloc (.map es clk) := by
  have hq := fun w => run_eql_map_nil_sl (P := Tryz.prog) w 171 _ _ (some b) Tryz.underlying171
  go_enter Tryz.func235, Tryz.ntmps235
  go_wp2
  rw [run_callFunc_extern Tryz.func245 (by kernel_rfl) (by kernel_rfl) (by kernel_rfl) (e := Extern.MapsClone.clone) (by kernel_rfl), run_maps_clone_sl w 171 hb]
  simp only [Result.andThen]
  rw [Oper.upon_value]
  go_wp2
  rw [run_typeAssert_map_sl _ 171 _ _ _ _ Tryz.underlying171]
  simp only [Result.andThen]
  rw [Oper.upon_value]
  go_wp2
  go_ret
  exact ⟨rfl, rfl⟩

set_option maxRecDepth 1000000 in
set_option maxHeartbeats 2000000 in
theorem clone_e (b : Nat) (es : Array MapEntry) (clk : Nat) (w : World) (hb : w.heap[b]? = some (.map es clk)) :
    Calls Tryz.prog 236 #[.map (some b)] w fun e w' => e = .returned (.map (some w.heap.size)) ∧ w' = w.alloc (.map es clk) := by
  have hq := fun w => run_eql_map_nil_sl (P := Tryz.prog) w 172 _ _ (some b) Tryz.underlying172
  go_enter Tryz.func236, Tryz.ntmps236
  go_wp2
  rw [run_callFunc_extern Tryz.func245 (by kernel_rfl) (by kernel_rfl) (by kernel_rfl) (e := Extern.MapsClone.clone) (by kernel_rfl), run_maps_clone_sl w 172 hb]
  simp only [Result.andThen]
  rw [Oper.upon_value]
  go_wp2
  rw [run_typeAssert_map_sl _ 172 _ _ _ _ Tryz.underlying172]
  simp only [Result.andThen]
  rw [Oper.upon_value]
  go_wp2
  go_ret
  exact ⟨rfl, rfl⟩

theorem isMap.cloned {κ ν : Type} {encK : κ → Value} {encV : ν → Value} {w : World} {b : Nat} {m : List (κ × ν)} {es : Array MapEntry} {clk : Nat} (h : isMap encK encV w b m es clk) : isMap encK encV (w.alloc (.map es clk)) w.heap.size m es clk := ⟨heap_alloc_new w _, h.ents, h.nodup, h.old⟩

set_option maxRecDepth 1000000 in
set_option maxHeartbeats 2000000 in
/-- CLONE: another document that reads the same; what it leads to is shared. -/
theorem docClone_q {w : World} {d bo be : Nat} {os : List (PId × CQObj)} {els : List (PId × CQEl)} (h : isQ w d bo be os els) :
    Calls Tryz.prog 213 #[.pointer (some ⟨d, 0, none⟩)] w fun e w' => (∃ d' bo' be', e = .returned (.pointer (some ⟨d', 0, none⟩)) ∧ isQ w' d' bo' be' os els ∧ w.heap.size ≤ d' ∧ w.heap.size ≤ bo' ∧ w.heap.size ≤ be' ∧ bo' ≠ be') ∧ Below w.heap.size w w' := by
  have HH := hid h
  obtain ⟨es1, clk1, hmo⟩ := h.ho
  obtain ⟨es2, clk2, hme⟩ := h.he
  have c0 := h.c0
  have c1 := h.c1
  have hdl := h.lt
  have HMO := hid hmo; clear hmo
  have HME := hid hme; clear hme
  have HBD := hid (show Below w.heap.size w w.drew from (Below.refl _ w).drew)
  have HC1 := hid (clone_o bo es1 clk1 w.drew (HMO.out.keep HBD.out).blk)
  clear h
  go_enter Tryz.func213, Tryz.ntmps213
  go_wp2_with fail
  go_region_with (first
    | (go_at_call 235; refine HC1.out.mono ?_; rintro e w1 ⟨rfl, hw1⟩; have hb1 : Below w.heap.size w w1 := (by rw [hw1]; exact HBD.out.alloc HBD.out.size _); have hs1 : w.heap.size < w1.heap.size := (by rw [hw1]; simp); have HM1 := hid (show isMap idV qobjV w1 w.heap.size os es1 clk1 from hw1 ▸ (HMO.out.keep HBD.out).cloned); clear hw1; replace c0 := keep hb1 c0; replace c1 := keep hb1 c1; have HB1 := hid hb1; clear hb1; have HC2 := hid (clone_e be es2 clk2 w1 (HME.out.keep HB1.out).blk))
    | (go_at_call 236; refine HC2.out.mono ?_; rintro e w2 ⟨rfl, hw2⟩; have HB2 := hid (show Below w1.heap.size w1 w2 by rw [hw2]; exact (Below.refl _ w1).alloc (Nat.le_refl _) _); have hs2 : w1.heap.size < w2.heap.size := (by rw [hw2]; simp); have HM2 := hid (show isMap idV qelV w2 w1.heap.size els es2 clk2 from hw2 ▸ (HME.out.keep HB1.out).cloned); clear hw2))
  all_goals (try go_wp2)
  all_goals go_ret
  all_goals
    have hb3 := (Below.refl w2.heap.size w2).alloc (Nat.le_refl _) (.cells #[.map (some w.heap.size), .map (some w1.heap.size)] 174)
    have hb : Below w.heap.size w (w2.alloc (.cells #[.map (some w.heap.size), .map (some w1.heap.size)] 174)) := (HB1.out.trans (HB2.out.mono HB1.out.size)).trans (hb3.mono (by omega))
    exact ⟨⟨w2.heap.size, w.heap.size, w1.heap.size, rfl, ⟨blk_new w2 _, ⟨es1, clk1, (HM1.out.keep HB2.out).keep hb3⟩, ⟨es2, clk2, HM2.out.keep hb3⟩, (HH.out.keep hb).hk, (HH.out.keep hb).hv⟩, by omega, by omega, by omega, by omega⟩, hb⟩

end Go.Proofs.YtnkpogjiiohapaaGreatDoor

/-! PHistA: history.New and Document. -/
namespace Go.Proofs.YtnkpogjiiohapaaGreatDoor
open Go.RowKit

set_option maxRecDepth 1000000 in
set_option maxHeartbeats 2000000 in
/-- NEW: no operations, one remembered state, the empty document. -/
theorem histNew_q (sp : Int) (w : World) :
    Calls Tryz.prog 128 #[.int .i64 sp] w fun e w' => (∃ hb rb d0 d bo be, e = .returned (.pointer (some ⟨hb, 0, none⟩)) ∧
      w'.heap[hb]? = some (.cells #[.int .i64 sp, .int .i64 0, .slice none 0 0, .slice (some ⟨rb, 0, none⟩) 1 1, .pointer (some ⟨d, 0, none⟩)] 204 (0, 0)) ∧
      w'.heap[rb]? = some (.cells #[.pointer (some ⟨d0, 0, none⟩)] 101 (0, 0)) ∧ isQ w' d bo be rootQ.1 rootQ.2 ∧
      w.heap.size ≤ hb ∧ w.heap.size ≤ rb ∧ w.heap.size ≤ d ∧ w.heap.size ≤ bo ∧ w.heap.size ≤ be ∧ bo ≠ be ∧ hb ≠ rb) ∧ Below w.heap.size w w' := by
  have HN1 := hid (docNew_q w)
  go_enter Tryz.func128, Tryz.ntmps128
  go_wp2_with fail
  refine HN1.out.mono ?_
  rintro e w1 ⟨⟨d0, bo0, be0, rfl, _, _, _, _, _⟩, hb1⟩
  have HB1 := hid hb1; clear hb1
  have hz1 := HB1.out.size
  have HBA := hid ((Below.refl w1.heap.size w1).alloc (Nat.le_refl _) (.cells #[.pointer (some ⟨d0, 0, none⟩)] 101))
  have HN2 := hid (docNew_q (w1.alloc (.cells #[.pointer (some ⟨d0, 0, none⟩)] 101)))
  go_wp2_with fail
  refine HN2.out.mono ?_
  rintro e w2 ⟨⟨d, bo, be, rfl, hq, h1, h2, h3, h4⟩, hb2⟩
  simp at h1 h2 h3 hb2
  have HRB := hid (show w2.heap[w1.heap.size]? = some (.cells #[.pointer (some ⟨d0, 0, none⟩)] 101 (0, 0)) from (hb2.block w1.heap.size (by omega)).trans (blk_new w1 _))
  have HB2 := hid (HBA.out.trans (hb2.mono (by omega))); clear hb2
  have HQ := hid hq; clear hq
  have hz2 := blk_lt HRB.out
  go_wp2
  go_ret
  have hb3 := (Below.refl w2.heap.size w2).alloc (Nat.le_refl _) (.cells #[.int .i64 sp, .int .i64 0, .slice none 0 0, .slice (some ⟨w1.heap.size, 0, none⟩) 1 1, .pointer (some ⟨d, 0, none⟩)] 204)
  exact ⟨⟨w2.heap.size, w1.heap.size, d0, d, bo, be, rfl, blk_new w2 _, blk_keep HRB.out hb3, HQ.out.keep hb3, by omega, by omega, by omega, by omega, by omega, h4, by omega⟩, (HB1.out.trans (HB2.out.mono hz1)).trans (hb3.mono (by omega))⟩

set_option maxRecDepth 1000000 in
theorem histDoc_q {w : World} {hb d : Nat} {sp su : Int} {vo vr : Value} (h : w.heap[hb]? = some (.cells #[.int .i64 sp, .int .i64 su, vo, vr, .pointer (some ⟨d, 0, none⟩)] 204 (0, 0))) :
    Calls Tryz.prog 85 #[.pointer (some ⟨hb, 0, none⟩)] w fun e w' => e = .returned (.pointer (some ⟨d, 0, none⟩)) ∧ Below w.heap.size w w' := by
  have c4 : w.cell? ⟨hb, 4, none⟩ = some (.pointer (some ⟨d, 0, none⟩)) := by simp [World.cell?, h]
  have HB := hid (Below.refl w.heap.size w)
  go_enter Tryz.func85, Tryz.ntmps85
  go_wp2
  try go_region
  all_goals (try go_wp2)
  all_goals go_ret
  all_goals first | exact ⟨rfl, HB.out⟩ | exact ⟨rfl, HB.out.drew⟩

end Go.Proofs.YtnkpogjiiohapaaGreatDoor

/-! PHistB: The order of Ids: cmp.Compare, cmp.Or. -/
namespace Go.Proofs.YtnkpogjiiohapaaGreatDoor
open Go.RowKit

def cmpZ (a b : Int) : Int := if a < b then -1 else if b < a then 1 else 0
def orZ (a b : Int) : Int := if a ≠ 0 then a else b
def cmpI (a b : PId) : Int := orZ (cmpZ a.1 b.1) (cmpZ a.2 b.2)

set_option maxRecDepth 1000000 in
set_option maxHeartbeats 2000000 in
theorem cmpCompare_q (a b : Int) (w : World) : Calls Tryz.prog 166 #[.int .i64 a, .int .i64 b] w fun e w' => e = .returned (.int .i64 (cmpZ a b)) ∧ w' = w := by
  unfold cmpZ
  by_cases h1 : a < b
  · go_enter Tryz.func166, Tryz.ntmps166
    go_wp2
    go_ret
    simp [h1]
  · by_cases h2 : b < a
    · go_enter Tryz.func166, Tryz.ntmps166
      go_wp2
      go_ret
      simp [h1, h2]
    · go_enter Tryz.func166, Tryz.ntmps166
      go_wp2
      go_ret
      simp [h1, h2]

set_option maxRecDepth 1000000 in
set_option maxHeartbeats 2000000 in
theorem cmpOr_q {w : World} {g : Nat} {a b : Int} (h0 : w.cell? ⟨g, 0, none⟩ = some (.int .i64 a)) (h1 : w.cell? ⟨g, 1, none⟩ = some (.int .i64 b)) :
    Calls Tryz.prog 165 #[.slice (some ⟨g, 0, none⟩) 2 2] w fun e w' => e = .returned (.int .i64 (orZ a b)) ∧ w' = w := by
  unfold orZ
  go_enter Tryz.func165, Tryz.ntmps165
  go_wp2
  go_loopw [8] (fun i wr => wr = w ∧ (i = .int .i64 0 ∨ (i = .int .i64 1 ∧ a = 0) ∨ (i = .int .i64 2 ∧ a = 0 ∧ b = 0))) (fun i _ => 2 - (intOf i).toNat)
  case atStart => exact ⟨rfl, .inl rfl⟩
  case round =>
    obtain ⟨rfl, rfl | ⟨rfl, ha⟩ | ⟨rfl, ha, hb⟩⟩ := hrel
    · by_cases hz : a = 0
      · subst hz
        go_wp2
        go_roundw
        case rel => simp
        case measure => simp [intOf]
      · go_wp2
        go_ret
        simp [hz]
    · subst ha
      by_cases hz : b = 0
      · subst hz
        go_wp2
        go_roundw
        case rel => simp
        case measure => simp [intOf]
      · go_wp2
        go_ret
        simp
    · subst ha
      subst hb
      go_wp2
      go_ret
      simp

end Go.Proofs.YtnkpogjiiohapaaGreatDoor

/-! PHistC: The order of Ids: Compare, byId; the search for the place of an operation that lies behind all others. -/
namespace Go.Proofs.YtnkpogjiiohapaaGreatDoor
open Go.RowKit
attribute [local go_sem ↓] Go.wp_at_zero Go.wp_at_succ

theorem cells2_new (w : World) (o1 o2 : Obj) (x y : Value) (t : TypeId) : (((w.alloc o1).alloc o2).alloc (.cells #[x, y] t)).drew.cell? ⟨w.heap.size + 2, 0, none⟩ = some x ∧ (((w.alloc o1).alloc o2).alloc (.cells #[x, y] t)).drew.cell? ⟨w.heap.size + 2, 1, none⟩ = some y := by
  have h := blk_new ((w.alloc o1).alloc o2) (.cells #[x, y] t)
  have hs : ((w.alloc o1).alloc o2).heap.size = w.heap.size + 2 := by simp
  rw [hs] at h
  exact blk2 (w := (((w.alloc o1).alloc o2).alloc (.cells #[x, y] t)).drew) h

set_option maxRecDepth 1000000 in
set_option maxHeartbeats 2000000 in
theorem compare_q (a1 a2 b1 b2 : Int) (w : World) :
    Calls Tryz.prog 139 #[.agg #[.int .i64 a1, .int .i64 a2], .agg #[.int .i64 b1, .int .i64 b2]] w fun e w' => e = .returned (.int .i64 (cmpI (a1, a2) (b1, b2))) ∧ Below w.heap.size w w' := by
  go_enter Tryz.func139, Tryz.ntmps139
  go_wp2_with fail
  go_region_held3 (fun W => W.cell? ⟨w.heap.size, 0, none⟩ = some (.int .i64 a1) ∧ W.cell? ⟨w.heap.size, 1, none⟩ = some (.int .i64 a2) ∧ W.cell? ⟨w.heap.size + 1, 0, none⟩ = some (.int .i64 b1) ∧ W.cell? ⟨w.heap.size + 1, 1, none⟩ = some (.int .i64 b2)) (go_keep)
    (first
      | (go_at_call 166; refine (cmpCompare_q _ _ _).mono ?_; rintro e w' ⟨rfl, rfl⟩)
      | (go_at_call 165; refine (cmpOr_q (g := w.heap.size + 2) (a := cmpZ a1 b1) (b := cmpZ a2 b2) ?_ ?_).mono ?_; (exact (cells2_new _ _ _ _ _ _).1); (exact (cells2_new _ _ _ _ _ _).2); rintro e w' ⟨rfl, rfl⟩))
  all_goals go_wp2
  all_goals go_ret
  all_goals exact ⟨rfl, by go_grown⟩

end Go.Proofs.YtnkpogjiiohapaaGreatDoor

/-! PHistD: A copy's operations in memory: the search for a place behind all others; insert there. -/
namespace Go.Proofs.YtnkpogjiiohapaaGreatDoor
open Go.RowKit
attribute [local go_sem ↓] Go.wp_at_zero Go.wp_at_succ

/-- An operation with its change as it lies in memory. -/
structure MOp where
  op : QOp
  t : TypeId
  v : Value
def MOp.c (o : MOp) : Value := .iface o.t o.v
def mopC (o : MOp) : List Value := [.int .i64 o.op.id.1, .int .i64 o.op.id.2, .int .i64 o.op.nth, .iface o.t o.v]
def ownMOps (B : Nat) (w : World) (v : Value) (l : List MOp) : Prop := w.ownsRow B 210 4 v l.length (l.flatMap mopC)

theorem flat4 {α : Type} {f : α → List Value} (hf : ∀ x, (f x).length = 4) : ∀ (l : List α) (k : Nat) (hk : k < l.length) (j : Nat), j < 4 → (l.flatMap f)[k * 4 + j]? = (f l[k])[j]?
  | x :: l, 0, _, j, hj => by
    rw [List.flatMap_cons, List.getElem?_append_left (by rw [hf]; omega)]; simp
  | x :: l, k + 1, hk, j, hj => by
    rw [List.flatMap_cons, List.getElem?_append_right (by rw [hf]; omega), hf, show (k + 1) * 4 + j - 4 = k * 4 + j by omega]
    exact flat4 hf l k (by simpa using hk) j hj
theorem ownMOps.cells {B : Nat} {w : World} {g cap : Nat} {l : List MOp} (h : ownMOps B w (.slice (some ⟨g, 0, none⟩) l.length cap) l) (k : Nat) (hk : k < l.length) :
    w.cell? ⟨g, k * 4, none⟩ = some (.int .i64 l[k].op.id.1) ∧ w.cell? ⟨g, k * 4 + 1, none⟩ = some (.int .i64 l[k].op.id.2) ∧ w.cell? ⟨g, k * 4 + 2, none⟩ = some (.int .i64 l[k].op.nth) ∧ w.cell? ⟨g, k * 4 + 3, none⟩ = some (.iface l[k].t l[k].v) := by
  have hc := fun j (hj : j < 4) => World.ownsRow.cellAt h (k * 4 + j) (by omega)
  have hf := fun j (hj : j < 4) => flat4 (f := mopC) (fun _ => rfl) l k hk j hj
  refine ⟨?_, ?_, ?_, ?_⟩
  · have := (hc 0 (by omega)).trans (hf 0 (by omega)); simpa [mopC] using this
  · have := (hc 1 (by omega)).trans (hf 1 (by omega)); simpa [mopC] using this
  · have := (hc 2 (by omega)).trans (hf 2 (by omega)); simpa [mopC] using this
  · have := (hc 3 (by omega)).trans (hf 3 (by omega)); simpa [mopC] using this

theorem boxed4 (w : World) (a b c d : Value) (t : TypeId) : (w.alloc (.cells #[a, b, c, d] t)).cell? ⟨w.heap.size, 0, none⟩ = some a ∧ (w.alloc (.cells #[a, b, c, d] t)).cell? ⟨w.heap.size, 1, none⟩ = some b ∧ (w.alloc (.cells #[a, b, c, d] t)).cell? ⟨w.heap.size, 2, none⟩ = some c ∧ (w.alloc (.cells #[a, b, c, d] t)).cell? ⟨w.heap.size, 3, none⟩ = some d := blk4 (blk_new w _)
theorem below_drew_left {w w' : World} (h : Below w.drew.heap.size w.drew w') : Hid (Below w.heap.size w w') := ⟨h.os, h.tape, h.output, h.size, h.block⟩

set_option maxRecDepth 1000000 in
set_option maxHeartbeats 2000000 in
theorem byId_q (a1 a2 an b1 b2 bn : Int) (ta tb : TypeId) (va vb : Value) (w : World) :
    Calls Tryz.prog 211 #[.agg #[.int .i64 a1, .int .i64 a2, .int .i64 an, .iface ta va], .agg #[.int .i64 b1, .int .i64 b2, .int .i64 bn, .iface tb vb]] w fun e w' => e = .returned (.int .i64 (cmpI (a1, a2) (b1, b2))) ∧ Below w.heap.size w w' := by
  have HB := hid (((Below.refl w.heap.size w).alloc (Nat.le_refl _) (.cells #[.int .i64 a1, .int .i64 a2, .int .i64 an, .iface ta va] 210)).alloc (by simp) (.cells #[.int .i64 b1, .int .i64 b2, .int .i64 bn, .iface tb vb] 210))
  go_enter Tryz.func211, Tryz.ntmps211
  go_wp2_with fail
  refine (compare_q a1 a2 b1 b2 _).mono ?_
  rintro e w1 ⟨rfl, hb1⟩
  have hb := HB.out.trans (hb1.mono HB.out.size)
  clear hb1
  go_wp2
  go_ret
  exact ⟨rfl, hb⟩

set_option maxRecDepth 1000000 in
set_option maxHeartbeats 2000000 in
/-- ALL LIE AHEAD: the place is the end. -/
theorem bsearch_q {w : World} {v : Value} {l : List MOp} (h : ownMOps 0 w v l) (x : MOp) (hlt : ∀ o ∈ l, cmpI o.op.id x.op.id < 0) (hl : l.length ≤ 100000) :
    Calls Tryz.prog 210 #[v, .agg #[.int .i64 x.op.id.1, .int .i64 x.op.id.2, .int .i64 x.op.nth, .iface x.t x.v], .func (.func 211) #[] #[]] w fun e w' => e = .returned (.tuple #[.int .i64 l.length, .bool false]) ∧ Below w.heap.size w w' := by
  obtain ⟨a, c, rfl, hlc, hcm, hf⟩ := owns_form h
  unfold maxLen at hcm
  have HH := hid h; clear h
  have HF := hid hf; clear hf
  have HLT := hid hlt; clear hlt
  have HB0 := hid ((Below.refl w.heap.size w).alloc (Nat.le_refl _) (.cells #[.int .i64 x.op.id.1, .int .i64 x.op.id.2, .int .i64 x.op.nth, .iface x.t x.v] 210))
  go_enter Tryz.func210, Tryz.ntmps210
  go_wp2_with fail
  go_loopw [9, 10] (fun i j wr => ∃ k : Nat, k ≤ l.length ∧ i = .int .i64 k ∧ j = .int .i64 l.length ∧ Below (w.heap.size + 1) (w.alloc (.cells #[.int .i64 x.op.id.1, .int .i64 x.op.id.2, .int .i64 x.op.nth, .iface x.t x.v] 210)) wr) (fun i _ _ => l.length - (intOf i).toNat)
  case atStart => exact ⟨0, Nat.zero_le _, rfl, rfl, Below.refl _ _⟩
  case round =>
    obtain ⟨k, hk, rfl, rfl, hbel⟩ := hrel
    have HBE := hid (HB0.out.trans (hbel.mono (Nat.le_succ _)))
    have hbx := boxed4 w (.int .i64 x.op.id.1) (.int .i64 x.op.id.2) (.int .i64 x.op.nth) (.iface x.t x.v) 210
    have hsz : (w.alloc (.cells #[.int .i64 x.op.id.1, .int .i64 x.op.id.2, .int .i64 x.op.nth, .iface x.t x.v] 210)).heap.size = w.heap.size + 1 := by simp
    obtain ⟨b0, b1, b2, b3⟩ := hbx
    rw [← hsz] at hbel
    replace b0 := keep hbel b0
    replace b1 := keep hbel b1
    replace b2 := keep hbel b2
    replace b3 := keep hbel b3
    rw [hsz] at hbel
    clear hsz
    have HBL := hid hbel; clear hbel
    by_cases hkl : k < l.length
    · obtain ⟨g, rfl⟩ := HF.out 0 (by omega)
      obtain ⟨m, hm, hml, hkm⟩ : ∃ m : Nat, ((k : Int) + (l.length : Int)) / 2 = (m : Int) ∧ m < l.length ∧ k ≤ m := ⟨(k + l.length) / 2, by omega, by omega, by omega⟩
      obtain ⟨c0, c1, c2, c3⟩ := ownMOps.cells HH.out m hml
      replace c0 := keep HBE.out c0
      replace c1 := keep HBE.out c1
      replace c2 := keep HBE.out c2
      replace c3 := keep HBE.out c3
      have hneg := HLT.out l[m] (List.getElem_mem hml)
      have hm0 : (0 : Int) ≤ (m : Int) := Int.natCast_nonneg _
      have hm1 : (m : Int) < (l.length : Int) := by omega
      go_wp2_with fail
      go_region_held3 (fun W => W.cell? ⟨g, m * 4, none⟩ = some (.int .i64 l[m].op.id.1) ∧ W.cell? ⟨g, m * 4 + 1, none⟩ = some (.int .i64 l[m].op.id.2) ∧ W.cell? ⟨g, m * 4 + 2, none⟩ = some (.int .i64 l[m].op.nth) ∧ W.cell? ⟨g, m * 4 + 3, none⟩ = some (.iface l[m].t l[m].v) ∧
          W.cell? ⟨w.heap.size, 0, none⟩ = some (.int .i64 x.op.id.1) ∧ W.cell? ⟨w.heap.size, 1, none⟩ = some (.int .i64 x.op.id.2) ∧ W.cell? ⟨w.heap.size, 2, none⟩ = some (.int .i64 x.op.nth) ∧ W.cell? ⟨w.heap.size, 3, none⟩ = some (.iface x.t x.v)) (go_keep)
        (first
          | (go_at_call 211; refine (byId_q _ _ _ _ _ _ _ _ _ _ _).mono ?_; rintro e w1 ⟨rfl, hb1⟩; have hb1' := Hid.out (below_drew_left hb1); clear hb1; have d0 := keep hb1' c0; have d1 := keep hb1' c1; have d2 := keep hb1' c2; have d3 := keep hb1' c3; have e0 := keep hb1' b0; have e1 := keep hb1' b1; have e2 := keep hb1' b2; have e3 := keep hb1' b3; have HB1 := hid hb1'; clear hb1'))
      go_wp2
      go_roundw
      case rel => exact ⟨m + 1, by omega, by go_num, rfl, HBL.out.trans (HB1.out.mono (Nat.le_trans (by simp) HBL.out.size))⟩
      case measure => simp [intOf]; omega
    · have hke : k = l.length := by omega
      subst hke
      go_wp2_with fail
      go_quiet (fail)
      go_wp2
      go_ret2
      all_goals exact ⟨rfl, below_drewN HBE.out _⟩

/-- ONE ELEMENT MORE, and where the row lies. -/
theorem app_one_at {α : Type} (f : α → List Value) (size bytes : Nat) (t e : TypeId) (z : Value) (hinfo : (Tryz.prog.info? e).map (fun i => (i.zero, i.size, i.bytes)) = some (some z, size, bytes))
    (ht : Tryz.prog.underlying t = some (.slice e)) (hzs : z.cells.size = size) (hk : 0 < size) (hf : ∀ x, (f x).length = size)
    {ops : Array Oper} {rest : List Oper} {o : Oper} {a : Act} {Q : Exit → Act → World → Prop} {w : World} (hgd : o.guard = none) (s x : Operand)
    (ho : o.op = .call { callee := .builtin .append, args := #[s, x], argTypes := #[t, t] }) (B : Nat) (v : Value) (l : List α) (hs : a.eval s = v)
    (hown : w.ownsRow B e size v l.length (l.flatMap f)) (g c : Nat) (y : α) (hx : a.eval x = .slice (some ⟨g, 0, none⟩) 1 c)
    (hnew : ∀ j u, (f y)[j]? = some u → w.cell? ⟨g, j, none⟩ = some u) (h1 : ∀ u ∈ f y, u.oneCell' = true) (hlen : (l.length + 1) * bytes ≤ 140737488355328) (hlen' : l.length < maxLen) (hB : B ≤ w.heap.size)
    (h : ∀ v' w', w'.ownsRow B e size v' (l.length + 1) ((l ++ [y]).flatMap f) → w.grownBy w' v.ownBlock → newOr w v v' → wpList Tryz.prog ops Q rest (a.put o.dst v') w') : wpList Tryz.prog ops Q (o :: rest) a w := by
  obtain ⟨i, hi, hz, hsz, hby⟩ := info_parts hinfo
  refine wpList_append_own_at (P := Tryz.prog) w hgd s x t ho B e i z size bytes ht hi hz hsz hby hzs hk v l.length (l.flatMap f) hs hown ⟨g, 0, none⟩ 1 c (f y) hx (by rw [hf]; simp) ?_ h1 (by omega) hlen hB ?_
  · intro j u hu
    have : (⟨g, 0, none⟩ : Addr).add j = ⟨g, j, none⟩ := by unfold Addr.add; split <;> simp_all
    rw [this]; exact hnew j u hu
  · intro v' w' h2 h3 _ h5
    exact h v' w' (by simpa using h2) h3 (h5.imp id fun h6 k hk => by rw [h6] at hk; cases hk; exact Nat.le_refl _)

theorem cells_mop {w : World} {g : Nat} {x : MOp} (h0 : w.cell? ⟨g, 0, none⟩ = some (.int .i64 x.op.id.1)) (h1 : w.cell? ⟨g, 1, none⟩ = some (.int .i64 x.op.id.2)) (h2 : w.cell? ⟨g, 2, none⟩ = some (.int .i64 x.op.nth)) (h3 : w.cell? ⟨g, 3, none⟩ = some (.iface x.t x.v)) :
    ∀ j u, (mopC x)[j]? = some u → w.cell? ⟨g, j, none⟩ = some u := by
  intro j u hu
  match j with
  | 0 => simp [mopC] at hu; rw [← hu]; exact h0
  | 1 => simp [mopC] at hu; rw [← hu]; exact h1
  | 2 => simp [mopC] at hu; rw [← hu]; exact h2
  | 3 => simp [mopC] at hu; rw [← hu]; exact h3
  | j + 4 => simp [mopC] at hu
theorem wf_mop (x : MOp) : ∀ u ∈ mopC x, u.oneCell' = true := by
  intro u hu; simp [mopC] at hu; rcases hu with rfl | rfl | rfl | rfl <;> rfl

set_option maxRecDepth 1000000 in
set_option maxHeartbeats 2000000 in
theorem insert_end_q {w : World} {v : Value} {l : List MOp} (h : ownMOps 0 w v l) (x : MOp) (g : Nat) (h0 : w.cell? ⟨g, 0, none⟩ = some (.int .i64 x.op.id.1)) (h1 : w.cell? ⟨g, 1, none⟩ = some (.int .i64 x.op.id.2)) (h2 : w.cell? ⟨g, 2, none⟩ = some (.int .i64 x.op.nth)) (h3 : w.cell? ⟨g, 3, none⟩ = some (.iface x.t x.v)) (hl : l.length ≤ 100000) :
    Calls Tryz.prog 212 #[v, .int .i64 l.length, .slice (some ⟨g, 0, none⟩) 1 1] w fun e w' => ∃ v', e = .returned v' ∧ ownMOps 0 w' v' (l ++ [x]) ∧ w.grownBy w' v.ownBlock ∧ newOr w v v' := by
  have HC := hid (cells_mop (x := x) h0 h1 h2 h3)
  obtain ⟨a, c, rfl, hlc, hcm, hf⟩ := owns_form h
  unfold maxLen at hcm
  have HH := hid h; clear h
  have HF := hid hf; clear hf
  clear HF
  rcases Nat.eq_or_lt_of_le hlc with he | hlt
  · subst he
    go_enter Tryz.func212, Tryz.ntmps212
    go_wp2_with (first
      | (at_builtin; refine app_one_at mopC 4 40 202 210 (.agg #[.int .i64 0, .int .i64 0, .int .i64 0, .nilIface]) (by kernel_rfl) Tryz.underlying202 rfl (by omega) (fun _ => rfl) rfl (.tmp 23) (.tmp 24) rfl 0 (.slice a l.length l.length) l rfl HH.out g 1 x rfl HC.out (wf_mop x) (by omega) (by unfold maxLen; omega) (Nat.zero_le _) ?_; intro v' w1 ho hg hn; have HO := hid ho; have HG := hid hg; have HN := hid hn; clear ho hg hn)
      | fail)
    all_goals (try go_ret)
    all_goals exact ⟨_, rfl, by simpa [ownMOps] using HO.out, HG.out, HN.out⟩
  · go_enter Tryz.func212, Tryz.ntmps212
    go_wp2_with (first
      | (at_builtin; refine app_one_at mopC 4 40 202 210 (.agg #[.int .i64 0, .int .i64 0, .int .i64 0, .nilIface]) (by kernel_rfl) Tryz.underlying202 rfl (by omega) (fun _ => rfl) rfl (.tmp 23) (.tmp 24) rfl 0 (.slice a l.length c) l rfl HH.out g 1 x rfl HC.out (wf_mop x) (by omega) (by unfold maxLen; omega) (Nat.zero_le _) ?_; intro v' w1 ho hg hn; have HO := hid ho; have HG := hid hg; have HN := hid hn; clear ho hg hn)
      | fail)
    all_goals (try go_ret)
    all_goals exact ⟨_, rfl, by simpa [ownMOps] using HO.out, HG.out, HN.out⟩

end Go.Proofs.YtnkpogjiiohapaaGreatDoor

/-! PHistE: A copy's history: insert behind all others; doneIn. -/
namespace Go.Proofs.YtnkpogjiiohapaaGreatDoor
open Go.RowKit
attribute [local go_sem ↓] Go.wp_at_zero Go.wp_at_succ

def ptrC (k : Nat) : List Value := [.pointer (some ⟨k, 0, none⟩)]
def ownDocs (B : Nat) (w : World) (v : Value) (l : List Nat) : Prop := w.ownsRow B 101 1 v l.length (l.flatMap ptrC)
/-- The history's block. -/
def isHb (w : World) (hb sp : Nat) (vo vr : Value) (d : Nat) : Prop := w.heap[hb]? = some (.cells #[.int .i64 sp, .int .i64 0, vo, vr, .pointer (some ⟨d, 0, none⟩)] 204 (0, 0))
theorem set5_2 {w : World} {g : Nat} {a b c d e u : Value} {t : TypeId} (h : w.heap[g]? = some (.cells #[a, b, c, d, e] t (0, 0))) : (w.setCell ⟨g, 2, none⟩ u).heap[g]? = some (.cells #[a, b, u, d, e] t (0, 0)) := by
  have hl := blk_lt h
  obtain ⟨_, he⟩ := Array.getElem?_eq_some_iff.1 h
  simp [World.setCell, hl, Array.getElem_modify_self, he]
theorem set5_3 {w : World} {g : Nat} {a b c d e u : Value} {t : TypeId} (h : w.heap[g]? = some (.cells #[a, b, c, d, e] t (0, 0))) : (w.setCell ⟨g, 3, none⟩ u).heap[g]? = some (.cells #[a, b, c, u, e] t (0, 0)) := by
  have hl := blk_lt h
  obtain ⟨_, he⟩ := Array.getElem?_eq_some_iff.1 h
  simp [World.setCell, hl, Array.getElem_modify_self, he]
theorem Turned.of_grown {S : Nat → Prop} {w w' : World} {row : Option Nat} (h : w.grownBy w' row) (hs : ∀ k, row = some k → S k) : Turned S w w' :=
  ⟨h.os, h.tape, h.output, h.size, fun k hk hn => h.block k hk (fun e => hn (hs k e.symm))⟩
theorem setCell_other {w : World} {g o k : Nat} {u : Value} (h : k ≠ g) : (w.setCell ⟨g, o, none⟩ u).heap[k]? = w.heap[k]? := by
  simp [World.setCell, Array.getElem?_modify, Ne.symm h]
theorem Turned.setC {S : Nat → Prop} {w : World} {g o : Nat} (u : Value) (hg : S g) : Turned S w (w.setCell ⟨g, o, none⟩ u) :=
  ⟨rfl, rfl, rfl, by simp [World.setCell], fun k _ hn => setCell_other (fun e => hn (e ▸ hg))⟩
theorem newOr.mono {w w' : World} {v v' : Value} (h : newOr w' v v') (hs : w.heap.size ≤ w'.heap.size) : newOr w v v' := h.imp id fun h k hk => Nat.le_trans hs (h k hk)
theorem newOr.trans {w w' : World} {u v z : Value} (h : newOr w u v) (k : newOr w' v z) (hs : w.heap.size ≤ w'.heap.size) : newOr w u z := by
  rcases k with k | k
  · rw [newOr, k]; exact h
  · exact .inr fun j hj => Nat.le_trans hs (k j hj)

set_option maxRecDepth 1000000 in
set_option maxHeartbeats 2000000 in
theorem doneIn_q {w : World} {hb sp : Nat} {vo vr : Value} {d : Nat} (h : isHb w hb sp vo vr d) (k : Nat) (hk : k ≤ 10000) (hs : sp ≤ 50) :
    Calls Tryz.prog 132 #[.pointer (some ⟨hb, 0, none⟩), .int .i64 k] w fun e w' => e = .returned (.int .i64 ((k * sp : Nat) : Int)) ∧ Below w.heap.size w w' := by
  obtain ⟨c0, c1, c2, c3, c4⟩ := blk5 h
  clear c2 c3 c4
  have hm : k * sp ≤ 10000 * 50 := Nat.mul_le_mul hk hs
  obtain ⟨m, hme⟩ : ∃ m : Nat, m = k * sp := ⟨_, rfl⟩
  have hmi : (k : Int) * (sp : Int) = (m : Int) := by rw [hme]; simp
  rw [← hme] at hm ⊢
  clear hme
  go_enter Tryz.func132, Tryz.ntmps132
  go_wp2_with fail
  go_region
  all_goals go_wp2
  all_goals go_ret
  · exact ⟨rfl, (Below.refl _ w).drew⟩
  · have h0 : m = 0 := by omega
    subst h0
    exact ⟨rfl, (Below.refl _ w).drew⟩

set_option maxRecDepth 1000000 in
set_option maxHeartbeats 2000000 in
theorem histInsert_q {w : World} {hb sp : Nat} {vo vr : Value} {d : Nat} {l : List MOp} (h : isHb w hb sp vo vr d) (ho : ownMOps 0 w vo l) (x : MOp) (hlt : ∀ o ∈ l, cmpI o.op.id x.op.id < 0) (hl : l.length ≤ 100000) :
    Calls Tryz.prog 189 #[.pointer (some ⟨hb, 0, none⟩), .agg #[.int .i64 x.op.id.1, .int .i64 x.op.id.2, .int .i64 x.op.nth, .iface x.t x.v]] w fun e w' => ∃ vo', e = .returned (.int .i64 l.length) ∧ isHb w' hb sp vo' vr d ∧ ownMOps 0 w' vo' (l ++ [x]) ∧ newOr w vo vo' ∧ Turned (fun k => k = hb ∨ vo.ownBlock = some k) w w' := by
  have HX := hid h
  obtain ⟨c0, c1, c2, c3, c4⟩ := blk5 h
  clear c0 c1 c3 c4
  have hhl := blk_lt h
  clear h
  obtain ⟨b0, b1, b2, b3⟩ := boxed4 w (.int .i64 x.op.id.1) (.int .i64 x.op.id.2) (.int .i64 x.op.nth) (.iface x.t x.v) 210
  have HB0 := hid ((Below.refl w.heap.size w).alloc (Nat.le_refl _) (.cells #[.int .i64 x.op.id.1, .int .i64 x.op.id.2, .int .i64 x.op.nth, .iface x.t x.v] 210))
  have HS := hid (fun W (hb : Below w.heap.size w W) => bsearch_q (owns_keep ho hb) x hlt hl)
  obtain ⟨a, c, rfl, hlc, hcm, hf⟩ := owns_form ho
  unfold maxLen at hcm
  clear hf hlt
  have HO := hid ho; clear ho
  replace c2 := keep HB0.out c2
  go_enter Tryz.func189, Tryz.ntmps189
  go_wp2_with fail
  go_region_held3 (fun W => W.cell? ⟨hb, 2, none⟩ = some (.slice a l.length c) ∧ W.cell? ⟨w.heap.size, 0, none⟩ = some (.int .i64 x.op.id.1) ∧ W.cell? ⟨w.heap.size, 1, none⟩ = some (.int .i64 x.op.id.2) ∧ W.cell? ⟨w.heap.size, 2, none⟩ = some (.int .i64 x.op.nth) ∧ W.cell? ⟨w.heap.size, 3, none⟩ = some (.iface x.t x.v)) (go_keep)
    (first
      | (go_at_call 210; refine (HS.out _ HB0.out.drew).mono ?_; rintro e w1 ⟨rfl, hb1⟩; have hb1' := Hid.out (below_drew_left hb1); clear hb1; replace c2 := keep hb1' c2; replace b0 := keep hb1' b0; replace b1 := keep hb1' b1; replace b2 := keep hb1' b2; replace b3 := keep hb1' b3; have HB1 := hid (HB0.out.trans (hb1'.mono HB0.out.size)); clear hb1'))
  have HBA := hid ((Below.refl w1.heap.size w1).alloc (Nat.le_refl _) (.cells #[.int .i64 x.op.id.1, .int .i64 x.op.id.2, .int .i64 x.op.nth, .iface x.t x.v] 210)).drew
  have hbx := boxed4 w1 (.int .i64 x.op.id.1) (.int .i64 x.op.id.2) (.int .i64 x.op.nth) (.iface x.t x.v) 210
  have HI := hid (insert_end_q (w := (w1.alloc (.cells #[.int .i64 x.op.id.1, .int .i64 x.op.id.2, .int .i64 x.op.nth, .iface x.t x.v] 210)).drew) (owns_keep (owns_keep HO.out HB1.out) HBA.out) x w1.heap.size hbx.1 hbx.2.1 hbx.2.2.1 hbx.2.2.2 hl)
  clear hbx
  have HT1 := hid ((Turned.of_below (S := fun k => k = hb ∨ (Value.slice a l.length c).ownBlock = some k) HB1.out).trans (Turned.of_below HBA.out))
  have HX1 := hid (blk_keep (blk_keep HX.out HB1.out) HBA.out)
  have hne : (Value.slice a l.length c).ownBlock ≠ some hb := fun e => by
    obtain ⟨cur, hc⟩ := own_type HO.out e
    exact absurd (cells_type hc HX.out) (by decide)
  have HNE := hid hne; clear hne
  have hz1 := HB1.out.size
  have hnw := World.new_ne w1 ⟨hb, 2, none⟩ c2
  have hb1l : hb < w1.heap.size := by omega
  go_wp2_with fail
  go_region_with (first
    | (go_at_call 212; refine HI.out.mono ?_; rintro e w2 ⟨v', rfl, ho2, hg2, hn2⟩; have HO2 := hid ho2; have HT2 := hid (HT1.out.trans (Turned.of_grown hg2 (fun k hk => .inr hk))); have HX2 := hid ((hg2.block hb (blk_lt HX1.out) (Ne.symm HNE.out)).trans HX1.out); have HN2 := hid hn2; clear ho2 hg2 hn2; obtain ⟨a', c', rfl, hlc', hcm', hf'⟩ := owns_form HO2.out; clear hlc' hcm' hf'; have c2' := (blk5 HX2.out).2.2.1; have hfz := blk_fz HX2.out 2; have hb2 := blk_lt HX2.out))
  all_goals go_wp2
  all_goals go_ret
  all_goals
    have hne2 : (Value.slice a' (l ++ [x]).length c').ownBlock ≠ some hb := fun e => by
      obtain ⟨cur, hc⟩ := own_type HO2.out e
      exact absurd (cells_type hc HX2.out) (by decide)
    refine ⟨.slice a' (l ++ [x]).length c', rfl, ?_, row_other HO2.out hne2 _, HN2.out.mono ?_, HT2.out.trans (Turned.setC _ (.inl rfl))⟩
    · rw [List.length_append]; exact set5_2 HX2.out
    · exact Nat.le_trans HB1.out.size HBA.out.size

end Go.Proofs.YtnkpogjiiohapaaGreatDoor

/-! PHistF: A copy's history: do, of one operation behind all others. -/
namespace Go.Proofs.YtnkpogjiiohapaaGreatDoor
open Go.RowKit
attribute [local go_sem ↓] Go.wp_at_zero Go.wp_at_succ

/-- What do leaves. -/
def DidTo (w w' : World) (hb sp : Nat) (vo vr : Value) (n : Nat) (d bo be : Nat) (R : Nat → Prop) (D : QDoc) (x : QOp) : Prop :=
  ∃ vr' rs' D', isHb w' hb sp vo vr' d ∧ ownDocs 0 w' vr' rs' ∧ rs'.length = (n + 1) / sp + 1 ∧ StepTo D x D' ∧ isQ w' d bo be D'.1 D'.2 ∧ QOwn bo be R D'.1 D'.2 ∧ newOr w vr vr' ∧ Turned (fun k => k = hb ∨ vr.ownBlock = some k ∨ k = bo ∨ k = be) w w'

theorem doTo_one {D D' : QDoc} {x : QOp} (h : DoTo D [x] D') : StepTo D x D' := by
  obtain ⟨D1, h1, h2⟩ := h
  have h' : D' = D1 := h2
  exact h' ▸ h1

theorem own_turned {S : Nat → Prop} {w w' : World} {base : Nat} {e : TypeId} {size : Nat} {v : Value} {n : Nat} {xs : List Value} (h : w.ownsRow base e size v n xs) (ht : Turned S w w') (hs : ∀ g c f, w.heap[g]? = some (.cells c e f) → ¬ S g) : w'.ownsRow base e size v n xs :=
  row_blk h (fun g hg => by
    obtain ⟨c, hc⟩ := own_type h hg
    exact ht.other g (blk_lt hc) (hs g _ _ hc))
theorem wf_ptr (k : Nat) : ∀ u ∈ ptrC k, u.oneCell' = true := by
  intro u hu; simp [ptrC] at hu; subst hu; rfl
theorem cells_ptr {w : World} {g k : Nat} (h0 : w.cell? ⟨g, 0, none⟩ = some (.pointer (some ⟨k, 0, none⟩))) : ∀ j u, (ptrC k)[j]? = some u → w.cell? ⟨g, j, none⟩ = some u := by
  intro j u hu
  match j with
  | 0 => simp [ptrC] at hu; rw [← hu]; exact h0
  | j + 1 => simp [ptrC] at hu
theorem blk1 {w : World} {g : Nat} {a : Value} {t : TypeId} {f : Nat × Nat} (h : w.heap[g]? = some (.cells #[a] t f)) : w.cell? ⟨g, 0, none⟩ = some a := by simp [World.cell?, h]
theorem isQ.kept {S : Nat → Prop} {w w' : World} {d bo be : Nat} {os : List (PId × CQObj)} {els : List (PId × CQEl)} (h : isQ w d bo be os els) (ht : Turned S w w') (hs : ∀ k, S k → ∃ c t f, w.heap[k]? = some (.cells c t f) ∧ t ≠ 174) : isQ w' d bo be os els := by
  have hmap : ∀ (b : Nat) (es : Array MapEntry) (clk : Nat), w.heap[b]? = some (.map es clk) → w'.heap[b]? = w.heap[b]? := fun b es clk hb => ht.other b (blk_lt hb) fun hS => by
    obtain ⟨c, t, f, hc, _⟩ := hs b hS
    rw [hb] at hc; cases hc
  have hv : ∀ v vs, isVals w v vs → isVals w' v vs := fun v vs hv => by
    refine hv.imp id ?_
    rintro ⟨b, es, clk, e, hm⟩
    exact ⟨b, es, clk, e, hm.blockK (hmap b _ _ hm.blk)⟩
  obtain ⟨es, clk, hmo⟩ := h.ho
  obtain ⟨es2, clk2, hme⟩ := h.he
  refine ⟨?_, ⟨es, clk, hmo.blockK (hmap _ _ _ hmo.blk)⟩, ⟨es2, clk2, hme.blockK (hmap _ _ _ hme.blk)⟩, fun p hp => ⟨?_, fun q hq => hv _ _ ((h.hk p hp).2 q hq)⟩, fun p hp => hv _ _ (h.hv p hp)⟩
  · rw [ht.other d (blk_lt h.hd) fun hS => ?_]
    · exact h.hd
    · obtain ⟨c, t, f, hc, hne⟩ := hs d hS
      exact hne (cells_type hc h.hd)
  · refine (h.hk p hp).1.imp id ?_
    rintro ⟨b, es, clk, e, hm⟩
    exact ⟨b, es, clk, e, hm.blockK (hmap b _ _ hm.blk)⟩
theorem isChg.keep {w w' : World} {c : Value} {q : QChg} (h : isChg w c q) (hb : Below w.heap.size w w') : isChg w' c q := by
  rcases q with l | ⟨x, b⟩ | ⟨o, key, x, val, gs⟩ | ⟨o, key, x, gs⟩
  · exact h
  · exact h
  · obtain ⟨s, e, hi⟩ := h; exact ⟨s, e, owns_keep hi hb⟩
  · obtain ⟨s, e, hi⟩ := h; exact ⟨s, e, owns_keep hi hb⟩
theorem isOpAt.keep {w w' : World} {g i : Nat} {o : QOp} (h : isOpAt w g i o) (hb : Below w.heap.size w w') : isOpAt w' g i o := by
  obtain ⟨h0, h1, h2, c, h3, h4⟩ := h
  exact ⟨Go.Proofs.YtnkpogjiiohapaaGreatDoor.keep hb h0, Go.Proofs.YtnkpogjiiohapaaGreatDoor.keep hb h1, Go.Proofs.YtnkpogjiiohapaaGreatDoor.keep hb h2, c, Go.Proofs.YtnkpogjiiohapaaGreatDoor.keep hb h3, h4.keep hb⟩

set_option maxRecDepth 1000000 in
set_option maxHeartbeats 4000000 in
theorem histDo_q {w : World} {hb sp n : Nat} {a : Option Addr} {c : Nat} {vr : Value} {d bo be : Nat} {rs : List Nat} {R : Nat → Prop} {D : QDoc} {g : Nat} {x : MOp} (h : isHb w hb sp (.slice (some ⟨g, 0, none⟩) (n + 1) c) vr d) (hr : ownDocs 0 w vr rs) (hrn : rs.length = n / sp + 1) (hsp : 1 ≤ sp) (hsp' : sp ≤ 50) (hn : n ≤ 1000) (hc : n + 1 ≤ c) (hc' : c ≤ 2 ^ 63 - 1)
    (hq : isQ w d bo be D.1 D.2) (ho : QOwn bo be R D.1 D.2) (hnd : QNd D) (hRn : ∀ k, w.heap.size ≤ k → R k) (hx : isOpAt w g (n * 4) x.op) :
    Calls Tryz.prog 191 #[.pointer (some ⟨hb, 0, none⟩), .int .i64 n] w fun e w' => (∃ r, e = .returned r) ∧ DidTo w w' hb sp (.slice (some ⟨g, 0, none⟩) (n + 1) c) vr n d bo be R D x.op := by
  obtain ⟨m, hm, hm1, hm2, hm3⟩ : ∃ m : Nat, m = (n / sp + 1) * sp ∧ n + 1 ≤ m ∧ m ≤ 100000 ∧ ((m = n + 1 → (n + 1) / sp = n / sp + 1) ∧ (m ≠ n + 1 → (n + 1) / sp = n / sp)) := by
    have h1 := Nat.div_add_mod n sp
    have h2 := Nat.mod_lt n hsp
    have h3 : (n / sp + 1) * sp = sp * (n / sp) + sp := by rw [Nat.add_mul, Nat.mul_comm]; simp
    refine ⟨_, rfl, by omega, ?_, fun e => ?_, fun e => ?_⟩
    · have : sp * (n / sp) ≤ n := Nat.mul_div_le n sp
      omega
    · rw [show n + 1 = sp * (n / sp + 1) by rw [Nat.mul_comm]; exact e.symm, Nat.mul_div_cancel_left _ hsp]
    · rw [show n + 1 = (n % sp + 1) + sp * (n / sp) by omega, Nat.add_mul_div_left _ _ hsp, Nat.div_eq_of_lt (by omega)]; omega
  have hmin : min (m : Int) ((n : Int) + 1) = (n : Int) + 1 := by omega
  have HD := hid (doneIn_q h (n / sp + 1) (by have := Nat.div_le_self n sp; omega) hsp')
  rw [← hm, ← hrn] at HD
  clear hm
  obtain ⟨c0, c1, c2, c3, c4⟩ := blk5 h
  clear c0 c1
  have hhl := blk_lt h
  have hrl : rs.length ≤ 1001 := by rw [hrn]; have := Nat.div_le_self n sp; omega
  obtain ⟨ar, cr, rfl, hlr, hcr, hfr⟩ := owns_form hr
  unfold maxLen at hcr
  clear hfr
  have HX := hid h; clear h
  have HR := hid hr; clear hr
  have HQ := hid hq; clear hq
  have HO := hid ho; clear ho
  have HN := hid hnd; clear hnd
  have HRN := hid hRn; clear hRn
  have HOP := hid hx; clear hx
  have HM3 := hid hm3; clear hm3
  have HRNL := hid hrn; clear hrn
  go_enter Tryz.func191, Tryz.ntmps191
  go_wp2_with fail
  go_loopw [1] (fun i wr => (i = .int .i64 n ∧ wr = w) ∨ (i = .int .i64 ((n : Int) + 1) ∧ DidTo w wr hb sp (.slice (some ⟨g, 0, none⟩) (n + 1) c) (.slice ar rs.length cr) n d bo be R D x.op)) (fun i _ => n + 1 - (intOf i).toNat)
  case atStart => exact .inl ⟨rfl, rfl⟩
  case round =>
    rcases hrel with ⟨rfl, rfl⟩ | ⟨rfl, hdid⟩
    · go_wp2_with fail
      refine HD.out.mono ?_
      rintro e w1 ⟨rfl, hb1⟩
      replace c2 := keep hb1 c2
      replace c3 := keep hb1 c3
      replace c4 := keep hb1 c4
      have HB1 := hid hb1; clear hb1
      have hz1 := HB1.out.size
      have HX1 := hid (blk_keep HX.out HB1.out)
      have hmb : hb ≠ bo ∧ hb ≠ be := by
        obtain ⟨es, clk, hmo⟩ := (HQ.out.keep HB1.out).ho
        obtain ⟨es2, clk2, hme⟩ := (HQ.out.keep HB1.out).he
        have h1 := HX1.out
        constructor
        · rintro rfl; unfold isHb at h1; rw [hmo.blk] at h1; cases h1
        · rintro rfl; unfold isHb at h1; rw [hme.blk] at h1; cases h1
      have HMB := hid hmb; clear hmb
      have HMB2 := hid (show ∀ g c f, w1.drew.heap[g]? = some (.cells c 101 f) → ¬ (g = bo ∨ g = be) from fun g c f hg hs => by
        obtain ⟨es, clk, hmo⟩ := (HQ.out.keep HB1.out.drew).ho
        obtain ⟨es2, clk2, hme⟩ := (HQ.out.keep HB1.out.drew).he
        rcases hs with rfl | rfl
        · rw [hmo.blk] at hg; cases hg
        · rw [hme.blk] at hg; cases hg)
      have hn0 : (0 : Int) ≤ (n : Int) := Int.natCast_nonneg _
      have hn1 : (n : Int) ≤ (n : Int) + 1 := by omega
      have hn2 : (n : Int) + 1 ≤ (c : Int) := by omega
      have hone : (n : Int) < (n : Int) + 1 := by omega
      have HOPA := hid (show isOpAt w1.drew g (n * 4) x.op from isOpAt.keep HOP.out HB1.out.drew)
      have hcn : ¬ (c = n) := by omega
      have HDO := hid (show Calls Tryz.prog 134 #[.pointer (some ⟨d, 0, none⟩), .slice (some ⟨g, n * 4, none⟩) 1 (c - n)] w1.drew _ from do_q (w := w1.drew) (HQ.out.keep HB1.out.drew) HO.out HN.out (fun k hk => HRN.out k (Nat.le_trans hz1 hk)) g (n * 4) (c - n) [x.op] (by simp; omega) (by simp) (by omega) (fun k hk => by
        have : k = 0 := by simp at hk; exact hk
        subst this
        simpa using HOPA.out))
      rcases (show m = n + 1 ∨ n + 1 < m by omega) with hme | hlt
      · subst hme
        go_wp2_with fail
        all_goals (try (exfalso; omega))
        go_region_held3 (fun W => W.cell? ⟨hb, 2, none⟩ = some (.slice (some ⟨g, 0, none⟩) (n + 1) c) ∧ W.cell? ⟨hb, 4, none⟩ = some (.pointer (some ⟨d, 0, none⟩))) (go_keep)
          (first | (go_at_call 134; refine HDO.out.mono ?_; rintro e w2 ⟨⟨r, rfl⟩, ⟨D', hdo, hq2, ho2⟩, ht2⟩; replace c2 := ht2.cell (w := w1.drew) (fun h => h.elim HMB.out.1 HMB.out.2) c2; replace c3 := ht2.cell (w := w1.drew) (fun h => h.elim HMB.out.1 HMB.out.2) c3; replace c4 := ht2.cell (w := w1.drew) (fun h => h.elim HMB.out.1 HMB.out.2) c4; have HX2 := hid ((ht2.other hb (blk_lt HX1.out) (fun h => h.elim HMB.out.1 HMB.out.2)).trans HX1.out); have HST := hid (doTo_one hdo); have HQ2 := hid hq2; have HO2 := hid ho2; have HT2 := hid ht2; clear hdo hq2 ho2 ht2))
        have HR2 := hid (show ownDocs 0 w2 (.slice ar rs.length cr) rs from own_turned (owns_keep HR.out HB1.out.drew) HT2.out HMB2.out)
        have HB2D := hid (show Below w2.heap.size w2 w2.drew from (Below.refl _ w2).drew)
        have HCL := hid (docClone_q (HQ2.out.keep HB2D.out))
        have hnw2 := World.new_ne w2 ⟨hb, 3, none⟩ c3
        have HNR := hid (show some hb ≠ (Value.slice ar rs.length cr).ownBlock from fun e => by
          obtain ⟨cur, hc⟩ := own_type HR2.out e.symm
          exact absurd (cells_type hc HX2.out) (by decide))
        have hb2l := blk_lt HX2.out
        go_wp2_with fail
        go_region_law (first
            | (go_simp; go_at_call 213; refine HCL.out.mono ?_; rintro e w3 ⟨⟨d3, bo3, be3, rfl, _, _, _, _, _⟩, hb3⟩; have hb3' := Hid.out (below_drew_left hb3); clear hb3; replace c2 := keep hb3' c2; replace c3 := keep hb3' c3; replace c4 := keep hb3' c4; have hz3 := hb3'.size; have hb3l : hb < w3.heap.size := (by omega); have hnw3 := World.new_ne w3 ⟨hb, 3, none⟩ c3; have HX3 := hid (blk_keep HX2.out hb3'); have HR3 := hid (show ownDocs 0 w3 (.slice ar rs.length cr) rs from owns_keep HR2.out hb3'); have HB3 := hid hb3'; clear hb3'; have HBA := hid (show Below w3.heap.size w3 (w3.alloc (.cells #[.pointer (some ⟨d3, 0, none⟩)] 101)) from (Below.refl _ w3).alloc (Nat.le_refl _) _); dsimp only)
            | (refine step_app ptrC 1 8 200 101 (.pointer none) (by kernel_rfl) Tryz.underlying200 rfl (by omega) (fun _ => rfl) (by rfl) (.tmp 47) (.tmp 53) (by rfl) 0 (.slice ar rs.length cr) rs (by rfl) (owns_keep HR3.out HBA.out) w3.heap.size 1 d3 (by rfl) (cells_ptr (blk1 (blk_new w3 _))) (wf_ptr d3) (by omega) (by unfold maxLen; omega) (Nat.zero_le _) ?_; intro v4 w4 ho4 hg4 hn4; have HO4 := hid ho4; have HG4 := hid hg4; have HN4 := hid hn4; have hbl4 : w4.heap[hb]? = w3.heap[hb]? := ((hg4.block hb (by simp; omega) (HNR.out)).trans (alloc_old_r _ _ hb3l)); have HX4 := hid (hbl4.trans HX3.out); clear hbl4 ho4 hg4 hn4; obtain ⟨a4, n4c, rfl, hl4, hc4, hf4⟩ := owns_form HO4.out; clear hl4 hc4 hf4; replace c3 := (blk5 HX4.out).2.2.2.1; have hfz4 := blk_fz HX4.out 3))
        all_goals go_wp2
        all_goals go_roundw
        all_goals first
          | (simp [intOf]; done)
          | (
            have hne4 : (Value.slice a4 (rs.length + 1) n4c).ownBlock ≠ some hb := fun e => by
              obtain ⟨cur, hc⟩ := own_type HO4.out e
              exact absurd (cells_type hc HX4.out) (by decide)
            have ht4 : Turned (fun k => k = hb ∨ (Value.slice ar rs.length cr).ownBlock = some k) w2 w4 := (Turned.of_below (HB3.out.trans (HBA.out.mono HB3.out.size))).trans (Turned.of_grown HG4.out fun k hk => .inr hk)
            have ht5 := ht4.trans (Turned.setC (w := w4) (g := hb) (o := 3) (.slice a4 (rs.length + 1) n4c) (.inl rfl))
            have hS : ∀ k, (k = hb ∨ (Value.slice ar rs.length cr).ownBlock = some k) → ∃ c t f, w2.heap[k]? = some (.cells c t f) ∧ t ≠ 174 := fun k hk => by
              rcases hk with rfl | hk
              · exact ⟨_, _, _, HX2.out, by decide⟩
              · obtain ⟨cur, hc⟩ := own_type HR2.out hk
                exact ⟨_, _, _, hc, by decide⟩
            refine .inr ⟨by go_num, .slice a4 (rs.length + 1) n4c, rs ++ [d3], D', set5_3 HX4.out, ?_, ?_, HST.out, HQ2.out.kept ht5 hS, HO2.out, ?_, ?_⟩
            · have := row_other HO4.out hne4 (o := 3) (.slice a4 (rs.length + 1) n4c)
              unfold ownDocs
              rw [List.length_append]
              exact this
            · rw [List.length_append, HRNL.out, HM3.out.1 (by first | trivial | rfl)]; rfl
            · exact HN4.out.mono (Nat.le_trans (Nat.le_trans hz1 HT2.out.size) (Nat.le_trans HB3.out.size HBA.out.size))
            · exact (Turned.of_below HB1.out.drew).trans ((HT2.out.mono fun k hk => .inr (.inr hk)).trans (ht5.mono fun k hk => hk.imp id .inl)))
      · go_wp2_with fail
        all_goals (try (exfalso; omega))
        go_region_held3 (fun W => W.cell? ⟨hb, 2, none⟩ = some (.slice (some ⟨g, 0, none⟩) (n + 1) c) ∧ W.cell? ⟨hb, 4, none⟩ = some (.pointer (some ⟨d, 0, none⟩))) (go_keep)
          (first | (go_at_call 134; refine HDO.out.mono ?_; rintro e w2 ⟨⟨r, rfl⟩, ⟨D', hdo, hq2, ho2⟩, ht2⟩; replace c2 := ht2.cell (w := w1.drew) (fun h => h.elim HMB.out.1 HMB.out.2) c2; replace c3 := ht2.cell (w := w1.drew) (fun h => h.elim HMB.out.1 HMB.out.2) c3; replace c4 := ht2.cell (w := w1.drew) (fun h => h.elim HMB.out.1 HMB.out.2) c4; have HX2 := hid ((ht2.other hb (blk_lt HX1.out) (fun h => h.elim HMB.out.1 HMB.out.2)).trans HX1.out); have HST := hid (doTo_one hdo); have HQ2 := hid hq2; have HO2 := hid ho2; have HT2 := hid ht2; clear hdo hq2 ho2 ht2))
        go_wp2
        go_roundw
        case rel => exact .inr ⟨by go_num, .slice ar rs.length cr, rs, D', HX2.out, own_turned (owns_keep HR.out HB1.out.drew) HT2.out HMB2.out, by rw [HRNL.out, HM3.out.2 (by omega)], HST.out, HQ2.out, HO2.out, .inl rfl, (Turned.of_below HB1.out.drew).trans (HT2.out.mono fun k hk => .inr (.inr hk))⟩
        case measure => simp [intOf]
    · have hdid' := hdid
      obtain ⟨vr', rs', D', hx', _⟩ := hdid'
      obtain ⟨e0, e1, e2, e3, e4⟩ := blk5 hx'
      clear hx' e0 e1 e3 e4
      have HDI := hid hdid; clear hdid
      go_wp2
      go_end0
      exact ⟨⟨_, rfl⟩, HDI.out⟩

end Go.Proofs.YtnkpogjiiohapaaGreatDoor

/-! PHistG: A copy's history: Add, of one operation behind all others. -/
namespace Go.Proofs.YtnkpogjiiohapaaGreatDoor
open Go.RowKit
attribute [local go_sem ↓] Go.wp_at_zero Go.wp_at_succ

/-- The history in memory; D is what all its operations make. -/
structure isHist (w : World) (hb sp : Nat) (vo vr : Value) (ops : List MOp) (rs : List Nat) (d bo be : Nat) (R : Nat → Prop) (D : QDoc) : Prop where
  blk : isHb w hb sp vo vr d
  row : ownMOps 0 w vo ops
  mem : ownDocs 0 w vr rs
  cnt : rs.length = ops.length / sp + 1
  sp1 : 1 ≤ sp
  sp2 : sp ≤ 50
  len : ops.length ≤ 100
  q : isQ w d bo be D.1 D.2
  own : QOwn bo be R D.1 D.2
  nd : QNd D

theorem isHb.turned {S : Nat → Prop} {w w' : World} {hb sp : Nat} {vo vr : Value} {d : Nat} (h : isHb w hb sp vo vr d) (ht : Turned S w w') (hs : ¬ S hb) : isHb w' hb sp vo vr d := by
  unfold isHb at *
  rw [ht.other hb (blk_lt h) hs]; exact h

theorem isChg.kept {S : Nat → Prop} {w w' : World} {c : Value} {q : QChg} (h : isChg w c q) (ht : Turned S w w') (hs : ∀ k, S k → ∃ c t f, w.heap[k]? = some (.cells c t f) ∧ t ≠ 36) : isChg w' c q := by
  have hi : ∀ s gs, isIds w s gs → isIds w' s gs := fun s gs hi => own_turned hi ht (fun g c f hg hS => by
    obtain ⟨c', t, f', hc, hne⟩ := hs g hS
    exact hne (cells_type hc hg))
  rcases q with l | ⟨x, b⟩ | ⟨o, key, x, val, gs⟩ | ⟨o, key, x, gs⟩
  · exact h
  · exact h
  · obtain ⟨s, e, h'⟩ := h; exact ⟨s, e, hi _ _ h'⟩
  · obtain ⟨s, e, h'⟩ := h; exact ⟨s, e, hi _ _ h'⟩

set_option maxRecDepth 1000000 in
set_option maxHeartbeats 4000000 in
theorem histAdd_q {w : World} {hb sp : Nat} {vo vr : Value} {ops : List MOp} {rs : List Nat} {d bo be : Nat} {R : Nat → Prop} {D : QDoc} (h : isHist w hb sp vo vr ops rs d bo be R D) (hl : ops.length < 100) (hRn : ∀ k, w.heap.size ≤ k → R k) (x : MOp) (hlt : ∀ o ∈ ops, cmpI o.op.id x.op.id < 0) (g : Nat)
    (h0 : w.cell? ⟨g, 0, none⟩ = some (.int .i64 x.op.id.1)) (h1 : w.cell? ⟨g, 1, none⟩ = some (.int .i64 x.op.id.2)) (h2 : w.cell? ⟨g, 2, none⟩ = some (.int .i64 x.op.nth)) (h3 : w.cell? ⟨g, 3, none⟩ = some (.iface x.t x.v)) (hx : isChg w (.iface x.t x.v) x.op.chg) :
    Calls Tryz.prog 170 #[.pointer (some ⟨hb, 0, none⟩), .slice (some ⟨g, 0, none⟩) 1 1] w fun e w' => (∃ r, e = .returned r) ∧ ∃ vo' vr' rs' D', isHist w' hb sp vo' vr' (ops ++ [x]) rs' d bo be R D' ∧ StepTo D x.op D' ∧ newOr w vo vo' ∧ newOr w vr vr' ∧ Turned (fun k => k = hb ∨ vo.ownBlock = some k ∨ vr.ownBlock = some k ∨ k = bo ∨ k = be) w w' := by
  obtain ⟨a, c, rfl, hlc, hcm, hf⟩ := owns_form h.row
  unfold maxLen at hcm
  clear hf
  obtain ⟨c0, c1, c2, c3, c4⟩ := blk5 h.blk
  clear c0 c1 c3 c4
  have hhl := blk_lt h.blk
  have HH := hid h; clear h
  have HLT := hid hlt; clear hlt
  have HRN := hid hRn; clear hRn
  have HC := hid hx; clear hx
  have hgl := World.block_lt_of_cell? w _ h0
  go_enter Tryz.func170, Tryz.ntmps170
  go_wp2_with fail
  refine wp_loop_rounds 2 ?_
  rw [rounds_succ]
  go_wp2_with fail
  have HB1 := hid ((Below.refl w.heap.size w).alloc (Nat.le_refl _) (.cells #[.int .i64 x.op.id.1, .int .i64 x.op.id.2, .int .i64 x.op.nth, .iface x.t x.v] 210))
  refine (histInsert_q (blk_keep HH.out.blk HB1.out) (owns_keep HH.out.row HB1.out) x HLT.out (by omega)).mono ?_
  rintro e w2 ⟨vo', rfl, hx2, ho2, hn2, ht2⟩
  have HX2 := hid hx2; have HO2 := hid ho2; have HN2 := hid hn2; have HT2 := hid ht2
  clear hx2 ho2 hn2 ht2
  have hv' : ∃ g' c', vo' = .slice (some ⟨g', 0, none⟩) (ops.length + 1) c' ∧ ops.length + 1 ≤ c' ∧ c' ≤ 2 ^ 63 - 1 := by
    obtain ⟨a', c', e, h1, h2, h3⟩ := owns_form HO2.out
    rw [List.length_append] at e h1 h3
    obtain ⟨g', e'⟩ := h3 ops.length (by simp)
    subst e'
    exact ⟨g', c', e, h1, h2⟩
  obtain ⟨g', c', rfl, hc1, hc2⟩ := hv'
  have HCS := hid (show isOpAt w2 g' (ops.length * 4) x.op from by
    have := HO2.out
    rw [show ops.length + 1 = (ops ++ [x]).length by simp] at this
    obtain ⟨k0, k1, k2, k3⟩ := ownMOps.cells this ops.length (by simp)
    simp only [List.getElem_concat_length] at k0 k1 k2 k3
    refine ⟨k0, k1, k2, _, k3, ?_⟩
    exact (HC.out.keep HB1.out).kept HT2.out (fun k hk => by
      rcases hk with rfl | hk
      · exact ⟨_, _, _, blk_keep HH.out.blk HB1.out, by decide⟩
      · obtain ⟨cur, hc⟩ := own_type (owns_keep HH.out.row HB1.out) hk
        exact ⟨_, _, _, hc, by decide⟩))
  have hz : w.heap.size ≤ w2.heap.size := Nat.le_trans HB1.out.size HT2.out.size
  go_wp2_with fail
  rw [rounds_succ]
  go_wp2_with fail
  have HS1 := hid (show ∀ k, (k = hb ∨ (Value.slice a ops.length c).ownBlock = some k) → ∃ c' t f, (w.alloc (.cells #[.int .i64 x.op.id.1, .int .i64 x.op.id.2, .int .i64 x.op.nth, .iface x.t x.v] 210)).heap[k]? = some (.cells c' t f) ∧ t ≠ 174 ∧ t ≠ 101 from fun k hk => by
    rcases hk with rfl | hk
    · exact ⟨_, _, _, blk_keep HH.out.blk HB1.out, by decide, by decide⟩
    · obtain ⟨cur, hc⟩ := own_type (owns_keep HH.out.row HB1.out) hk
      exact ⟨_, _, _, hc, by decide, by decide⟩)
  have HQ2 := hid ((HH.out.q.keep HB1.out).kept HT2.out (fun k hk => by obtain ⟨c', t, f, h1, h2, _⟩ := HS1.out k hk; exact ⟨c', t, f, h1, h2⟩))
  have HR2 := hid (show ownDocs 0 w2 vr rs from own_turned (owns_keep HH.out.mem HB1.out) HT2.out (fun g c f hg hS => by
    obtain ⟨c', t, f', h1, _, h2⟩ := HS1.out g hS
    exact h2 (cells_type h1 hg)))
  refine (histDo_q (x := x) (a := none) HX2.out HR2.out HH.out.cnt HH.out.sp1 HH.out.sp2 (by omega) hc1 hc2 HQ2.out HH.out.own HH.out.nd (fun k hk => HRN.out k (Nat.le_trans hz hk)) HCS.out).mono ?_
  rintro e w3 ⟨⟨r, rfl⟩, vr', rs', D', hx3, hr3, hl3, hst, hq3, ho3, hn3, ht3⟩
  have HX3 := hid (And.intro hx3 (And.intro hr3 (And.intro hl3 (And.intro hst (And.intro hq3 (And.intro ho3 (And.intro hn3 ht3)))))))
  clear hx3 hr3 hl3 hst hq3 ho3 hn3 ht3
  go_wp2
  go_end0
  obtain ⟨hx3, hr3, hl3, hst, hq3, ho3, hn3, ht3⟩ := HX3.out
  have hrow : ownMOps 0 w3 (.slice (some ⟨g', 0, none⟩) (ops.length + 1) c') (ops ++ [x]) := own_turned HO2.out ht3 (fun g c f hg hS => by
    rcases hS with rfl | hS | rfl | rfl
    · exact absurd (cells_type hg HX2.out) (by decide)
    · obtain ⟨cur, hc⟩ := own_type HR2.out hS
      exact absurd (cells_type hg hc) (by decide)
    · obtain ⟨es, clk, hm⟩ := HQ2.out.ho
      rw [hm.blk] at hg; cases hg
    · obtain ⟨es, clk, hm⟩ := HQ2.out.he
      rw [hm.blk] at hg; cases hg)
  refine ⟨⟨_, rfl⟩, _, vr', rs', D', ⟨hx3, hrow, hr3, by rw [hl3, List.length_append]; rfl, HH.out.sp1, HH.out.sp2, by rw [List.length_append]; simp; omega, hq3, ho3, HH.out.nd.step hst⟩, hst, HN2.out.mono HB1.out.size, hn3.mono hz, ?_⟩
  refine (Turned.of_below HB1.out).trans ((HT2.out.mono fun k hk => hk.imp id .inl).trans (ht3.mono fun k hk => ?_))
  rcases hk with h | h | h | h
  · exact .inl h
  · exact .inr (.inr (.inl h))
  · exact .inr (.inr (.inr (.inl h)))
  · exact .inr (.inr (.inr (.inr h)))

end Go.Proofs.YtnkpogjiiohapaaGreatDoor
