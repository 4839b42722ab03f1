/- Our own text (PArgA). -/
import Derived.Deep.Slices
import Derived.ReadsIn
import Derived.Test.YtnkpogjiiohapaaGreatDoorP14
set_option linter.unusedSimpArgs false
set_option linter.unusedVariables false

/-! PArgA: The script, as the form reads it. -/
namespace Go.Proofs.YtnkpogjiiohapaaGreatDoor
open Go.RowKit Go.ChangeShapes Go.WideShapes Go.Deep

section
/-- A number, a text, a yes or no: read without the memory. -/
theorem trod_flat {H : Type} {enc : TypeId × Value → H} {P : Program} {w w' : World} {base : Nat} {sp sp' : Nat → Bool} {held : Bool} {t : TypeId} (ht : P.underlying t = some (.int .i64) ∨ P.underlying t = some .string ∨ P.underlying t = some .bool) (n : Nat) (cs : List Value) : DataW.trod enc P w base sp held n t cs = DataW.trod enc P w' base sp' held n t cs := by
  cases n with
  | zero => rfl
  | succ n =>
    rcases ht with ht | ht | ht <;> unfold DataW.trod <;> rw [ht] <;>
    · match cs with
      | [] => rfl
      | [c] => cases c <;> rfl
      | c :: _ :: _ => cases c <;> rfl
theorem trod_struct_same {H : Type} {enc : TypeId × Value → H} {P : Program} {w w' : World} {base : Nat} {sp sp' : Nat → Bool} {held : Bool} {t : TypeId} {fs : Array Field} (ht : P.underlying t = some (.struct fs)) (hf : ∀ f ∈ fs.toList, ∀ n cs, DataW.trod enc P w base sp held n f.type cs = DataW.trod enc P w' base sp' held n f.type cs) (n : Nat) (cs : List Value) : DataW.trod enc P w base sp held n t cs = DataW.trod enc P w' base sp' held n t cs := by
  cases n with
  | zero => rfl
  | succ n =>
    unfold DataW.trod
    rw [ht]
    have e : (fs.toList.mapM fun f => DataW.trod enc P w base sp held n f.type ((cs.drop f.offset).take (P.cellsOf f.type))) = fs.toList.mapM fun f => DataW.trod enc P w' base sp' held n f.type ((cs.drop f.offset).take (P.cellsOf f.type)) := mapM_congr_mem fun f hm => hf f hm _ _
    split <;> simp_all

theorem trod_int64 {H : Type} {enc : TypeId × Value → H} {P : Program} {w : World} {base : Nat} {sp : Nat → Bool} {held : Bool} {t : TypeId} {n : Nat} {cs : List Value} {x : DataW H × List MemPlace} (ht : P.underlying t = some (.int .i64)) (h : DataW.trod enc P w base sp held n t cs = some x) : ∃ k, cs = [.int .i64 k] ∧ intOk k := by
  obtain ⟨k, h1, _, h3⟩ := DataW.trod_int ht h
  refine ⟨k, h1, ?_⟩
  simp [Lit.wf] at h3
  exact h3
end

section
theorem cellsOp : Tryz.prog.cellsOf 87 = 11 := by kernel_rfl
theorem cellsId : Tryz.prog.cellsOf 36 = 2 := by kernel_rfl
theorem cellsInt : Tryz.prog.cellsOf 3 = 1 := by kernel_rfl
theorem cellsStr : Tryz.prog.cellsOf 9 = 1 := by kernel_rfl
theorem cellsBool : Tryz.prog.cellsOf 4 = 1 := by kernel_rfl
set_option maxRecDepth 100000 in
/-- A step, read. -/
theorem trod_op {H : Type} {enc : TypeId × Value → H} {w : World} {base : Nat} {sp : Nat → Bool} {held : Bool} {n : Nat} {cs : List Value} {x : DataW H × List MemPlace} (h : DataW.trod enc Tryz.prog w base sp held n 87 cs = some x) :
    ∃ o : LOp, cs = (lopA o).toList ∧ LOk o := by
  obtain ⟨xs, m, rfl, rfl, hl, hlen, hf⟩ := DataW.trod_struct Tryz.underlying87 h
  rw [cellsOp] at hl
  match xs, hlen with
  | [y0, y1, y2, y3, y4, y5, y6, y7, y8, y9], _ =>
    match cs, hl with
    | [c0, c1, c2, c3, c4, c5, c6, c7, c8, c9, c10], _ =>
      have f0 : DataW.trod enc Tryz.prog w base sp held m 3 [c0] = some y0 := by simpa [cellsInt] using hf 0 _ rfl
      have f1 : DataW.trod enc Tryz.prog w base sp held m 3 [c1] = some y1 := by simpa [cellsInt] using hf 1 _ rfl
      have f2 : DataW.trod enc Tryz.prog w base sp held m 3 [c2] = some y2 := by simpa [cellsInt] using hf 2 _ rfl
      have f3 : DataW.trod enc Tryz.prog w base sp held m 3 [c3] = some y3 := by simpa [cellsInt] using hf 3 _ rfl
      have f4 : DataW.trod enc Tryz.prog w base sp held m 36 [c4, c5] = some y4 := by simpa [cellsId] using hf 4 _ rfl
      have f5 : DataW.trod enc Tryz.prog w base sp held m 3 [c6] = some y5 := by simpa [cellsInt] using hf 5 _ rfl
      have f6 : DataW.trod enc Tryz.prog w base sp held m 9 [c7] = some y6 := by simpa [cellsStr] using hf 6 _ rfl
      have f7 : DataW.trod enc Tryz.prog w base sp held m 3 [c8] = some y7 := by simpa [cellsInt] using hf 7 _ rfl
      have f8 : DataW.trod enc Tryz.prog w base sp held m 3 [c9] = some y8 := by simpa [cellsInt] using hf 8 _ rfl
      have f9 : DataW.trod enc Tryz.prog w base sp held m 4 [c10] = some y9 := by simpa [cellsBool] using hf 9 _ rfl
      obtain ⟨k0, e0, h0⟩ := trod_int64 Tryz.underlying3 f0
      obtain ⟨k1, e1, h1⟩ := trod_int64 Tryz.underlying3 f1
      obtain ⟨k2, e2, h2⟩ := trod_int64 Tryz.underlying3 f2
      obtain ⟨k3, e3, h3⟩ := trod_int64 Tryz.underlying3 f3
      obtain ⟨z0, z1, m2, _, _, g0, g1⟩ := trod_struct2 Tryz.underlying36 f4
      simp only [cellsInt, List.drop, List.take] at g0 g1
      obtain ⟨k4, e4, h4⟩ := trod_int64 Tryz.underlying3 g0
      obtain ⟨k5, e5, h5⟩ := trod_int64 Tryz.underlying3 g1
      obtain ⟨k6, e6, h6⟩ := trod_int64 Tryz.underlying3 f5
      obtain ⟨key, e7, _, h7⟩ := DataW.trod_string Tryz.underlying9 f6
      obtain ⟨k8, e8, h8⟩ := trod_int64 Tryz.underlying3 f7
      obtain ⟨k9, e9, h9⟩ := trod_int64 Tryz.underlying3 f8
      obtain ⟨yes, e10, _⟩ := DataW.trod_bool Tryz.underlying4 f9
      simp only [List.cons.injEq, and_true] at e0 e1 e2 e3 e4 e5 e6 e7 e8 e9 e10
      subst e0 e1 e2 e3 e4 e5 e6 e7 e8 e9 e10
      exact ⟨⟨k0, k1, k2, k3, k4, k5, k6, key, k8, k9, yes⟩, rfl, ⟨h1, h6, h8, h9, h7⟩⟩
set_option maxRecDepth 100000 in
theorem trod_op_same {H : Type} {enc : TypeId × Value → H} {w : World} {base : Nat} {sp : Nat → Bool} {held : Bool} (w' : World) (sp' : Nat → Bool) (n : Nat) (cs : List Value) : DataW.trod enc Tryz.prog w base sp held n 87 cs = DataW.trod enc Tryz.prog w' base sp' held n 87 cs := by
  have hi : ∀ n cs, DataW.trod enc Tryz.prog w base sp held n 3 cs = DataW.trod enc Tryz.prog w' base sp' held n 3 cs := trod_flat (.inl Tryz.underlying3)
  have hs : ∀ n cs, DataW.trod enc Tryz.prog w base sp held n 9 cs = DataW.trod enc Tryz.prog w' base sp' held n 9 cs := trod_flat (.inr (.inl Tryz.underlying9))
  have hb : ∀ n cs, DataW.trod enc Tryz.prog w base sp held n 4 cs = DataW.trod enc Tryz.prog w' base sp' held n 4 cs := trod_flat (.inr (.inr Tryz.underlying4))
  have hd : ∀ n cs, DataW.trod enc Tryz.prog w base sp held n 36 cs = DataW.trod enc Tryz.prog w' base sp' held n 36 cs := trod_struct_same Tryz.underlying36 fun f hf => by
    simp only [List.mem_cons, List.not_mem_nil, or_false] at hf
    rcases hf with rfl | rfl <;> exact hi
  refine trod_struct_same Tryz.underlying87 (fun f hf => ?_) n cs
  simp only [List.mem_cons, List.not_mem_nil, or_false] at hf
  rcases hf with rfl | rfl | rfl | rfl | rfl | rfl | rfl | rfl | rfl | rfl <;> first | exact hi | exact hs | exact hb | exact hd
end

/-- From 'for every i there is one' to one function. -/
theorem pick_lt {α : Type} (d : α) {n : Nat} {p : Nat → α → Prop} (h : ∀ i, i < n → ∃ x, p i x) : ∃ f : Nat → α, ∀ i, i < n → p i (f i) := by
  have h1 : ∀ i, ∃ x, i < n → p i x := fun i => by
    by_cases hi : i < n
    · obtain ⟨x, hx⟩ := h i hi
      exact ⟨x, fun _ => hx⟩
    · exact ⟨d, fun h' => absurd h' hi⟩
  exact ⟨fun i => Classical.choose (h1 i), fun i => Classical.choose_spec (h1 i)⟩

/-- The script in memory. -/
def isScript (w : World) (sa : Option Addr) (os : List LOp) : Prop := ∀ i (hi : i < os.length), ∃ g off, sa = some ⟨g, off, none⟩ ∧ ∀ j v, (lopA os[i])[j]? = some v → w.cell? ⟨g, off + i * 11 + j, none⟩ = some v
theorem isScript.keep {B : Nat} {w w' : World} {sa : Option Addr} {os : List LOp} (h : isScript w sa os) (hb : Below B w w') (hB : w.heap.size ≤ B) : isScript w' sa os := fun i hi => by
  obtain ⟨g, off, h1, h2⟩ := h i hi
  refine ⟨g, off, h1, fun j v hv => ?_⟩
  have h3 := h2 j v hv
  have hl := World.block_lt_of_cell? w _ h3
  rw [hb.cell (Nat.lt_of_lt_of_le hl hB)]
  exact h3

set_option maxRecDepth 100000 in
/-- The script, opened; and it reads as it did wherever nothing old has turned. -/
theorem open_script {H : Type} {enc : TypeId × Value → H} {W : World} {v : Value} {d : DataW H} {ps : List MemPlace} (h : DataW.Trod enc Tryz.prog W 0 (fun _ => true) true 22 v d ps) (hlt : ∀ p ∈ ps, p.block < W.heap.size) (hv : ∃ a n c, v = .slice a n c) :
    ∃ (sa : Option Addr) (os : List LOp) (cap : Nat), v = .slice sa os.length cap ∧ (∀ i (hi : i < os.length), LOk os[i]) ∧ isScript W sa os ∧ (d = .nil ∧ os = [] ∨ ∃ elems spare, d = .slice elems spare ∧ elems.length = os.length) ∧ os.length ≤ 9223372036854775807 ∧
      ∀ W', Below W.heap.size W W' → ∀ sp : Nat → Bool, (∀ p ∈ ps, sp p.block = true) → DataW.Trod enc Tryz.prog W' 0 sp true 22 v d ps := by
  obtain ⟨fuel, h⟩ := h
  obtain ⟨va, vn, vc, rfl⟩ := hv
  rcases open_slice Tryz.underlying22 h with ⟨hc, hx⟩ | ⟨a, len, cap, m, n, D, Pl, hc, hb, hl, hm, hmm, hx, hall⟩
  · simp [Value.cells] at hc
    obtain ⟨rfl, rfl, rfl⟩ := hc
    simp only [Prod.mk.injEq] at hx
    obtain ⟨rfl, rfl⟩ := hx
    refine ⟨none, [], 0, rfl, (fun i hi => (by cases hi)), (fun i hi => (by cases hi)), .inl ⟨rfl, rfl⟩, (by simp), (fun W' _ sp _ => ⟨1, ?_⟩)⟩
    simp [Value.cells, DataW.trod, Tryz.underlying22]
  · simp [Value.cells] at hc
    obtain ⟨rfl, rfl, rfl⟩ := hc
    simp only [if_true] at hmm
    subst hmm
    simp only [Prod.mk.injEq] at hx
    obtain ⟨rfl, rfl⟩ := hx
    rw [cellsOp] at hall
    obtain ⟨O, hO⟩ := pick_lt (α := LOp) ⟨0, 0, 0, 0, 0, 0, 0, ⟨#[]⟩, 0, 0, false⟩ (p := fun i o => LOk o ∧ W.cells? 0 (a.add (i * 11)) 11 = some (lopA o).toList ∧ DataW.trod enc Tryz.prog W 0 (fun _ => true) true n 87 (lopA o).toList = some (D i, Pl i)) (fun i hi => by
      obtain ⟨cs, h1, h2⟩ := hall i hi
      obtain ⟨o, rfl, h3⟩ := trod_op h2
      exact ⟨o, h3, h1, h2⟩)
    unfold maxLen at hm
    refine ⟨some a, (List.range vn).map O, m, by simp, fun i hi => ?_, fun i hi => ?_, .inr ⟨_, _, rfl, by simp⟩, by simp; omega, fun W' hbel sp hsp => ?_⟩
    · simp at hi ⊢
      exact (hO i (by omega)).1
    · simp at hi
      have h1 := (World.cells?_some (hO i (by omega)).2.1).2.2
      have hs : a.spot = none := by
        by_cases h0 : i = 0
        · subst h0
          have := World.cell?_spot ((h1 0 (by omega)).trans (show _ = some (Value.int .i64 (O 0).kind) from rfl))
          simpa [Addr.add] using this
        · have := World.cell?_spot ((World.cells?_some (hO 0 (by omega)).2.1).2.2 0 (by omega) |>.trans (show _ = some (Value.int .i64 (O 0).kind) from rfl))
          simpa [Addr.add] using this
      obtain ⟨g, off, spot⟩ := a
      subst hs
      refine ⟨g, off, rfl, fun j v hv => ?_⟩
      have hj : j < 11 := by
        have := (Array.getElem?_eq_some_iff.1 hv).1
        simpa [lopA] using this
      have h2 := h1 j hj
      rw [add_add, add_plain, ← Nat.add_assoc] at h2
      rw [h2]
      simpa using hv
    · have hcarry : ∀ i, i < m → ∃ cs n, W'.cells? 0 (a.add (i * Tryz.prog.cellsOf 87)) (Tryz.prog.cellsOf 87) = some cs ∧ DataW.trod enc Tryz.prog W' 0 sp true n 87 cs = some (D i, Pl i) := fun i hi => by
        refine ⟨_, n, World.cells?_carry (w := W) (by rw [cellsOp]; exact (hO i hi).2.1) fun p hp => hbel.same ?_, (trod_op_same W (fun _ => true) n _).trans (hO i hi).2.2⟩
        have hpb : p.block = a.block := by
          simp only [MemPlace.row, List.mem_map] at hp
          obtain ⟨j, _, rfl⟩ := hp
          simp [MemPlace.block, Addr.add]; split <;> rfl
        rw [hpb]
        refine hlt (.cell a.block (a.off + 0)) (List.mem_append_left _ ?_)
        simp only [MemPlace.row, List.mem_map, List.mem_range]
        exact ⟨0, by rw [cellsOp]; omega, rfl⟩
      by_cases h0 : m = 0
      · subst h0
        obtain rfl : vn = 0 := by omega
        cases hs : sp a.block with
        | false =>
          have := shut_slice (enc := enc) (w := W') (held := true) (a := a) (spare := sp) (base := 0) Tryz.underlying22 (Nat.zero_le _) (Nat.le_refl 0) (by unfold maxLen; omega) hs D Pl (fun i hi => by omega)
          simpa using this
        | true => exact shut_slice_whole (enc := enc) (w := W') (held := true) (a := a) (spare := sp) (base := 0) Tryz.underlying22 (Nat.zero_le _) (Nat.le_refl 0) (by unfold maxLen; omega) hs D Pl hcarry
      · refine shut_slice_whole (enc := enc) (w := W') (held := true) (a := a) (spare := sp) (base := 0) Tryz.underlying22 (Nat.zero_le _) hl (by unfold maxLen; omega) (hsp (.cell a.block (a.off + 0)) (List.mem_append_left _ ?_)) D Pl hcarry
        simp only [MemPlace.row, List.mem_map, List.mem_range]
        exact ⟨0, by rw [cellsOp]; omega, rfl⟩

end Go.Proofs.YtnkpogjiiohapaaGreatDoor
