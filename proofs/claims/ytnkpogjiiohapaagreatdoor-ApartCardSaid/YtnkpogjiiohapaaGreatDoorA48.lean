/- Our own text (QArgA, QClaimA). -/
import Derived.Deep.Slices
import Derived.ReadsIn
import Derived.Test.YtnkpogjiiohapaaGreatDoorRows
import Derived.ProofKit
import Derived.OpenShut
import Derived.Deep.DeepHandedRow
import Derived.Lib.LaidTab
import Derived.SizedLaws
import Derived.Test.YtnkpogjiiohapaaGreatDoorA41
set_option linter.unusedSimpArgs false
set_option linter.unusedVariables false

/-! QArgA: The arguments of quirekeep's laws, as the form reads them. -/
namespace Go.Proofs.YtnkpogjiiohapaaGreatDoor
open Go.RowKit Go.ChangeShapes Go.WideShapes Go.Deep

section
/-- A number: read without the memory. -/
theorem trodI {H : Type} {enc : TypeId × Value → H} {P : Program} {w w' : World} {base : Nat} {sp sp' : Nat → Bool} {held : Bool} {t : TypeId} (ht : P.underlying t = some (.int .i64)) (n : Nat) (cs : List Value) : DataW.trod enc P w base sp held n t cs = DataW.trod enc P w' base sp' held n t cs := by
  cases n with
  | zero => rfl
  | succ n =>
    unfold DataW.trod
    rw [ht]
    match cs with
    | [] => rfl
    | [c] => cases c <;> rfl
    | c :: _ :: _ => cases c <;> rfl
theorem trodS {H : Type} {enc : TypeId × Value → H} {P : Program} {w w' : World} {base : Nat} {sp sp' : Nat → Bool} {held : Bool} {t : TypeId} {fs : Array Field} (ht : P.underlying t = some (.struct fs)) (hf : ∀ f ∈ fs.toList, ∀ n cs, DataW.trod enc P w base sp held n f.type cs = DataW.trod enc P w' base sp' held n f.type cs) (n : Nat) (cs : List Value) : DataW.trod enc P w base sp held n t cs = DataW.trod enc P w' base sp' held n t cs := by
  cases n with
  | zero => rfl
  | succ n =>
    unfold DataW.trod
    rw [ht]
    have e : (fs.toList.mapM fun f => DataW.trod enc P w base sp held n f.type ((cs.drop f.offset).take (P.cellsOf f.type))) = fs.toList.mapM fun f => DataW.trod enc P w' base sp' held n f.type ((cs.drop f.offset).take (P.cellsOf f.type)) := mapM_congr_mem fun f hm => hf f hm _ _
    split <;> simp_all
theorem trodI_val {H : Type} {enc : TypeId × Value → H} {P : Program} {w : World} {base : Nat} {sp : Nat → Bool} {held : Bool} {t : TypeId} {n : Nat} {cs : List Value} {x : DataW H × List MemPlace} (ht : P.underlying t = some (.int .i64)) (h : DataW.trod enc P w base sp held n t cs = some x) : ∃ k, cs = [.int .i64 k] ∧ intOk k := by
  obtain ⟨k, h1, _, h3⟩ := DataW.trod_int ht h
  refine ⟨k, h1, ?_⟩
  simp [Lit.wf] at h3
  exact h3
end

section
theorem cellsStp : Tryz.prog.cellsOf 32 = 5 := by kernel_rfl
theorem cellsI : Tryz.prog.cellsOf 3 = 1 := by kernel_rfl
def stpC (p : Stp) : List Value := [.int .i64 p.k, .int .i64 p.c, .int .i64 p.d, .int .i64 p.a, .int .i64 p.n]
set_option maxRecDepth 100000 in
/-- A step, read. -/
theorem trod_stp {H : Type} {enc : TypeId × Value → H} {w : World} {base : Nat} {sp : Nat → Bool} {held : Bool} {n : Nat} {cs : List Value} {x : DataW H × List MemPlace} (h : DataW.trod enc Tryz.prog w base sp held n 32 cs = some x) : ∃ p : Stp, cs = stpC p ∧ p.ok := by
  obtain ⟨xs, m, rfl, rfl, hl, hlen, hf⟩ := DataW.trod_struct Tryz.underlying32 h
  rw [cellsStp] at hl
  match xs, hlen with
  | [y0, y1, y2, y3, y4], _ =>
    match cs, hl with
    | [c0, c1, c2, c3, c4], _ =>
      have f0 : DataW.trod enc Tryz.prog w base sp held m 3 [c0] = some y0 := by simpa [cellsI] using hf 0 _ rfl
      have f1 : DataW.trod enc Tryz.prog w base sp held m 3 [c1] = some y1 := by simpa [cellsI] using hf 1 _ rfl
      have f2 : DataW.trod enc Tryz.prog w base sp held m 3 [c2] = some y2 := by simpa [cellsI] using hf 2 _ rfl
      have f3 : DataW.trod enc Tryz.prog w base sp held m 3 [c3] = some y3 := by simpa [cellsI] using hf 3 _ rfl
      have f4 : DataW.trod enc Tryz.prog w base sp held m 3 [c4] = some y4 := by simpa [cellsI] using hf 4 _ rfl
      obtain ⟨k0, e0, h0⟩ := trodI_val Tryz.underlying3 f0
      obtain ⟨k1, e1, h1⟩ := trodI_val Tryz.underlying3 f1
      obtain ⟨k2, e2, h2⟩ := trodI_val Tryz.underlying3 f2
      obtain ⟨k3, e3, h3⟩ := trodI_val Tryz.underlying3 f3
      obtain ⟨k4, e4, h4⟩ := trodI_val Tryz.underlying3 f4
      simp only [List.cons.injEq, and_true] at e0 e1 e2 e3 e4
      subst e0 e1 e2 e3 e4
      exact ⟨⟨k0, k1, k2, k3, k4⟩, rfl, ⟨h0, h1, h2, h3, h4⟩⟩
set_option maxRecDepth 100000 in
theorem trod_stp_same {H : Type} {enc : TypeId × Value → H} {w : World} {base : Nat} {sp : Nat → Bool} {held : Bool} (w' : World) (sp' : Nat → Bool) (n : Nat) (cs : List Value) : DataW.trod enc Tryz.prog w base sp held n 32 cs = DataW.trod enc Tryz.prog w' base sp' held n 32 cs := by
  have hi : ∀ n cs, DataW.trod enc Tryz.prog w base sp held n 3 cs = DataW.trod enc Tryz.prog w' base sp' held n 3 cs := trodI Tryz.underlying3
  refine trodS Tryz.underlying32 (fun f hf => ?_) n cs
  simp only [List.mem_cons, List.not_mem_nil, or_false] at hf
  rcases hf with rfl | rfl | rfl | rfl | rfl <;> exact hi
end

/-- From 'for every i there is one' to one function. -/
theorem oneFor {α : Type} (d : α) {n : Nat} {p : Nat → α → Prop} (h : ∀ i, i < n → ∃ x, p i x) : ∃ f : Nat → α, ∀ i, i < n → p i (f i) := by
  have h1 : ∀ i, ∃ x, i < n → p i x := fun i => by
    by_cases hi : i < n
    · obtain ⟨x, hx⟩ := h i hi
      exact ⟨x, fun _ => hx⟩
    · exact ⟨d, fun h' => absurd h' hi⟩
  exact ⟨fun i => Classical.choose (h1 i), fun i => Classical.choose_spec (h1 i)⟩

/-- A slice's elements, as they lie. -/
def isRows (w : World) (sa : Option Addr) (n k : Nat) (Q : List Value → Prop) : Prop := ∀ i, i < n → ∃ g off cs, sa = some ⟨g, off, none⟩ ∧ Q cs ∧ ∀ j u, cs[j]? = some u → w.cell? ⟨g, off + i * k + j, none⟩ = some u
set_option maxRecDepth 100000 in
/-- A slice of plain elements, opened; and it reads as it did wherever nothing old has turned. -/
theorem open_rows {H : Type} {enc : TypeId × Value → H} {W : World} {tS tE : TypeId} {k : Nat} (hu : Tryz.prog.underlying tS = some (.slice tE)) (hk : Tryz.prog.cellsOf tE = k) (hk0 : 0 < k) {Q : List Value → Prop}
    (hread : ∀ n cs x, DataW.trod enc Tryz.prog W 0 (fun _ => true) true n tE cs = some x → Q cs)
    (hsame : ∀ (W' : World) (sp : Nat → Bool) n cs, DataW.trod enc Tryz.prog W' 0 sp true n tE cs = DataW.trod enc Tryz.prog W 0 (fun _ => true) true n tE cs)
    {v : Value} {d : DataW H} {ps : List MemPlace} (h : DataW.Trod enc Tryz.prog W 0 (fun _ => true) true tS v d ps) (hlt : ∀ p ∈ ps, p.block < W.heap.size) (hv : ∃ a n c, v = .slice a n c) :
    ∃ (sa : Option Addr) (n cap : Nat), v = .slice sa n cap ∧ isRows W sa n k Q ∧ (d = .nil ∧ n = 0 ∨ ∃ elems spare, d = .slice elems spare ∧ elems.length = n) ∧
      ∀ W', Below W.heap.size W W' → ∀ sp : Nat → Bool, (∀ p ∈ ps, sp p.block = true) → DataW.Trod enc Tryz.prog W' 0 sp true tS v d ps := by
  obtain ⟨fuel, h⟩ := h
  obtain ⟨va, vn, vc, rfl⟩ := hv
  rcases open_slice hu h with ⟨hc, hx⟩ | ⟨a, len, cap, m, n, D, Pl, hc, hb, hl, hm, hmm, hx, hall⟩
  · simp [Value.cells] at hc
    obtain ⟨rfl, rfl, rfl⟩ := hc
    simp only [Prod.mk.injEq] at hx
    obtain ⟨rfl, rfl⟩ := hx
    refine ⟨none, 0, 0, rfl, (fun i hi => (by cases hi)), .inl ⟨rfl, rfl⟩, (fun W' _ sp _ => ⟨1, ?_⟩)⟩
    simp [Value.cells, DataW.trod, hu]
  · simp [Value.cells] at hc
    obtain ⟨rfl, rfl, rfl⟩ := hc
    simp only [if_true] at hmm
    subst hmm
    simp only [Prod.mk.injEq] at hx
    obtain ⟨rfl, rfl⟩ := hx
    rw [hk] at hall
    obtain ⟨O, hO⟩ := oneFor (α := List Value) [] (p := fun i cs => Q cs ∧ W.cells? 0 (a.add (i * k)) k = some cs ∧ DataW.trod enc Tryz.prog W 0 (fun _ => true) true n tE cs = some (D i, Pl i)) (fun i hi => by
      obtain ⟨cs, h1, h2⟩ := hall i hi
      exact ⟨cs, hread _ _ _ h2, h1, h2⟩)
    refine ⟨some a, vn, m, rfl, fun i hi => ?_, .inr ⟨_, _, rfl, by simp⟩, fun W' hbel sp hsp => ?_⟩
    · obtain ⟨_, hcl, h1⟩ := World.cells?_some (hO i (by omega)).2.1
      have hs : a.spot = none := by
        obtain ⟨_, hc0, h1'⟩ := World.cells?_some (hO 0 (by omega)).2.1
        have h2 := h1' 0 hk0
        rw [List.getElem?_eq_getElem (by omega)] at h2
        have := World.cell?_spot h2
        simpa [Addr.add] using this
      obtain ⟨g, off, spot⟩ := a
      subst hs
      refine ⟨g, off, O i, rfl, (hO i (by omega)).1, fun j u hu' => ?_⟩
      have hj : j < k := by
        have := (List.getElem?_eq_some_iff.1 hu').1
        omega
      have h2 := h1 j hj
      rw [add_add, add_plain, ← Nat.add_assoc] at h2
      rw [h2]
      exact hu'
    · have hcarry : ∀ i, i < m → ∃ cs n, W'.cells? 0 (a.add (i * Tryz.prog.cellsOf tE)) (Tryz.prog.cellsOf tE) = some cs ∧ DataW.trod enc Tryz.prog W' 0 sp true n tE cs = some (D i, Pl i) := fun i hi => by
        refine ⟨_, n, World.cells?_carry (w := W) (by rw [hk]; exact (hO i hi).2.1) fun p hp => hbel.same ?_, (hsame W' sp n _).trans (hO i hi).2.2⟩
        have hpb : p.block = a.block := by
          simp only [MemPlace.row, List.mem_map] at hp
          obtain ⟨j, _, rfl⟩ := hp
          simp [MemPlace.block, Addr.add]; split <;> rfl
        rw [hpb]
        refine hlt (.cell a.block (a.off + 0)) (List.mem_append_left _ ?_)
        simp only [MemPlace.row, List.mem_map, List.mem_range]
        exact ⟨0, by rw [hk]; exact Nat.mul_pos (by omega) hk0, rfl⟩
      by_cases h0 : m = 0
      · subst h0
        obtain rfl : vn = 0 := by omega
        cases hs : sp a.block with
        | false =>
          have := shut_slice (enc := enc) (w := W') (held := true) (a := a) (spare := sp) (base := 0) hu (Nat.zero_le _) (Nat.le_refl 0) hm hs D Pl (fun i hi => by omega)
          simpa using this
        | true => exact shut_slice_whole (enc := enc) (w := W') (held := true) (a := a) (spare := sp) (base := 0) hu (Nat.zero_le _) (Nat.le_refl 0) hm hs D Pl hcarry
      · refine shut_slice_whole (enc := enc) (w := W') (held := true) (a := a) (spare := sp) (base := 0) hu (Nat.zero_le _) hl hm (hsp (.cell a.block (a.off + 0)) (List.mem_append_left _ ?_)) D Pl hcarry
        simp only [MemPlace.row, List.mem_map, List.mem_range]
        exact ⟨0, by rw [hk]; exact Nat.mul_pos (by omega) hk0, rfl⟩

/-- The steps, opened. -/
theorem open_steps {H : Type} {enc : TypeId × Value → H} {W : World} {v : Value} {d : DataW H} {ps : List MemPlace} (h : DataW.Trod enc Tryz.prog W 0 (fun _ => true) true 26 v d ps) (hlt : ∀ p ∈ ps, p.block < W.heap.size) (hv : ∃ a n c, v = .slice a n c) :
    ∃ (sa : Option Addr) (n cap : Nat), v = .slice sa n cap ∧ isSteps W sa n ∧ (d = .nil ∧ n = 0 ∨ ∃ elems spare, d = .slice elems spare ∧ elems.length = n) ∧
      ∀ W', Below W.heap.size W W' → ∀ sp : Nat → Bool, (∀ p ∈ ps, sp p.block = true) → DataW.Trod enc Tryz.prog W' 0 sp true 26 v d ps := by
  obtain ⟨sa, n, cap, h1, h2, h3, h4⟩ := open_rows (Q := fun cs => ∃ p : Stp, cs = stpC p ∧ p.ok) Tryz.underlying26 cellsStp (by omega) (fun n cs x hx => trod_stp hx) (fun W' sp n cs => trod_stp_same _ _ n cs) h hlt hv
  refine ⟨sa, n, cap, h1, fun i hi => ?_, h3, h4⟩
  obtain ⟨g, off, cs, e, ⟨p, rfl, hp⟩, hc⟩ := h2 i hi
  exact ⟨g, off, p, e, hp, hc 0 _ rfl, hc 1 _ rfl, hc 2 _ rfl, hc 3 _ rfl, hc 4 _ rfl⟩
/-- Numbers, opened. -/
theorem open_nums {H : Type} {enc : TypeId × Value → H} {W : World} {v : Value} {d : DataW H} {ps : List MemPlace} (h : DataW.Trod enc Tryz.prog W 0 (fun _ => true) true 24 v d ps) (hlt : ∀ p ∈ ps, p.block < W.heap.size) (hv : ∃ a n c, v = .slice a n c) :
    ∃ (sa : Option Addr) (n cap : Nat), v = .slice sa n cap ∧ (∀ i, i < n → ∃ g o z, sa = some ⟨g, o, none⟩ ∧ W.cell? ⟨g, o + i, none⟩ = some (.int .i64 z)) ∧ (d = .nil ∧ n = 0 ∨ ∃ elems spare, d = .slice elems spare ∧ elems.length = n) ∧
      ∀ W', Below W.heap.size W W' → ∀ sp : Nat → Bool, (∀ p ∈ ps, sp p.block = true) → DataW.Trod enc Tryz.prog W' 0 sp true 24 v d ps := by
  obtain ⟨sa, n, cap, h1, h2, h3, h4⟩ := open_rows (Q := fun cs => ∃ z, cs = [Value.int .i64 z]) Tryz.underlying24 cellsI (by omega) (fun n cs x hx => by obtain ⟨z, hz, _⟩ := trodI_val Tryz.underlying3 hx; exact ⟨z, hz⟩) (fun W' sp n cs => trodI Tryz.underlying3 n cs) h hlt hv
  refine ⟨sa, n, cap, h1, fun i hi => ?_, h3, h4⟩
  obtain ⟨g, off, cs, e, ⟨z, rfl⟩, hc⟩ := h2 i hi
  refine ⟨g, off, z, e, ?_⟩
  have := hc 0 _ rfl
  rw [Nat.mul_one] at this
  exact this

end Go.Proofs.YtnkpogjiiohapaaGreatDoor

/-! QClaimA: What the claims of quirekeep's laws share. -/
namespace Go.Proofs.YtnkpogjiiohapaaGreatDoor
open Go.ChangeShapes Go.WideShapes Go.ChangeAt Go.RowKit

theorem post_below {H : Type} {enc : TypeId × Value → H} {P : Program} {f : Func} {s : ChangeSpec} {apart fresh handsOn again : Bool} {W W' : World} {args : Array Value} {v : Value} {ds gs : List (DataW H)} {before pa pv : List MemPlace}
    (hW : DataW.Whole enc P f.params.toList s.vars apart W args.toList ds gs before)
    (hres : ∀ (b : Nat) (sp : Nat → Bool) (hd : Bool), DataW.TrodAll enc P W' b sp hd f.resultTypes.toList (v.resultList f.resultTypes.size) (s.fn H (ds ++ gs)).results [])
    (hargs : ∀ sp : Nat → Bool, (∀ p ∈ before, sp p.block = true) → DataW.TrodAll enc P W' 0 sp true f.params.toList args.toList (s.fn H (ds ++ gs)).args pa)
    (hvars : ∀ sp : Nat → Bool, (∀ p ∈ before, sp p.block = true) → DataW.TrodVars enc P W' sp s.vars (s.fn H (ds ++ gs)).vars pv)
    (hps : before = pa ++ pv) (hb : Below W.heap.size W W')
    (hok : ∀ (j : Nat) (t : TypeId) (r : Value), f.resultTypes[j]? = some t → (v.resultList f.resultTypes.size)[j]? = some r → Value.okWide P W' .any 0 t r) :
    s.post enc P f apart fresh handsOn again W args v W' := by
  have hold : ∀ p ∈ before, (fun b => decide (b < W.heap.size)) p.block = true := fun p hp => by simpa using hW.lt p hp
  have hlt := hW.lt
  refine ⟨ds, gs, before, [], pa, pv, hW, hres _ _ _, hargs _ hold, hvars _ hold, World.keptBut_mono (fun p hp => ⟨hp, ?_⟩) (hb.frame _), fun _ => ?_⟩
  · rw [hps, List.mem_append] at hp
    exact Or.inr hp
  · obtain ⟨_, _, _, _, _, hz, hn⟩ := hW
    refine ⟨hok, _, _, ([] ++ pa) ++ pv, ⟨[] ++ pa, pv, trodAll_append (hargs _ (fun _ _ => rfl)) (hres _ _ _), hvars _ (fun _ _ => rfl), rfl, ?_, ?_⟩, ?_⟩
    · intro b off hp
      have hm : MemPlace.cell b off ∈ before := by rw [hps]; simpa using hp
      rw [hb.frozen (hlt _ hm)]
      exact hz b off hm
    · intro ha
      have := hn ha
      rw [hps] at this
      simpa using this
    · intro p hp _
      rw [hps]
      simpa using hp

theorem w_own : ownKnob Tryz.prog.godebug = none := by kernel_rfl
theorem g_pow : Tryz.prog.globalNamed "internal/strconv.uint64pow10" = some 1 := by kernel_rfl
theorem g_powT : (Tryz.prog.globals[1]?).map (·.type) = some 354 := by kernel_rfl
theorem cells_pow : Tryz.prog.cellsOf 354 = 20 := by kernel_rfl
theorem cells_u64 : Tryz.prog.cellsOf 315 = 1 := by kernel_rfl
theorem laid_tail {P : Program} {n : String} {d : DataW Unit} {r : List (String × DataW Unit)} {w : World} (h : laidMet P ((n, d) :: r) w) : laidMet P r w := by
  obtain ⟨ps, ⟨g, t, cs, fuel, p, q, _, _, _, _, h5, rfl⟩, hnd, hall⟩ := h
  exact ⟨q, h5, (List.nodup_append.1 hnd).2.1, fun b off hm => hall b off (List.mem_append_right _ hm)⟩

theorem bytes_stp : Tryz.prog.bytesOf 32 = 40 := by kernel_rfl

/-- The tables of math/bits. -/
def bits32 : List Int := [0, 1, 28, 2, 29, 14, 24, 3, 30, 22, 20, 15, 25, 17, 4, 8, 31, 27, 13, 23, 21, 19, 16, 7, 26, 12, 18, 6, 11, 5, 10, 9]
def bits64 : List Int := [0, 1, 56, 2, 57, 49, 28, 3, 61, 58, 42, 50, 38, 29, 17, 4, 62, 47, 59, 36, 45, 43, 51, 22, 53, 39, 33, 30, 24, 18, 12, 5, 63, 55, 48, 27, 60, 41, 37, 16, 46, 35, 44, 21, 52, 32, 23, 11, 54, 26, 40, 15, 34, 20, 31, 10, 25, 14, 19, 9, 13, 8, 7, 6]
/-- A table laid into its block. -/
def layTab (k : IntKind) (zs : List Int) : Obj → Obj
  | .cells _ t frozen => .cells (zs.map fun z => Value.int k z).toArray t frozen
  | o => o
def layAll (w : World) : World := { w with heap := ((w.heap.modify 1 (layTab .u64 Lib.pow10Tab)).modify 2 (layTab .u8 bits32)).modify 3 (layTab .u8 bits64) }

end Go.Proofs.YtnkpogjiiohapaaGreatDoor
