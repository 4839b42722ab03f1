/- Our own text (GLawK, GArgA). -/
import Derived.Deep.Slices
import Derived.ReadsIn
import Derived.Test.YtnkpogjiiohapaaGreatDoorA41
set_option linter.unusedSimpArgs false
set_option linter.unusedVariables false

/-! GLawK: quirekeep: Alike, where its room is laid. -/
namespace Go.Proofs.YtnkpogjiiohapaaGreatDoor
open Go.RowKit
attribute [local go_sem ↓] Go.wp_at_zero Go.wp_at_succ

/-- What laid answers. -/
def LaidD (w : World) (e : Ending) (w' : World) : Prop := Below w.heap.size w w' ∧ ∃ tb r N sp ls, e = .returned (.tuple #[.pointer (some ⟨tb, 0, none⟩), .bool true]) ∧ 2 ≤ N ∧ hasInv w.heap.size tb w' r N sp ls
/-- The steps, as they lie. -/
def isSteps (w : World) (a : Option Addr) (n : Nat) : Prop := ∀ i, i < n → ∃ g o, ∃ p : Stp, a = some ⟨g, o, none⟩ ∧ p.ok ∧ w.cell? ⟨g, o + i * 5, none⟩ = some (.int .i64 p.k) ∧ w.cell? ⟨g, o + i * 5 + 1, none⟩ = some (.int .i64 p.c) ∧ w.cell? ⟨g, o + i * 5 + 2, none⟩ = some (.int .i64 p.d) ∧ w.cell? ⟨g, o + i * 5 + 3, none⟩ = some (.int .i64 p.a) ∧ w.cell? ⟨g, o + i * 5 + 4, none⟩ = some (.int .i64 p.n)

set_option maxRecDepth 1000000 in
set_option maxHeartbeats 8000000 in
theorem alikeLaw_g {w : World} (hp : Pow w) (raw spc : Int) {a b : Option Addr} {n ca m cb : Nat} (hn : n ≤ 4000000000000) (hs : isSteps w a n) (hw : ∀ i, i < m → ∃ g o z, b = some ⟨g, o, none⟩ ∧ w.cell? ⟨g, o + i, none⟩ = some (.int .i64 z)) (hl : Calls Tryz.prog 14 #[.int .i64 raw, .int .i64 spc] w fun e w' => LaidD w e w') :
    Calls Tryz.prog 7 #[.int .i64 raw, .int .i64 spc, .slice a n ca, .slice b m cb] w fun e w' => e = .returned (.bool true) ∧ Below w.heap.size w w' := by
  have HL := hid hl; have HP := hid hp; have HS := hid hs; have HW := hid hw
  clear hl hp hs hw
  obtain ⟨q, hq⟩ : ∃ q : Nat, q = min n 150 := ⟨_, rfl⟩
  have hqn : q ≤ n ∧ q ≤ 150 := by omega
  have hmin : min (n : Int) 150 = (q : Int) := by omega
  clear hq
  go_enter Tryz.func7, Tryz.ntmps7
  go_wp2_with fail
  refine HL.out.mono ?_
  rintro e w1 ⟨hb1, tb, r, N, sp, ls, rfl, h2, hinv⟩
  have HB1 := hid hb1; have HI1 := hid hinv; clear hb1 hinv
  go_wp2_with fail
  go_loopw [10, 12] (fun ok i wr => ∃ k : Nat, k ≤ q + 1 ∧ ok = .bool true ∧ i = .int .i64 k ∧ hasInv w.heap.size tb wr r N sp ls ∧ Below w.heap.size w wr) (fun _ i _ => q + 1 - (intOf i).toNat)
  case atStart => exact ⟨0, Nat.zero_le _, rfl, rfl, HI1.out, HB1.out⟩
  case round =>
    obtain ⟨k, hk, rfl, rfl, hinv, hbw⟩ := hrel
    have HI := hid hinv; have HB := hid hbw; clear hinv hbw
    by_cases hle : k ≤ q
    · have hle' : (k : Int) ≤ (q : Int) := by omega
      have HAft := hid (show ∀ W, hasInv w.heap.size tb W r N sp ls → Below w.heap.size w W → Calls Tryz.prog 16 #[.slice b m cb, .int .i64 k] W fun e w' => isYesNo e ∧ Below W.heap.size W w' from fun W _ hb => looks_g k fun hi => by
        obtain ⟨g, o, z, e, hz⟩ := HW.out k hi
        exact ⟨g, o, z, e, keep hb hz⟩)
      obtain ⟨F, I, M, st, x, hi⟩ := HI.out
      by_cases hlt : k < q
      · have hlt' : (k : Int) < (q : Int) := by omega
        obtain ⟨g, off, p, rfl, hpo, c0, c1, c2, c3, c4⟩ := HS.out k (by omega)
        have hk0 : (0 : Int) ≤ (k : Int) := Int.natCast_nonneg _
        have hk1 : (k : Int) < (n : Int) := by omega
        replace c0 := keep HB.out c0
        replace c1 := keep HB.out c1
        replace c2 := keep HB.out c2
        replace c3 := keep HB.out c3
        replace c4 := keep HB.out c4
        have HD := hid (does_g hi h2 p hpo)
        clear hi hpo
        go_wp2_with fail
        refine HD.out.mono ?_
        rintro e w2 ⟨⟨ev, rfl⟩, hi2, hb2⟩
        have HI2 := hid hi2; have HB2 := hid (HB.out.trans hb2); clear hi2 hb2
        go_wp2_with fail
        refine (HAft.out w2 HI2.out HB2.out).mono ?_
        rintro e w3 ⟨⟨yn, rfl⟩, hb3⟩
        have HI3 := hid (show hasInv w.heap.size tb w3 r N sp ls by obtain ⟨F1, I1, M1, s1, x1, h1⟩ := HI2.out; exact ⟨F1, I1, M1, s1, x1, h1.keep hb3⟩)
        have HB3 := hid (HB2.out.trans (hb3.mono HB2.out.size)); clear hb3
        go_wp2_with fail
        go_loopw [10, 14] (fun ok c wr => ∃ j : Nat, j ≤ N ∧ ok = .bool true ∧ c = .int .i64 j ∧ hasInv w.heap.size tb wr r N sp ls ∧ Below w.heap.size w wr) (fun _ c _ => N - (intOf c).toNat)
        case atStart => exact ⟨0, Nat.zero_le _, rfl, rfl, HI3.out, HB3.out⟩
        case round =>
          obtain ⟨j, hj, rfl, rfl, hinv4, hbw4⟩ := hrel
          have HI4 := hid hinv4; have HB4 := hid hbw4; clear hinv4 hbw4
          obtain ⟨F', I', M', st', x', hi'⟩ := HI4.out
          have t0 := (hi'.tab.cells).1
          have htl := blk_lt hi'.tab
          have hN4 := hi'.d.m.hN
          clear hi'
          by_cases hjl : j < N
          · have hjl' : (j : Int) < (N : Int) := by omega
            cases yn
            · go_wp2
              go_roundw
              case rel => exact ⟨k + 1, by omega, rfl, by go_num, HI4.out, HB4.out⟩
              case measure => simp [intOf]; omega
            · go_wp2_with fail
              go_loopw [10, 15] (fun ok d wr => ∃ i : Nat, i ≤ j ∧ ok = .bool true ∧ d = .int .i64 i ∧ hasInv w.heap.size tb wr r N sp ls ∧ Below w.heap.size w wr) (fun _ d _ => j - (intOf d).toNat)
              case atStart => exact ⟨0, Nat.zero_le _, rfl, rfl, HI4.out, HB4.out⟩
              case round =>
                obtain ⟨i, hij, rfl, rfl, hinv5, hbw5⟩ := hrel
                have HI5 := hid hinv5; have HB5 := hid hbw5; clear hinv5 hbw5
                by_cases hil : i < j
                · have hil' : (i : Int) < (j : Int) := by omega
                  obtain ⟨F5, I5, M5, s5, x5, h5⟩ := HI5.out
                  have HAL := hid (alike_g h5.d h5.tab (HP.out.keep HB5.out) h5.nice (c := j) (d := i) hjl (by omega))
                  have H5 := hid h5
                  clear h5
                  go_wp2_with fail
                  refine HAL.out.mono ?_
                  rintro e w6 ⟨rfl, hb6⟩
                  have HI6 := hid (show hasInv w.heap.size tb w6 r N sp ls from ⟨F5, I5, M5, s5, x5, H5.out.keep hb6⟩)
                  have HB6 := hid (HB5.out.trans (hb6.mono HB5.out.size)); clear hb6
                  go_wp2
                  go_roundw
                  case rel => exact ⟨i + 1, by omega, rfl, by go_num, HI6.out, HB6.out⟩
                  case measure => simp [intOf]; omega
                · have hil' : ¬ (i : Int) < (j : Int) := by omega
                  go_wp2
                  go_roundw
                  case rel => exact ⟨j + 1, by omega, rfl, by go_num, HI5.out, HB5.out⟩
                  case measure => simp [intOf]; omega
          · have hjl' : ¬ (j : Int) < (N : Int) := by omega
            cases yn
            all_goals go_wp2
            all_goals go_roundw
            all_goals first
              | exact ⟨k + 1, by omega, rfl, by go_num, HI4.out, HB4.out⟩
              | (simp [intOf] <;> omega)
      · have hkq : k = q := by omega
        subst hkq
        have HI2 := hid HI.out
        have HB2 := hid HB.out
        clear hi
        go_wp2_with fail
        refine (HAft.out wr HI2.out HB2.out).mono ?_
        rintro e w3 ⟨⟨yn, rfl⟩, hb3⟩
        have HI3 := hid (show hasInv w.heap.size tb w3 r N sp ls by obtain ⟨F1, I1, M1, s1, x1, h1⟩ := HI2.out; exact ⟨F1, I1, M1, s1, x1, h1.keep hb3⟩)
        have HB3 := hid (HB2.out.trans (hb3.mono HB2.out.size)); clear hb3
        go_wp2_with fail
        go_loopw [10, 14] (fun ok c wr => ∃ j : Nat, j ≤ N ∧ ok = .bool true ∧ c = .int .i64 j ∧ hasInv w.heap.size tb wr r N sp ls ∧ Below w.heap.size w wr) (fun _ c _ => N - (intOf c).toNat)
        case atStart => exact ⟨0, Nat.zero_le _, rfl, rfl, HI3.out, HB3.out⟩
        case round =>
          obtain ⟨j, hj, rfl, rfl, hinv4, hbw4⟩ := hrel
          have HI4 := hid hinv4; have HB4 := hid hbw4; clear hinv4 hbw4
          obtain ⟨F', I', M', st', x', hi'⟩ := HI4.out
          have t0 := (hi'.tab.cells).1
          have htl := blk_lt hi'.tab
          have hN4 := hi'.d.m.hN
          clear hi'
          by_cases hjl : j < N
          · have hjl' : (j : Int) < (N : Int) := by omega
            cases yn
            · go_wp2_with fail
              go_loopw [10, 15] (fun ok d wr => ∃ i : Nat, i ≤ j ∧ ok = .bool true ∧ d = .int .i64 i ∧ hasInv w.heap.size tb wr r N sp ls ∧ Below w.heap.size w wr) (fun _ d _ => j - (intOf d).toNat)
              case atStart => exact ⟨0, Nat.zero_le _, rfl, rfl, HI4.out, HB4.out⟩
              case round =>
                obtain ⟨i, hij, rfl, rfl, hinv5, hbw5⟩ := hrel
                have HI5 := hid hinv5; have HB5 := hid hbw5; clear hinv5 hbw5
                by_cases hil : i < j
                · have hil' : (i : Int) < (j : Int) := by omega
                  obtain ⟨F5, I5, M5, s5, x5, h5⟩ := HI5.out
                  have HAL := hid (alike_g h5.d h5.tab (HP.out.keep HB5.out) h5.nice (c := j) (d := i) hjl (by omega))
                  have H5 := hid h5
                  clear h5
                  go_wp2_with fail
                  refine HAL.out.mono ?_
                  rintro e w6 ⟨rfl, hb6⟩
                  have HI6 := hid (show hasInv w.heap.size tb w6 r N sp ls from ⟨F5, I5, M5, s5, x5, H5.out.keep hb6⟩)
                  have HB6 := hid (HB5.out.trans (hb6.mono HB5.out.size)); clear hb6
                  go_wp2
                  go_roundw
                  case rel => exact ⟨i + 1, by omega, rfl, by go_num, HI6.out, HB6.out⟩
                  case measure => simp [intOf]; omega
                · have hil' : ¬ (i : Int) < (j : Int) := by omega
                  go_wp2
                  go_roundw
                  case rel => exact ⟨j + 1, by omega, rfl, by go_num, HI5.out, HB5.out⟩
                  case measure => simp [intOf]; omega
            · go_wp2_with fail
              go_loopw [10, 15] (fun ok d wr => ∃ i : Nat, i ≤ j ∧ ok = .bool true ∧ d = .int .i64 i ∧ hasInv w.heap.size tb wr r N sp ls ∧ Below w.heap.size w wr) (fun _ d _ => j - (intOf d).toNat)
              case atStart => exact ⟨0, Nat.zero_le _, rfl, rfl, HI4.out, HB4.out⟩
              case round =>
                obtain ⟨i, hij, rfl, rfl, hinv5, hbw5⟩ := hrel
                have HI5 := hid hinv5; have HB5 := hid hbw5; clear hinv5 hbw5
                by_cases hil : i < j
                · have hil' : (i : Int) < (j : Int) := by omega
                  obtain ⟨F5, I5, M5, s5, x5, h5⟩ := HI5.out
                  have HAL := hid (alike_g h5.d h5.tab (HP.out.keep HB5.out) h5.nice (c := j) (d := i) hjl (by omega))
                  have H5 := hid h5
                  clear h5
                  go_wp2_with fail
                  refine HAL.out.mono ?_
                  rintro e w6 ⟨rfl, hb6⟩
                  have HI6 := hid (show hasInv w.heap.size tb w6 r N sp ls from ⟨F5, I5, M5, s5, x5, H5.out.keep hb6⟩)
                  have HB6 := hid (HB5.out.trans (hb6.mono HB5.out.size)); clear hb6
                  go_wp2
                  go_roundw
                  case rel => exact ⟨i + 1, by omega, rfl, by go_num, HI6.out, HB6.out⟩
                  case measure => simp [intOf]; omega
                · have hil' : ¬ (i : Int) < (j : Int) := by omega
                  go_wp2
                  go_roundw
                  case rel => exact ⟨j + 1, by omega, rfl, by go_num, HI5.out, HB5.out⟩
                  case measure => simp [intOf]; omega
          · have hjl' : ¬ (j : Int) < (N : Int) := by omega
            cases yn
            all_goals go_wp2
            all_goals go_roundw
            all_goals first
              | exact ⟨k + 1, by omega, rfl, by go_num, HI4.out, HB4.out⟩
              | (simp [intOf] <;> omega)
    · have hke : ¬ (k : Int) ≤ (q : Int) := by omega
      go_wp2
      go_ret
      exact ⟨rfl, HB.out⟩

end Go.Proofs.YtnkpogjiiohapaaGreatDoor

/-! GArgA: The arguments of quirekeep's laws, as the form reads them. -/
namespace Go.Proofs.YtnkpogjiiohapaaGreatDoor
open Go.RowKit Go.ChangeShapes Go.WideShapes Go.Deep

section
/-- A number: read without the memory. -/
theorem trodI {H : Type} {enc : TypeId × Value → H} {P : Program} {w w' : World} {base : Nat} {sp sp' : Nat → Bool} {held : Bool} {t : TypeId} (ht : P.underlying t = some (.int .i64)) (n : Nat) (cs : List Value) : DataW.trod enc P w base sp held n t cs = DataW.trod enc P w' base sp' held n t cs := by
  cases n with
  | zero => rfl
  | succ n =>
    unfold DataW.trod
    rw [ht]
    match cs with
    | [] => rfl
    | [c] => cases c <;> rfl
    | c :: _ :: _ => cases c <;> rfl
theorem trodS {H : Type} {enc : TypeId × Value → H} {P : Program} {w w' : World} {base : Nat} {sp sp' : Nat → Bool} {held : Bool} {t : TypeId} {fs : Array Field} (ht : P.underlying t = some (.struct fs)) (hf : ∀ f ∈ fs.toList, ∀ n cs, DataW.trod enc P w base sp held n f.type cs = DataW.trod enc P w' base sp' held n f.type cs) (n : Nat) (cs : List Value) : DataW.trod enc P w base sp held n t cs = DataW.trod enc P w' base sp' held n t cs := by
  cases n with
  | zero => rfl
  | succ n =>
    unfold DataW.trod
    rw [ht]
    have e : (fs.toList.mapM fun f => DataW.trod enc P w base sp held n f.type ((cs.drop f.offset).take (P.cellsOf f.type))) = fs.toList.mapM fun f => DataW.trod enc P w' base sp' held n f.type ((cs.drop f.offset).take (P.cellsOf f.type)) := mapM_congr_mem fun f hm => hf f hm _ _
    split <;> simp_all
theorem trodI_val {H : Type} {enc : TypeId × Value → H} {P : Program} {w : World} {base : Nat} {sp : Nat → Bool} {held : Bool} {t : TypeId} {n : Nat} {cs : List Value} {x : DataW H × List MemPlace} (ht : P.underlying t = some (.int .i64)) (h : DataW.trod enc P w base sp held n t cs = some x) : ∃ k, cs = [.int .i64 k] ∧ intOk k := by
  obtain ⟨k, h1, _, h3⟩ := DataW.trod_int ht h
  refine ⟨k, h1, ?_⟩
  simp [Lit.wf] at h3
  exact h3
end

section
theorem cellsStp : Tryz.prog.cellsOf 32 = 5 := by kernel_rfl
theorem cellsI : Tryz.prog.cellsOf 3 = 1 := by kernel_rfl
def stpC (p : Stp) : List Value := [.int .i64 p.k, .int .i64 p.c, .int .i64 p.d, .int .i64 p.a, .int .i64 p.n]
set_option maxRecDepth 100000 in
/-- A step, read. -/
theorem trod_stp {H : Type} {enc : TypeId × Value → H} {w : World} {base : Nat} {sp : Nat → Bool} {held : Bool} {n : Nat} {cs : List Value} {x : DataW H × List MemPlace} (h : DataW.trod enc Tryz.prog w base sp held n 32 cs = some x) : ∃ p : Stp, cs = stpC p ∧ p.ok := by
  obtain ⟨xs, m, rfl, rfl, hl, hlen, hf⟩ := DataW.trod_struct Tryz.underlying32 h
  rw [cellsStp] at hl
  match xs, hlen with
  | [y0, y1, y2, y3, y4], _ =>
    match cs, hl with
    | [c0, c1, c2, c3, c4], _ =>
      have f0 : DataW.trod enc Tryz.prog w base sp held m 3 [c0] = some y0 := by simpa [cellsI] using hf 0 _ rfl
      have f1 : DataW.trod enc Tryz.prog w base sp held m 3 [c1] = some y1 := by simpa [cellsI] using hf 1 _ rfl
      have f2 : DataW.trod enc Tryz.prog w base sp held m 3 [c2] = some y2 := by simpa [cellsI] using hf 2 _ rfl
      have f3 : DataW.trod enc Tryz.prog w base sp held m 3 [c3] = some y3 := by simpa [cellsI] using hf 3 _ rfl
      have f4 : DataW.trod enc Tryz.prog w base sp held m 3 [c4] = some y4 := by simpa [cellsI] using hf 4 _ rfl
      obtain ⟨k0, e0, h0⟩ := trodI_val Tryz.underlying3 f0
      obtain ⟨k1, e1, h1⟩ := trodI_val Tryz.underlying3 f1
      obtain ⟨k2, e2, h2⟩ := trodI_val Tryz.underlying3 f2
      obtain ⟨k3, e3, h3⟩ := trodI_val Tryz.underlying3 f3
      obtain ⟨k4, e4, h4⟩ := trodI_val Tryz.underlying3 f4
      simp only [List.cons.injEq, and_true] at e0 e1 e2 e3 e4
      subst e0 e1 e2 e3 e4
      exact ⟨⟨k0, k1, k2, k3, k4⟩, rfl, ⟨h0, h1, h2, h3, h4⟩⟩
set_option maxRecDepth 100000 in
theorem trod_stp_same {H : Type} {enc : TypeId × Value → H} {w : World} {base : Nat} {sp : Nat → Bool} {held : Bool} (w' : World) (sp' : Nat → Bool) (n : Nat) (cs : List Value) : DataW.trod enc Tryz.prog w base sp held n 32 cs = DataW.trod enc Tryz.prog w' base sp' held n 32 cs := by
  have hi : ∀ n cs, DataW.trod enc Tryz.prog w base sp held n 3 cs = DataW.trod enc Tryz.prog w' base sp' held n 3 cs := trodI Tryz.underlying3
  refine trodS Tryz.underlying32 (fun f hf => ?_) n cs
  simp only [List.mem_cons, List.not_mem_nil, or_false] at hf
  rcases hf with rfl | rfl | rfl | rfl | rfl <;> exact hi
end

/-- From 'for every i there is one' to one function. -/
theorem oneFor {α : Type} (d : α) {n : Nat} {p : Nat → α → Prop} (h : ∀ i, i < n → ∃ x, p i x) : ∃ f : Nat → α, ∀ i, i < n → p i (f i) := by
  have h1 : ∀ i, ∃ x, i < n → p i x := fun i => by
    by_cases hi : i < n
    · obtain ⟨x, hx⟩ := h i hi
      exact ⟨x, fun _ => hx⟩
    · exact ⟨d, fun h' => absurd h' hi⟩
  exact ⟨fun i => Classical.choose (h1 i), fun i => Classical.choose_spec (h1 i)⟩

/-- A slice's elements, as they lie. -/
def isRows (w : World) (sa : Option Addr) (n k : Nat) (Q : List Value → Prop) : Prop := ∀ i, i < n → ∃ g off cs, sa = some ⟨g, off, none⟩ ∧ Q cs ∧ ∀ j u, cs[j]? = some u → w.cell? ⟨g, off + i * k + j, none⟩ = some u
set_option maxRecDepth 100000 in
/-- A slice of plain elements, opened; and it reads as it did wherever nothing old has turned. -/
theorem open_rows {H : Type} {enc : TypeId × Value → H} {W : World} {tS tE : TypeId} {k : Nat} (hu : Tryz.prog.underlying tS = some (.slice tE)) (hk : Tryz.prog.cellsOf tE = k) (hk0 : 0 < k) {Q : List Value → Prop}
    (hread : ∀ n cs x, DataW.trod enc Tryz.prog W 0 (fun _ => true) true n tE cs = some x → Q cs)
    (hsame : ∀ (W' : World) (sp : Nat → Bool) n cs, DataW.trod enc Tryz.prog W' 0 sp true n tE cs = DataW.trod enc Tryz.prog W 0 (fun _ => true) true n tE cs)
    {v : Value} {d : DataW H} {ps : List MemPlace} (h : DataW.Trod enc Tryz.prog W 0 (fun _ => true) true tS v d ps) (hlt : ∀ p ∈ ps, p.block < W.heap.size) (hv : ∃ a n c, v = .slice a n c) :
    ∃ (sa : Option Addr) (n cap : Nat), v = .slice sa n cap ∧ isRows W sa n k Q ∧ (d = .nil ∧ n = 0 ∨ ∃ elems spare, d = .slice elems spare ∧ elems.length = n) ∧
      ∀ W', Below W.heap.size W W' → ∀ sp : Nat → Bool, (∀ p ∈ ps, sp p.block = true) → DataW.Trod enc Tryz.prog W' 0 sp true tS v d ps := by
  obtain ⟨fuel, h⟩ := h
  obtain ⟨va, vn, vc, rfl⟩ := hv
  rcases open_slice hu h with ⟨hc, hx⟩ | ⟨a, len, cap, m, n, D, Pl, hc, hb, hl, hm, hmm, hx, hall⟩
  · simp [Value.cells] at hc
    obtain ⟨rfl, rfl, rfl⟩ := hc
    simp only [Prod.mk.injEq] at hx
    obtain ⟨rfl, rfl⟩ := hx
    refine ⟨none, 0, 0, rfl, (fun i hi => (by cases hi)), .inl ⟨rfl, rfl⟩, (fun W' _ sp _ => ⟨1, ?_⟩)⟩
    simp [Value.cells, DataW.trod, hu]
  · simp [Value.cells] at hc
    obtain ⟨rfl, rfl, rfl⟩ := hc
    simp only [if_true] at hmm
    subst hmm
    simp only [Prod.mk.injEq] at hx
    obtain ⟨rfl, rfl⟩ := hx
    rw [hk] at hall
    obtain ⟨O, hO⟩ := oneFor (α := List Value) [] (p := fun i cs => Q cs ∧ W.cells? 0 (a.add (i * k)) k = some cs ∧ DataW.trod enc Tryz.prog W 0 (fun _ => true) true n tE cs = some (D i, Pl i)) (fun i hi => by
      obtain ⟨cs, h1, h2⟩ := hall i hi
      exact ⟨cs, hread _ _ _ h2, h1, h2⟩)
    refine ⟨some a, vn, m, rfl, fun i hi => ?_, .inr ⟨_, _, rfl, by simp⟩, fun W' hbel sp hsp => ?_⟩
    · obtain ⟨_, hcl, h1⟩ := World.cells?_some (hO i (by omega)).2.1
      have hs : a.spot = none := by
        obtain ⟨_, hc0, h1'⟩ := World.cells?_some (hO 0 (by omega)).2.1
        have h2 := h1' 0 hk0
        rw [List.getElem?_eq_getElem (by omega)] at h2
        have := World.cell?_spot h2
        simpa [Addr.add] using this
      obtain ⟨g, off, spot⟩ := a
      subst hs
      refine ⟨g, off, O i, rfl, (hO i (by omega)).1, fun j u hu' => ?_⟩
      have hj : j < k := by
        have := (List.getElem?_eq_some_iff.1 hu').1
        omega
      have h2 := h1 j hj
      rw [add_add, add_plain, ← Nat.add_assoc] at h2
      rw [h2]
      exact hu'
    · have hcarry : ∀ i, i < m → ∃ cs n, W'.cells? 0 (a.add (i * Tryz.prog.cellsOf tE)) (Tryz.prog.cellsOf tE) = some cs ∧ DataW.trod enc Tryz.prog W' 0 sp true n tE cs = some (D i, Pl i) := fun i hi => by
        refine ⟨_, n, World.cells?_carry (w := W) (by rw [hk]; exact (hO i hi).2.1) fun p hp => hbel.same ?_, (hsame W' sp n _).trans (hO i hi).2.2⟩
        have hpb : p.block = a.block := by
          simp only [MemPlace.row, List.mem_map] at hp
          obtain ⟨j, _, rfl⟩ := hp
          simp [MemPlace.block, Addr.add]; split <;> rfl
        rw [hpb]
        refine hlt (.cell a.block (a.off + 0)) (List.mem_append_left _ ?_)
        simp only [MemPlace.row, List.mem_map, List.mem_range]
        exact ⟨0, by rw [hk]; exact Nat.mul_pos (by omega) hk0, rfl⟩
      by_cases h0 : m = 0
      · subst h0
        obtain rfl : vn = 0 := by omega
        cases hs : sp a.block with
        | false =>
          have := shut_slice (enc := enc) (w := W') (held := true) (a := a) (spare := sp) (base := 0) hu (Nat.zero_le _) (Nat.le_refl 0) hm hs D Pl (fun i hi => by omega)
          simpa using this
        | true => exact shut_slice_whole (enc := enc) (w := W') (held := true) (a := a) (spare := sp) (base := 0) hu (Nat.zero_le _) (Nat.le_refl 0) hm hs D Pl hcarry
      · refine shut_slice_whole (enc := enc) (w := W') (held := true) (a := a) (spare := sp) (base := 0) hu (Nat.zero_le _) hl hm (hsp (.cell a.block (a.off + 0)) (List.mem_append_left _ ?_)) D Pl hcarry
        simp only [MemPlace.row, List.mem_map, List.mem_range]
        exact ⟨0, by rw [hk]; exact Nat.mul_pos (by omega) hk0, rfl⟩

/-- The steps, opened. -/
theorem open_steps {H : Type} {enc : TypeId × Value → H} {W : World} {v : Value} {d : DataW H} {ps : List MemPlace} (h : DataW.Trod enc Tryz.prog W 0 (fun _ => true) true 26 v d ps) (hlt : ∀ p ∈ ps, p.block < W.heap.size) (hv : ∃ a n c, v = .slice a n c) :
    ∃ (sa : Option Addr) (n cap : Nat), v = .slice sa n cap ∧ isSteps W sa n ∧ (d = .nil ∧ n = 0 ∨ ∃ elems spare, d = .slice elems spare ∧ elems.length = n) ∧
      ∀ W', Below W.heap.size W W' → ∀ sp : Nat → Bool, (∀ p ∈ ps, sp p.block = true) → DataW.Trod enc Tryz.prog W' 0 sp true 26 v d ps := by
  obtain ⟨sa, n, cap, h1, h2, h3, h4⟩ := open_rows (Q := fun cs => ∃ p : Stp, cs = stpC p ∧ p.ok) Tryz.underlying26 cellsStp (by omega) (fun n cs x hx => trod_stp hx) (fun W' sp n cs => trod_stp_same _ _ n cs) h hlt hv
  refine ⟨sa, n, cap, h1, fun i hi => ?_, h3, h4⟩
  obtain ⟨g, off, cs, e, ⟨p, rfl, hp⟩, hc⟩ := h2 i hi
  exact ⟨g, off, p, e, hp, hc 0 _ rfl, hc 1 _ rfl, hc 2 _ rfl, hc 3 _ rfl, hc 4 _ rfl⟩
/-- Numbers, opened. -/
theorem open_nums {H : Type} {enc : TypeId × Value → H} {W : World} {v : Value} {d : DataW H} {ps : List MemPlace} (h : DataW.Trod enc Tryz.prog W 0 (fun _ => true) true 24 v d ps) (hlt : ∀ p ∈ ps, p.block < W.heap.size) (hv : ∃ a n c, v = .slice a n c) :
    ∃ (sa : Option Addr) (n cap : Nat), v = .slice sa n cap ∧ (∀ i, i < n → ∃ g o z, sa = some ⟨g, o, none⟩ ∧ W.cell? ⟨g, o + i, none⟩ = some (.int .i64 z)) ∧ (d = .nil ∧ n = 0 ∨ ∃ elems spare, d = .slice elems spare ∧ elems.length = n) ∧
      ∀ W', Below W.heap.size W W' → ∀ sp : Nat → Bool, (∀ p ∈ ps, sp p.block = true) → DataW.Trod enc Tryz.prog W' 0 sp true 24 v d ps := by
  obtain ⟨sa, n, cap, h1, h2, h3, h4⟩ := open_rows (Q := fun cs => ∃ z, cs = [Value.int .i64 z]) Tryz.underlying24 cellsI (by omega) (fun n cs x hx => by obtain ⟨z, hz, _⟩ := trodI_val Tryz.underlying3 hx; exact ⟨z, hz⟩) (fun W' sp n cs => trodI Tryz.underlying3 n cs) h hlt hv
  refine ⟨sa, n, cap, h1, fun i hi => ?_, h3, h4⟩
  obtain ⟨g, off, cs, e, ⟨z, rfl⟩, hc⟩ := h2 i hi
  refine ⟨g, off, z, e, ?_⟩
  have := hc 0 _ rfl
  rw [Nat.mul_one] at this
  exact this

end Go.Proofs.YtnkpogjiiohapaaGreatDoor
