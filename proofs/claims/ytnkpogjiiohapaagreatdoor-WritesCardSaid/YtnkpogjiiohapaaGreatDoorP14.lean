/- Our own text (PLawD, PLawE, PShowA). -/
import Derived.Deep.DeepCutAuto
import Derived.Test.YtnkpogjiiohapaaGreatDoorP12
set_option linter.unusedSimpArgs false
set_option linter.unusedVariables false

/-! PLawD: The law: each call that writes, of both rooms: the same answer. -/
namespace Go.Proofs.YtnkpogjiiohapaaGreatDoor
open Go.RowKit

/-- Between the two calls nothing turns but what the caller made itself (ahead of the first call, or behind it). -/
structure Loc (w0 w w1 W1 : World) : Prop where
  os : W1.os = w1.os
  tape : W1.tape = w1.tape
  output : W1.output = w1.output
  size : w1.heap.size ≤ W1.heap.size
  other : ∀ k, k < w1.heap.size → (k < w0.heap.size ∨ w.heap.size ≤ k) → W1.heap[k]? = w1.heap[k]?
theorem Loc.grow {w0 w w1 V W1 : World} (h : Loc w0 w w1 V) (hb : Below V.heap.size V W1) : Loc w0 w w1 W1 := ⟨hb.os.trans h.os, hb.tape.trans h.tape, hb.output.trans h.output, Nat.le_trans h.size hb.size, fun k hk hc => (hb.block k (Nat.lt_of_lt_of_le hk h.size)).trans (h.other k hk hc)⟩
theorem Loc.of_below {w0 w w1 W1 : World} (h : Below w1.heap.size w1 W1) : Loc w0 w w1 W1 := ⟨h.os, h.tape, h.output, h.size, fun k hk _ => h.block k hk⟩
/-- The program's call has answered v: so will the document's; and the two rooms go on side by side. -/
def Duo (w0 w : World) (gp : Nat) (F : Nat → Prop) (x r : Nat) (vt : Value) (told : List PId) (N sp : Nat) (fR : Nat) (args : Array Value) (v : Value) (w1 : World) : Prop :=
  w1.heap[gp]? = w0.heap[gp]? ∧ (∀ k, k < w.heap.size → ¬ F k → w1.heap[k]? = w.heap[k]?) ∧ w.heap.size ≤ w1.heap.size ∧
    ∀ W1, Loc w0 w w1 W1 → Calls Tryz.prog fR args W1 fun e w2 => e = .returned v ∧ (∃ F' FP' FR' P', PairAt w2 gp F' x r vt told FP' FR' N sp P' ∧ Keeps F F' w0 w2 ∧ ∀ k, F' k → F k ∨ (w.heap.size ≤ k ∧ k < w1.heap.size) ∨ W1.heap.size ≤ k) ∧ ∀ k, w0.heap.size ≤ k → (k < w.heap.size ∨ w1.heap.size ≤ k) → k < W1.heap.size → w2.heap[k]? = W1.heap[k]?

section
theorem duo_mid {w0 w w1 : World} {gp : Nat} {F : Nat → Prop} {x r : Nat} {vt : Value} {told : List PId} {FP FR : Nat → Prop} {N sp : Nat} {P : Nat → List POp} (h : PairAt w0 gp F x r vt told FP FR N sp P) (hb0 : Below w0.heap.size w0 w) {FP' : Nat → Prop} {P' : Nat → List POp} (hp : isPr w1 x FP' N sp P') (hk : Keeps FP FP' w w1) : (w1.heap[gp]? = w0.heap[gp]? ∧ (∀ k, k < w.heap.size → ¬ F k → w1.heap[k]? = w.heap[k]?) ∧ w.heap.size ≤ w1.heap.size) ∧
    ∀ W1, Loc w0 w w1 W1 → Keeps FP FP' w0 W1 ∧ isPr W1 x FP' N sp P' ∧ isRef W1 r FR N P (hasW P) := by
  have hz := hb0.size
  refine ⟨⟨(hk.other gp (Nat.lt_of_lt_of_le (h.lt _ h.fg) hz) h.gpP).trans (hb0.block gp (h.lt _ h.fg)), fun k hl hF => hk.other k hl fun hP => hF (h.fp k hP), hk.size⟩, fun W1 hL => ?_⟩
  have hK : Keeps FP FP' w0 W1 := ⟨hL.os.trans (hk.os.trans hb0.os), hL.tape.trans (hk.tape.trans hb0.tape), hL.output.trans (hk.output.trans hb0.output), Nat.le_trans (Nat.le_trans hz hk.size) hL.size,
    fun k hl hF => (hL.other k (Nat.lt_of_lt_of_le hl (Nat.le_trans hz hk.size)) (.inl hl)).trans ((hk.other k (Nat.lt_of_lt_of_le hl hz) hF).trans (hb0.block k hl)), fun k hF => (hk.sub k hF).imp id fun h1 => Nat.le_trans hz h1⟩
  refine ⟨hK, hp.keepF hL.size fun k hF => hL.other k (hp.lt k hF) ?_, (h.prog hK).2.1⟩
  rcases hk.sub k hF with h1 | h1
  · exact .inl (h.pr.lt k h1)
  · exact .inr h1
theorem duo_left {w0 w w1 : World} {gp : Nat} {F : Nat → Prop} {x r : Nat} {vt : Value} {told : List PId} {FP FR : Nat → Prop} {N sp : Nat} {P : Nat → List POp} (h : PairAt w0 gp F x r vt told FP FR N sp P) (hb0 : Below w0.heap.size w0 w) {fR : Nat} {args : Array Value} {v : Value} (hl : LeftPr FP N sp P x w w1)
    (hcall : ∀ W1, isRef W1 r FR N P (hasW P) → Calls Tryz.prog fR args W1 fun e w2 => e = .returned v ∧ LeftRef FR N P (hasW P) r W1 w2) : Duo w0 w gp F x r vt told N sp fR args v w1 := by
  obtain ⟨hp, hk⟩ := hl
  obtain ⟨⟨h1, h2, h3⟩, h4⟩ := duo_mid h hb0 hp hk
  refine ⟨h1, h2, h3, fun W1 hL => ?_⟩
  obtain ⟨hK, hp1, hr1⟩ := h4 W1 hL
  refine (hcall W1 hr1).mono fun e w2 hh => ⟨hh.1, ?_, fun k hk1 _ hk2 => hh.2.2.other k hk2 fun hF => by have := h.rf.lt k hF; omega⟩
  obtain ⟨F', h4, h5, h6⟩ := h.both hK hp1 hh.2.2 hh.2.1
  refine ⟨F', FP, FR, P, h4, h5, fun k hk => ?_⟩
  rcases h6 k hk with h7 | h7 | h7
  · exact .inl h7
  · exact .inl (h.fp k h7)
  · exact .inl (h.fr k h7)
theorem duo_wrote {w0 w w1 : World} {gp : Nat} {F : Nat → Prop} {x r : Nat} {vt : Value} {told : List PId} {FP FR : Nat → Prop} {N sp : Nat} {P : Nat → List POp} (h : PairAt w0 gp F x r vt told FP FR N sp P) (hb0 : Below w0.heap.size w0 w) {fR : Nat} {args : Array Value} {v : Value} {c : Nat} {ps : List POp} (hw : WrotePr FP N sp P c x w w1 ps)
    (hcall : ∀ W1, isRef W1 r FR N P (hasW P) → Calls Tryz.prog fR args W1 fun e w2 => e = .returned v ∧ WroteRef FR N P (hasW P) c r W1 w2 ps) : Duo w0 w gp F x r vt told N sp fR args v w1 := by
  obtain ⟨FP', hp, hk⟩ := hw
  obtain ⟨⟨h1, h2, h3⟩, h4⟩ := duo_mid h hb0 hp hk
  refine ⟨h1, h2, h3, fun W1 hL => ?_⟩
  obtain ⟨hK, hp1, hr1⟩ := h4 W1 hL
  refine (hcall W1 hr1).mono fun e w2 hh => ?_
  obtain ⟨FR', hr, hk2⟩ := hh.2
  refine ⟨hh.1, ?_, fun k hk3 _ hk4 => hk2.other k hk4 fun hF => by have := h.rf.lt k hF; omega⟩
  rw [hasW_upd] at hr
  obtain ⟨F', h4, h5, h6⟩ := h.both hK hp1 hk2 hr
  refine ⟨F', FP', FR', _, h4, h5, fun k hkF => ?_⟩
  rcases h6 k hkF with h7 | h7 | h7
  · exact .inl h7
  · exact (hk.sub k h7).imp (h.fp k) fun h8 => .inl ⟨h8, hp.lt k h7⟩
  · exact (hk2.sub k h7).imp (h.fr k) .inr

theorem pair_put {w0 w : World} {gp : Nat} {F : Nat → Prop} {x r : Nat} {vt : Value} {told : List PId} {FP FR : Nat → Prop} {N sp : Nat} {P : Nat → List POp} (h : PairAt w0 gp F x r vt told FP FR N sp P) (hb0 : Below w0.heap.size w0 w) (C : Int) (x1 x2 n : Int) (hn : intOk n) (key : ByteArray) (hks : key.size ≤ maxLen) :
    Calls Tryz.prog 23 #[.pointer (some ⟨x, 0, none⟩), .int .i64 C, .agg #[.int .i64 x1, .int .i64 x2], .string key, .int .i64 n] w fun e w1 => ∃ m, e = .returned (.int .i64 m) ∧ Duo w0 w gp F x r vt told N sp 94 #[.pointer (some ⟨r, 0, none⟩), .int .i64 C, .agg #[.int .i64 x1, .int .i64 x2], .string key, .int .i64 n] (.int .i64 m) w1 := by
  by_cases hc : 0 ≤ C ∧ C < N
  · obtain ⟨c, rfl⟩ : ∃ c : Nat, C = c := ⟨C.toNat, by omega⟩
    have hcN : c < N := by omega
    refine (prog_put (h.keep hb0).pr hcN x1 x2 n hn key hks).mono fun e w1 hh => ?_
    rcases hh with ⟨m, hpl, rfl, hl⟩ | ⟨ps, hpl, rfl, hw⟩
    · refine ⟨m, rfl, duo_left h hb0 hl fun W1 hr => ?_⟩
      refine (ref_put hr (h.pr.own hcN) x1 x2 n key hks).mono fun e w2 hh => ?_
      rcases hh with ⟨m2, hpl2, rfl, hl2⟩ | ⟨ps, hpl2, _, _⟩
      · rw [hpl] at hpl2; cases hpl2; exact ⟨rfl, hl2⟩
      · rw [hpl] at hpl2; cases hpl2
    · refine ⟨0, rfl, duo_wrote h hb0 hw fun W1 hr => ?_⟩
      refine (ref_put hr (h.pr.own hcN) x1 x2 n key hks).mono fun e w2 hh => ?_
      rcases hh with ⟨m2, hpl2, _, _⟩ | ⟨ps2, hpl2, rfl, hw2⟩
      · rw [hpl] at hpl2; cases hpl2
      · rw [hpl] at hpl2; cases hpl2; exact ⟨rfl, hw2⟩
  · refine (prog_put_no (h.keep hb0).pr C hc x1 x2 n key).mono fun e w1 hh => ?_
    obtain ⟨rfl, hl⟩ := hh
    exact ⟨2, rfl, duo_left h hb0 hl fun W1 hr => (ref_put_no hr C x1 x2 n key hc).mono fun e w2 hh => hh⟩

theorem pair_cut {w0 w : World} {gp : Nat} {F : Nat → Prop} {x r : Nat} {vt : Value} {told : List PId} {FP FR : Nat → Prop} {N sp : Nat} {P : Nat → List POp} (h : PairAt w0 gp F x r vt told FP FR N sp P) (hb0 : Below w0.heap.size w0 w) (C : Int) (x1 x2 : Int) (key : ByteArray) (hks : key.size ≤ maxLen) :
    Calls Tryz.prog 78 #[.pointer (some ⟨x, 0, none⟩), .int .i64 C, .agg #[.int .i64 x1, .int .i64 x2], .string key] w fun e w1 => ∃ m, e = .returned (.int .i64 m) ∧ Duo w0 w gp F x r vt told N sp 97 #[.pointer (some ⟨r, 0, none⟩), .int .i64 C, .agg #[.int .i64 x1, .int .i64 x2], .string key] (.int .i64 m) w1 := by
  by_cases hc : 0 ≤ C ∧ C < N
  · obtain ⟨c, rfl⟩ : ∃ c : Nat, C = c := ⟨C.toNat, by omega⟩
    have hcN : c < N := by omega
    refine (prog_cut (h.keep hb0).pr hcN x1 x2 key hks).mono fun e w1 hh => ?_
    rcases hh with ⟨m, hpl, rfl, hl⟩ | ⟨ps, hpl, rfl, hw⟩
    · refine ⟨m, rfl, duo_left h hb0 hl fun W1 hr => ?_⟩
      refine (ref_cut hr (h.pr.own hcN) x1 x2 key hks).mono fun e w2 hh => ?_
      rcases hh with ⟨m2, hpl2, rfl, hl2⟩ | ⟨ps, hpl2, _, _⟩
      · rw [hpl] at hpl2; cases hpl2; exact ⟨rfl, hl2⟩
      · rw [hpl] at hpl2; cases hpl2
    · refine ⟨0, rfl, duo_wrote h hb0 hw fun W1 hr => ?_⟩
      refine (ref_cut hr (h.pr.own hcN) x1 x2 key hks).mono fun e w2 hh => ?_
      rcases hh with ⟨m2, hpl2, _, _⟩ | ⟨ps2, hpl2, rfl, hw2⟩
      · rw [hpl] at hpl2; cases hpl2
      · rw [hpl] at hpl2; cases hpl2; exact ⟨rfl, hw2⟩
  · refine (prog_cut_no (h.keep hb0).pr C hc x1 x2 key).mono fun e w1 hh => ?_
    obtain ⟨rfl, hl⟩ := hh
    exact ⟨2, rfl, duo_left h hb0 hl fun W1 hr => (ref_cut_no hr C x1 x2 key hc).mono fun e w2 hh => hh⟩

theorem pair_setAt {w0 w : World} {gp : Nat} {F : Nat → Prop} {x r : Nat} {vt : Value} {told : List PId} {FP FR : Nat → Prop} {N sp : Nat} {P : Nat → List POp} (h : PairAt w0 gp F x r vt told FP FR N sp P) (hb0 : Below w0.heap.size w0 w) (C : Int) (x1 x2 i n : Int) (hn : intOk n) :
    Calls Tryz.prog 33 #[.pointer (some ⟨x, 0, none⟩), .int .i64 C, .agg #[.int .i64 x1, .int .i64 x2], .int .i64 i, .int .i64 n] w fun e w1 => ∃ m, e = .returned (.int .i64 m) ∧ Duo w0 w gp F x r vt told N sp 101 #[.pointer (some ⟨r, 0, none⟩), .int .i64 C, .agg #[.int .i64 x1, .int .i64 x2], .int .i64 i, .int .i64 n] (.int .i64 m) w1 := by
  by_cases hc : 0 ≤ C ∧ C < N
  · obtain ⟨c, rfl⟩ : ∃ c : Nat, C = c := ⟨C.toNat, by omega⟩
    have hcN : c < N := by omega
    refine (prog_setAt (h.keep hb0).pr hcN x1 x2 i n hn).mono fun e w1 hh => ?_
    rcases hh with ⟨m, hpl, rfl, hl⟩ | ⟨ps, hpl, rfl, hw⟩
    · refine ⟨m, rfl, duo_left h hb0 hl fun W1 hr => ?_⟩
      refine (ref_setAt hr (h.pr.own hcN) x1 x2 i n).mono fun e w2 hh => ?_
      rcases hh with ⟨m2, hpl2, rfl, hl2⟩ | ⟨ps, hpl2, _, _⟩
      · rw [hpl] at hpl2; cases hpl2; exact ⟨rfl, hl2⟩
      · rw [hpl] at hpl2; cases hpl2
    · refine ⟨0, rfl, duo_wrote h hb0 hw fun W1 hr => ?_⟩
      refine (ref_setAt hr (h.pr.own hcN) x1 x2 i n).mono fun e w2 hh => ?_
      rcases hh with ⟨m2, hpl2, _, _⟩ | ⟨ps2, hpl2, rfl, hw2⟩
      · rw [hpl] at hpl2; cases hpl2
      · rw [hpl] at hpl2; cases hpl2; exact ⟨rfl, hw2⟩
  · refine (prog_setAt_no (h.keep hb0).pr C hc x1 x2 i n).mono fun e w1 hh => ?_
    obtain ⟨rfl, hl⟩ := hh
    exact ⟨2, rfl, duo_left h hb0 hl fun W1 hr => (ref_setAt_no hr C x1 x2 i n hc).mono fun e w2 hh => hh⟩

theorem pair_cutAt {w0 w : World} {gp : Nat} {F : Nat → Prop} {x r : Nat} {vt : Value} {told : List PId} {FP FR : Nat → Prop} {N sp : Nat} {P : Nat → List POp} (h : PairAt w0 gp F x r vt told FP FR N sp P) (hb0 : Below w0.heap.size w0 w) (C : Int) (x1 x2 i : Int) :
    Calls Tryz.prog 34 #[.pointer (some ⟨x, 0, none⟩), .int .i64 C, .agg #[.int .i64 x1, .int .i64 x2], .int .i64 i] w fun e w1 => ∃ m, e = .returned (.int .i64 m) ∧ Duo w0 w gp F x r vt told N sp 102 #[.pointer (some ⟨r, 0, none⟩), .int .i64 C, .agg #[.int .i64 x1, .int .i64 x2], .int .i64 i] (.int .i64 m) w1 := by
  by_cases hc : 0 ≤ C ∧ C < N
  · obtain ⟨c, rfl⟩ : ∃ c : Nat, C = c := ⟨C.toNat, by omega⟩
    have hcN : c < N := by omega
    refine (prog_cutAt (h.keep hb0).pr hcN x1 x2 i).mono fun e w1 hh => ?_
    rcases hh with ⟨m, hpl, rfl, hl⟩ | ⟨ps, hpl, rfl, hw⟩
    · refine ⟨m, rfl, duo_left h hb0 hl fun W1 hr => ?_⟩
      refine (ref_cutAt hr (h.pr.own hcN) x1 x2 i).mono fun e w2 hh => ?_
      rcases hh with ⟨m2, hpl2, rfl, hl2⟩ | ⟨ps, hpl2, _, _⟩
      · rw [hpl] at hpl2; cases hpl2; exact ⟨rfl, hl2⟩
      · rw [hpl] at hpl2; cases hpl2
    · refine ⟨0, rfl, duo_wrote h hb0 hw fun W1 hr => ?_⟩
      refine (ref_cutAt hr (h.pr.own hcN) x1 x2 i).mono fun e w2 hh => ?_
      rcases hh with ⟨m2, hpl2, _, _⟩ | ⟨ps2, hpl2, rfl, hw2⟩
      · rw [hpl] at hpl2; cases hpl2
      · rw [hpl] at hpl2; cases hpl2; exact ⟨rfl, hw2⟩
  · refine (prog_cutAt_no (h.keep hb0).pr C hc x1 x2 i).mono fun e w1 hh => ?_
    obtain ⟨rfl, hl⟩ := hh
    exact ⟨2, rfl, duo_left h hb0 hl fun W1 hr => (ref_cutAt_no hr C x1 x2 i hc).mono fun e w2 hh => hh⟩

theorem pair_nest {w0 w : World} {gp : Nat} {F : Nat → Prop} {x r : Nat} {vt : Value} {told : List PId} {FP FR : Nat → Prop} {N sp : Nat} {P : Nat → List POp} (h : PairAt w0 gp F x r vt told FP FR N sp P) (hb0 : Below w0.heap.size w0 w) (C : Int) (x1 x2 : Int) (key : ByteArray) (hks : key.size ≤ maxLen) (lst : Bool) :
    Calls Tryz.prog 38 #[.pointer (some ⟨x, 0, none⟩), .int .i64 C, .agg #[.int .i64 x1, .int .i64 x2], .string key, .bool lst] w fun e w1 => ∃ i1 i2 m, e = .returned (.tuple #[.agg #[.int .i64 i1, .int .i64 i2], .int .i64 m]) ∧ Duo w0 w gp F x r vt told N sp 95 #[.pointer (some ⟨r, 0, none⟩), .int .i64 C, .agg #[.int .i64 x1, .int .i64 x2], .string key, .bool lst] (.tuple #[.agg #[.int .i64 i1, .int .i64 i2], .int .i64 m]) w1 := by
  by_cases hc : 0 ≤ C ∧ C < N
  · obtain ⟨c, rfl⟩ : ∃ c : Nat, C = c := ⟨C.toNat, by omega⟩
    have hcN : c < N := by omega
    refine (prog_nest (h.keep hb0).pr hcN x1 x2 key hks lst).mono fun e w1 hh => ?_
    rcases hh with ⟨m, hpl, rfl, hl⟩ | ⟨ps, hpl, rfl, hw⟩
    · refine ⟨0, 0, m, rfl, duo_left h hb0 hl fun W1 hr => ?_⟩
      refine (ref_nest hr (h.pr.own hcN) x1 x2 key hks lst).mono fun e w2 hh => ?_
      rcases hh with ⟨m2, hpl2, rfl, hl2⟩ | ⟨ps, hpl2, _, _⟩
      · rw [hpl] at hpl2; cases hpl2; exact ⟨rfl, hl2⟩
      · rw [hpl] at hpl2; cases hpl2
    · refine ⟨_, _, 0, rfl, duo_wrote h hb0 hw fun W1 hr => ?_⟩
      refine (ref_nest hr (h.pr.own hcN) x1 x2 key hks lst).mono fun e w2 hh => ?_
      rcases hh with ⟨m2, hpl2, _, _⟩ | ⟨ps2, hpl2, rfl, hw2⟩
      · rw [hpl] at hpl2; cases hpl2
      · rw [hpl] at hpl2; cases hpl2; exact ⟨rfl, hw2⟩
  · refine (prog_nest_no (h.keep hb0).pr C hc x1 x2 key lst).mono fun e w1 hh => ?_
    obtain ⟨rfl, hl⟩ := hh
    exact ⟨0, 0, 2, rfl, duo_left h hb0 hl fun W1 hr => (ref_nest_no hr C x1 x2 key lst hc).mono fun e w2 hh => hh⟩

theorem pair_insert {w0 w : World} {gp : Nat} {F : Nat → Prop} {x r : Nat} {vt : Value} {told : List PId} {FP FR : Nat → Prop} {N sp : Nat} {P : Nat → List POp} (h : PairAt w0 gp F x r vt told FP FR N sp P) (hb0 : Below w0.heap.size w0 w) (C : Int) (x1 x2 i n : Int) (hn : intOk n) :
    Calls Tryz.prog 32 #[.pointer (some ⟨x, 0, none⟩), .int .i64 C, .agg #[.int .i64 x1, .int .i64 x2], .int .i64 i, .int .i64 n] w fun e w1 => ∃ i1 i2 m, e = .returned (.tuple #[.agg #[.int .i64 i1, .int .i64 i2], .int .i64 m]) ∧ Duo w0 w gp F x r vt told N sp 98 #[.pointer (some ⟨r, 0, none⟩), .int .i64 C, .agg #[.int .i64 x1, .int .i64 x2], .int .i64 i, .int .i64 n] (.tuple #[.agg #[.int .i64 i1, .int .i64 i2], .int .i64 m]) w1 := by
  by_cases hc : 0 ≤ C ∧ C < N
  · obtain ⟨c, rfl⟩ : ∃ c : Nat, C = c := ⟨C.toNat, by omega⟩
    have hcN : c < N := by omega
    refine (prog_insert (h.keep hb0).pr hcN x1 x2 i n hn).mono fun e w1 hh => ?_
    rcases hh with ⟨m, hpl, rfl, hl⟩ | ⟨ps, hpl, rfl, hw⟩
    · refine ⟨0, 0, m, rfl, duo_left h hb0 hl fun W1 hr => ?_⟩
      refine (ref_insert hr (h.pr.own hcN) x1 x2 i n).mono fun e w2 hh => ?_
      rcases hh with ⟨m2, hpl2, rfl, hl2⟩ | ⟨ps, hpl2, _, _⟩
      · rw [hpl] at hpl2; cases hpl2; exact ⟨rfl, hl2⟩
      · rw [hpl] at hpl2; cases hpl2
    · refine ⟨_, _, 0, rfl, duo_wrote h hb0 hw fun W1 hr => ?_⟩
      refine (ref_insert hr (h.pr.own hcN) x1 x2 i n).mono fun e w2 hh => ?_
      rcases hh with ⟨m2, hpl2, _, _⟩ | ⟨ps2, hpl2, rfl, hw2⟩
      · rw [hpl] at hpl2; cases hpl2
      · rw [hpl] at hpl2; cases hpl2; exact ⟨rfl, hw2⟩
  · refine (prog_insert_no (h.keep hb0).pr C hc x1 x2 i n).mono fun e w1 hh => ?_
    obtain ⟨rfl, hl⟩ := hh
    exact ⟨0, 0, 2, rfl, duo_left h hb0 hl fun W1 hr => (ref_insert_no hr C x1 x2 i n hc).mono fun e w2 hh => hh⟩

theorem pair_nestAt {w0 w : World} {gp : Nat} {F : Nat → Prop} {x r : Nat} {vt : Value} {told : List PId} {FP FR : Nat → Prop} {N sp : Nat} {P : Nat → List POp} (h : PairAt w0 gp F x r vt told FP FR N sp P) (hb0 : Below w0.heap.size w0 w) (C : Int) (x1 x2 i : Int) (lst : Bool) :
    Calls Tryz.prog 99 #[.pointer (some ⟨x, 0, none⟩), .int .i64 C, .agg #[.int .i64 x1, .int .i64 x2], .int .i64 i, .bool lst] w fun e w1 => ∃ i1 i2 m, e = .returned (.tuple #[.agg #[.int .i64 i1, .int .i64 i2], .int .i64 m]) ∧ Duo w0 w gp F x r vt told N sp 100 #[.pointer (some ⟨r, 0, none⟩), .int .i64 C, .agg #[.int .i64 x1, .int .i64 x2], .int .i64 i, .bool lst] (.tuple #[.agg #[.int .i64 i1, .int .i64 i2], .int .i64 m]) w1 := by
  by_cases hc : 0 ≤ C ∧ C < N
  · obtain ⟨c, rfl⟩ : ∃ c : Nat, C = c := ⟨C.toNat, by omega⟩
    have hcN : c < N := by omega
    refine (prog_nestAt (h.keep hb0).pr hcN x1 x2 i lst).mono fun e w1 hh => ?_
    rcases hh with ⟨m, hpl, rfl, hl⟩ | ⟨ps, hpl, rfl, hw⟩
    · refine ⟨0, 0, m, rfl, duo_left h hb0 hl fun W1 hr => ?_⟩
      refine (ref_nestAt hr (h.pr.own hcN) x1 x2 i lst).mono fun e w2 hh => ?_
      rcases hh with ⟨m2, hpl2, rfl, hl2⟩ | ⟨ps, hpl2, _, _⟩
      · rw [hpl] at hpl2; cases hpl2; exact ⟨rfl, hl2⟩
      · rw [hpl] at hpl2; cases hpl2
    · refine ⟨_, _, 0, rfl, duo_wrote h hb0 hw fun W1 hr => ?_⟩
      refine (ref_nestAt hr (h.pr.own hcN) x1 x2 i lst).mono fun e w2 hh => ?_
      rcases hh with ⟨m2, hpl2, _, _⟩ | ⟨ps2, hpl2, rfl, hw2⟩
      · rw [hpl] at hpl2; cases hpl2
      · rw [hpl] at hpl2; cases hpl2; exact ⟨rfl, hw2⟩
  · refine (prog_nestAt_no (h.keep hb0).pr C hc x1 x2 i lst).mono fun e w1 hh => ?_
    obtain ⟨rfl, hl⟩ := hh
    exact ⟨0, 0, 2, rfl, duo_left h hb0 hl fun W1 hr => (ref_nestAt_no hr C x1 x2 i lst hc).mono fun e w2 hh => hh⟩
end

end Go.Proofs.YtnkpogjiiohapaaGreatDoor

/-! PLawE: The law: writes. -/
namespace Go.Proofs.YtnkpogjiiohapaaGreatDoor
open Go.RowKit
attribute [local go_sem ↓] Go.wp_at_zero Go.wp_at_succ

/-- A step of a script. -/
structure LOp where
  kind : Int
  r : Int
  c : Int
  d : Int
  i1 : Int
  i2 : Int
  made : Int
  key : ByteArray
  a : Int
  b : Int
  yes : Bool
def lopA (o : LOp) : Array Value := #[.int .i64 o.kind, .int .i64 o.r, .int .i64 o.c, .int .i64 o.d, .int .i64 o.i1, .int .i64 o.i2, .int .i64 o.made, .string o.key, .int .i64 o.a, .int .i64 o.b, .bool o.yes]
structure LOk (o : LOp) : Prop where
  r : intOk o.r
  made : intOk o.made
  a : intOk o.a
  b : intOk o.b
  key : o.key.size ≤ maxLen
/-- What a step finds: the two rooms, and its own numbers. -/
theorem opS {W : World} {gp g x r : Nat} {vt : Value} {k0 k1 k2 k3 k4 k5 k6 k8 k9 : Int} {key : ByteArray} {yes : Bool} (h1 : W.heap[gp]? = some (.cells #[.pointer (some ⟨x, 0, none⟩), .pointer (some ⟨r, 0, none⟩), vt] 135 (0, 0)))
    (h2 : W.heap[g]? = some (.cells #[.int .i64 k0, .int .i64 k1, .int .i64 k2, .int .i64 k3, .int .i64 k4, .int .i64 k5, .int .i64 k6, .string key, .int .i64 k8, .int .i64 k9, .bool yes] 87 (0, 0))) :
    W.cell? ⟨gp, 0, none⟩ = some (.pointer (some ⟨x, 0, none⟩)) ∧ W.cell? ⟨gp, 1, none⟩ = some (.pointer (some ⟨r, 0, none⟩)) ∧ W.cell? ⟨g, 0, none⟩ = some (.int .i64 k0) ∧ W.cell? ⟨g, 2, none⟩ = some (.int .i64 k2) ∧ W.cell? ⟨g, 4, none⟩ = some (.int .i64 k4) ∧ W.cell? ⟨g, 5, none⟩ = some (.int .i64 k5) ∧ W.cell? ⟨g, 7, none⟩ = some (.string key) ∧ W.cell? ⟨g, 8, none⟩ = some (.int .i64 k8) ∧ W.cell? ⟨g, 9, none⟩ = some (.int .i64 k9) ∧ W.cell? ⟨g, 10, none⟩ = some (.bool yes) := by
  refine ⟨?_, ?_, ?_, ?_, ?_, ?_, ?_, ?_, ?_, ?_⟩ <;> simp [World.cell?, h1, h2]

/-- Behind the program's call that tells an Id. -/
structure NMid (w : World) (gp : Nat) (F : Nat → Prop) (x r : Nat) (vt : Value) (told : List PId) (N sp : Nat) (fR : Nat) (args : Array Value) (box : Obj) (ga : Nat) (i1 i2 m : Int) (wc : World) : Prop where
  a : wc.heap[ga]? = some (.cells #[.int .i64 i1, .int .i64 i2] 36 (0, 0))
  g : wc.heap[gp]? = w.heap[gp]?
  b : wc.heap[w.heap.size]? = some box
  next : ∀ W1, Below wc.heap.size wc W1 → Calls Tryz.prog fR args W1 fun e w2 => e = .returned (.tuple #[.agg #[.int .i64 i1, .int .i64 i2], .int .i64 m]) ∧ (∃ F' FP' FR' P', PairAt w2 gp F' x r vt told FP' FR' N sp P' ∧ Keeps F F' w w2 ∧ ∀ k, wc.heap.size ≤ k → k < W1.heap.size → ¬ F' k) ∧ w2.heap[ga]? = some (.cells #[.int .i64 i1, .int .i64 i2] 36 (0, 0)) ∧ w2.heap[w.heap.size]? = some box ∧ ∀ k, wc.heap.size ≤ k → k < W1.heap.size → w2.heap[k]? = W1.heap[k]?
section
theorem duo_nmid {w W w1 wc : World} {gp : Nat} {F : Nat → Prop} {x r : Nat} {vt : Value} {told : List PId} {N sp : Nat} {fR : Nat} {args : Array Value} {i1 i2 m : Int} {box : Obj} {ga : Nat} (hF : ∀ k, F k → k < w.heap.size) (hgp : F gp) (hd : Duo w W gp F x r vt told N sp fR args (.tuple #[.agg #[.int .i64 i1, .int .i64 i2], .int .i64 m]) w1) (hW : w.heap.size < W.heap.size) (hL : Loc w W w1 wc) (ha : wc.heap[ga]? = some (.cells #[.int .i64 i1, .int .i64 i2] 36 (0, 0))) (hga : w.heap.size ≤ ga) (hgb : ga < W.heap.size ∨ w1.heap.size ≤ ga) (hb : wc.heap[w.heap.size]? = some box) : NMid w gp F x r vt told N sp fR args box ga i1 i2 m wc := by
  obtain ⟨h1, h2, h3, h4⟩ := hd
  have hgl := hF gp hgp
  refine ⟨ha, (hL.other gp (by omega) (.inl hgl)).trans h1, hb, fun W1 hb1 => (h4 W1 (hL.grow hb1)).mono fun e w2 hh => ?_⟩
  obtain ⟨he, ⟨F', FP', FR', P', hp, hk, hs⟩, hn⟩ := hh
  have hz1 := hL.size
  have hz2 := hb1.size
  have hal := blk_lt ha
  have hbl := blk_lt hb
  refine ⟨he, ⟨F', FP', FR', P', hp, hk, fun k hk1 hk2 hF' => ?_⟩, ?_, ?_, fun k hk1 hk2 => hn k (by omega) (.inr (by omega)) hk2⟩
  · rcases hs k hF' with h | h | h
    · have := hF k h; omega
    · omega
    · omega
  · rw [hn ga hga hgb (by omega), hb1.block ga hal]; exact ha
  · rw [hn w.heap.size (Nat.le_refl _) (.inl hW) (by omega), hb1.block _ hbl]; exact hb
/-- The variable was made ahead of the call. -/
theorem nmid_a {w w1 : World} {gp : Nat} {F : Nat → Prop} {x r : Nat} {vt : Value} {told : List PId} {N sp : Nat} {fR : Nat} {args : Array Value} {i1 i2 m : Int} {box : Obj} (hF : ∀ k, F k → k < w.heap.size) (hgp : F gp) {u v : Value} (hd : Duo w ((w.alloc box).alloc (.cells #[u, v] 36)).drew gp F x r vt told N sp fR args (.tuple #[.agg #[.int .i64 i1, .int .i64 i2], .int .i64 m]) w1) :
    NMid w gp F x r vt told N sp fR args box (w.heap.size + 1) i1 i2 m ((w1.setCell ⟨w.heap.size + 1, 0, none⟩ (.int .i64 i1)).setCell ⟨w.heap.size + 1, 1, none⟩ (.int .i64 i2)) := by
  have hd' := hd
  obtain ⟨h1, h2, h3, h4⟩ := hd
  simp at h3
  have ha : w1.heap[w.heap.size + 1]? = some (.cells #[u, v] 36 (0, 0)) := (h2 _ (by simp) (fun h => by have := hF _ h; omega)).trans (blk_at (by simp))
  have hb : w1.heap[w.heap.size]? = some box := (h2 _ (by simp; omega) (fun h => by have := hF _ h; omega)).trans ((alloc_ne (by simp)).trans (blk_new w _))
  refine duo_nmid hF hgp hd' (by simp; omega) ⟨rfl, rfl, rfl, by simp [World.setCell], fun k hk hc => ?_⟩ (set2both ha) (by omega) (.inl (by simp)) ((setCell_other (by omega)).trans ((setCell_other (by omega)).trans hb))
  have : k ≠ w.heap.size + 1 := by rcases hc with h | h; · omega
                                   · simp at h; omega
  exact (setCell_other this).trans (setCell_other this)
/-- The variable was made behind it. -/
theorem nmid_b {w w1 : World} {gp : Nat} {F : Nat → Prop} {x r : Nat} {vt : Value} {told : List PId} {N sp : Nat} {fR : Nat} {args : Array Value} {i1 i2 m : Int} {box : Obj} (hF : ∀ k, F k → k < w.heap.size) (hgp : F gp) (hd : Duo w (w.alloc box).drew gp F x r vt told N sp fR args (.tuple #[.agg #[.int .i64 i1, .int .i64 i2], .int .i64 m]) w1) :
    NMid w gp F x r vt told N sp fR args box w1.heap.size i1 i2 m (w1.alloc (.cells #[.int .i64 i1, .int .i64 i2] 36)) := by
  have hd' := hd
  obtain ⟨h1, h2, h3, h4⟩ := hd
  simp at h3
  have hb : w1.heap[w.heap.size]? = some box := (h2 _ (by simp) (fun h => by have := hF _ h; omega)).trans (blk_new w _)
  exact duo_nmid hF hgp hd' (by simp) (Loc.of_below ((Below.refl _ w1).alloc (Nat.le_refl _) _)) (blk_new w1 _) (by omega) (.inr (Nat.le_refl _)) ((alloc_ne (by omega)).trans hb)
end

/-- Behind both calls that tell an Id. -/
structure NEnd (w : World) (gp : Nat) (F : Nat → Prop) (x r : Nat) (vt : Value) (told : List PId) (N sp : Nat) (ga gb : Nat) (i1 i2 : Int) (wc : World) : Prop where
  a : wc.heap[ga]? = some (.cells #[.int .i64 i1, .int .i64 i2] 36 (0, 0))
  b : wc.heap[gb]? = some (.cells #[.int .i64 i1, .int .i64 i2] 36 (0, 0))
  pair : ∃ F' FP' FR' P', PairAt wc gp F' x r vt told FP' FR' N sp P' ∧ Keeps F F' w wc
section
theorem nend_a {w w2 wc : World} {gp : Nat} {F : Nat → Prop} {x r : Nat} {vt : Value} {told : List PId} {N sp : Nat} {i1 i2 : Int} {ga : Nat} {u v : Value} (hz : w.heap.size ≤ wc.heap.size) (hgl : ga < wc.heap.size) (he : ∃ F' FP' FR' P', PairAt w2 gp F' x r vt told FP' FR' N sp P' ∧ Keeps F F' w w2 ∧ ∀ k, wc.heap.size ≤ k → k < (wc.alloc (.cells #[u, v] 36)).drew.heap.size → ¬ F' k)
    (ha : w2.heap[ga]? = some (.cells #[.int .i64 i1, .int .i64 i2] 36 (0, 0))) (hn : ∀ k, wc.heap.size ≤ k → k < (wc.alloc (.cells #[u, v] 36)).drew.heap.size → w2.heap[k]? = (wc.alloc (.cells #[u, v] 36)).drew.heap[k]?) :
    NEnd w gp F x r vt told N sp ga wc.heap.size i1 i2 ((w2.setCell ⟨wc.heap.size, 0, none⟩ (.int .i64 i1)).setCell ⟨wc.heap.size, 1, none⟩ (.int .i64 i2)) := by
  obtain ⟨F', FP', FR', P', hp, hk, hf⟩ := he
  have hb : w2.heap[wc.heap.size]? = some (.cells #[u, v] 36 (0, 0)) := (hn _ (Nat.le_refl _) (by simp)).trans (blk_new wc _)
  have hnf := hf wc.heap.size (Nat.le_refl _) (by simp)
  refine ⟨(setCell_other (by omega)).trans ((setCell_other (by omega)).trans ha), set2both hb, F', FP', FR', P', hp.keepF (by simp [World.setCell]) fun k hk => ?_, (hk.setNew hz _).setNew hz _⟩
  have : k ≠ wc.heap.size := fun e => hnf (e ▸ hk)
  exact (setCell_other this).trans (setCell_other this)
theorem nend_b {w W1 w2 wc : World} {gp : Nat} {F : Nat → Prop} {x r : Nat} {vt : Value} {told : List PId} {N sp : Nat} {i1 i2 : Int} {ga : Nat} (he : ∃ F' FP' FR' P', PairAt w2 gp F' x r vt told FP' FR' N sp P' ∧ Keeps F F' w w2 ∧ ∀ k, wc.heap.size ≤ k → k < W1.heap.size → ¬ F' k)
    (ha : w2.heap[ga]? = some (.cells #[.int .i64 i1, .int .i64 i2] 36 (0, 0))) :
    NEnd w gp F x r vt told N sp ga w2.heap.size i1 i2 (w2.alloc (.cells #[.int .i64 i1, .int .i64 i2] 36)) := by
  obtain ⟨F', FP', FR', P', hp, hk, hf⟩ := he
  have hb := (Below.refl w2.heap.size w2).alloc (Nat.le_refl _) (.cells #[.int .i64 i1, .int .i64 i2] 36)
  exact ⟨blk_keep ha hb, blk_new w2 _, F', FP', FR', P', hp.keep hb, hk.after hb⟩
end

/-- What a step on a room leaves. -/
def Stepped (w : World) (gp : Nat) (F : Nat → Prop) (nt : Nat) (w' : World) : Prop := ∃ F', isPair w' gp F' nt ∧ Keeps F F' w w'

section
set_option maxRecDepth 1000000 in
set_option maxHeartbeats 8000000 in
theorem writes_put {w : World} {gp : Nat} {F : Nat → Prop} {nt : Nat} (h : isPair w gp F nt) (o : LOp) (hk : LOk o) (hkd : o.kind = 2) :
    Calls Tryz.prog 68 #[.pointer (some ⟨gp, 0, none⟩), .agg #[.int .i64 o.kind, .int .i64 o.r, .int .i64 o.c, .int .i64 o.d, .int .i64 o.i1, .int .i64 o.i2, .int .i64 o.made, .string o.key, .int .i64 o.a, .int .i64 o.b, .bool o.yes]] w fun e w' => e = .returned (.bool true) ∧ Stepped w gp F (nt + 1) w' := by
  obtain ⟨x, r, vt, told, FP, FR, N, sp, P, htl, h⟩ := h
  rw [hkd]
  have HB := hid ((Below.refl w.heap.size w).alloc (Nat.le_refl _) (.cells #[.int .i64 2, .int .i64 o.r, .int .i64 o.c, .int .i64 o.d, .int .i64 o.i1, .int .i64 o.i2, .int .i64 o.made, .string o.key, .int .i64 o.a, .int .i64 o.b, .bool o.yes] 87))
  have HX0 := hid (blk_new w (.cells #[.int .i64 2, .int .i64 o.r, .int .i64 o.c, .int .i64 o.d, .int .i64 o.i1, .int .i64 o.i2, .int .i64 o.made, .string o.key, .int .i64 o.a, .int .i64 o.b, .bool o.yes] 87))
  have HG0 := hid (blk_keep h.blk HB.out)
  have HC := hid (fun W (hb : Below w.heap.size w W) => pair_put h hb o.c o.i1 o.i2 o.a hk.a o.key hk.key)
  have HF := hid h.lt
  have HFG := hid h.fg
  have HNF := hid (show ∀ k, w.heap.size ≤ k → ¬ F k from fun k hk hF => by have := h.lt k hF; omega)
  have hgl := h.lt _ h.fg
  have HGW := hid h.blk
  clear h hk
  go_enter Tryz.func68, Tryz.ntmps68
  go_wp2_with fail
  go_region_held3 (fun W => W.cell? ⟨gp, 0, none⟩ = some (.pointer (some ⟨x, 0, none⟩)) ∧ W.cell? ⟨gp, 1, none⟩ = some (.pointer (some ⟨r, 0, none⟩)) ∧ W.cell? ⟨w.heap.size, 0, none⟩ = some (.int .i64 2) ∧ W.cell? ⟨w.heap.size, 2, none⟩ = some (.int .i64 o.c) ∧ W.cell? ⟨w.heap.size, 4, none⟩ = some (.int .i64 o.i1) ∧ W.cell? ⟨w.heap.size, 5, none⟩ = some (.int .i64 o.i2) ∧ W.cell? ⟨w.heap.size, 7, none⟩ = some (.string o.key) ∧ W.cell? ⟨w.heap.size, 8, none⟩ = some (.int .i64 o.a) ∧ W.cell? ⟨w.heap.size, 9, none⟩ = some (.int .i64 o.b) ∧ W.cell? ⟨w.heap.size, 10, none⟩ = some (.bool o.yes)) (first | exact opS HG0.out HX0.out | exact opS HG1.out HX1.out)
    (first | (go_at_call 23; refine (HC.out _ HB.out.drew).mono ?_; rintro e w1 ⟨m, rfl, hg1, hk1, hs1, hr1⟩; have HG1 := hid (hg1.trans HGW.out); have HX1 := hid ((hk1 w.heap.size (blk_lt HX0.out) (HNF.out _ (Nat.le_refl _))).trans HX0.out); have HR1 := hid hr1; clear hg1 hk1 hr1))
  go_wp2_with fail
  go_region_held3 (fun W => W.cell? ⟨gp, 0, none⟩ = some (.pointer (some ⟨x, 0, none⟩)) ∧ W.cell? ⟨gp, 1, none⟩ = some (.pointer (some ⟨r, 0, none⟩)) ∧ W.cell? ⟨w.heap.size, 0, none⟩ = some (.int .i64 2) ∧ W.cell? ⟨w.heap.size, 2, none⟩ = some (.int .i64 o.c) ∧ W.cell? ⟨w.heap.size, 4, none⟩ = some (.int .i64 o.i1) ∧ W.cell? ⟨w.heap.size, 5, none⟩ = some (.int .i64 o.i2) ∧ W.cell? ⟨w.heap.size, 7, none⟩ = some (.string o.key) ∧ W.cell? ⟨w.heap.size, 8, none⟩ = some (.int .i64 o.a) ∧ W.cell? ⟨w.heap.size, 9, none⟩ = some (.int .i64 o.b) ∧ W.cell? ⟨w.heap.size, 10, none⟩ = some (.bool o.yes)) (first | exact opS HG1.out HX1.out | exact opS HG2.out HX2.out)
    (first | (go_at_call 94; refine (HR1.out _ (Loc.of_below ((Below.refl _ w1).drew))).mono ?_; rintro e w2 ⟨rfl, ⟨F', FP', FR', P', hp2, hk2, hs2⟩, hnw⟩; have HG2 := hid hp2.blk; have HX2 := hid ((hnw w.heap.size (Nat.le_refl _) (.inl (by simp)) (blk_lt HX1.out)).trans HX1.out); have HP2 := hid hp2; have HK2 := hid hk2; clear hp2 hk2 hnw hs2))
  go_wp2
  go_ret
  exact ⟨rfl, F', ⟨x, r, vt, told, FP', FR', N, sp, P', by omega, HP2.out⟩, HK2.out⟩

set_option maxRecDepth 1000000 in
set_option maxHeartbeats 8000000 in
theorem writes_cut {w : World} {gp : Nat} {F : Nat → Prop} {nt : Nat} (h : isPair w gp F nt) (o : LOp) (hk : LOk o) (hkd : o.kind = 4) :
    Calls Tryz.prog 68 #[.pointer (some ⟨gp, 0, none⟩), .agg #[.int .i64 o.kind, .int .i64 o.r, .int .i64 o.c, .int .i64 o.d, .int .i64 o.i1, .int .i64 o.i2, .int .i64 o.made, .string o.key, .int .i64 o.a, .int .i64 o.b, .bool o.yes]] w fun e w' => e = .returned (.bool true) ∧ Stepped w gp F (nt + 1) w' := by
  obtain ⟨x, r, vt, told, FP, FR, N, sp, P, htl, h⟩ := h
  rw [hkd]
  have HB := hid ((Below.refl w.heap.size w).alloc (Nat.le_refl _) (.cells #[.int .i64 4, .int .i64 o.r, .int .i64 o.c, .int .i64 o.d, .int .i64 o.i1, .int .i64 o.i2, .int .i64 o.made, .string o.key, .int .i64 o.a, .int .i64 o.b, .bool o.yes] 87))
  have HX0 := hid (blk_new w (.cells #[.int .i64 4, .int .i64 o.r, .int .i64 o.c, .int .i64 o.d, .int .i64 o.i1, .int .i64 o.i2, .int .i64 o.made, .string o.key, .int .i64 o.a, .int .i64 o.b, .bool o.yes] 87))
  have HG0 := hid (blk_keep h.blk HB.out)
  have HC := hid (fun W (hb : Below w.heap.size w W) => pair_cut h hb o.c o.i1 o.i2 o.key hk.key)
  have HF := hid h.lt
  have HFG := hid h.fg
  have HNF := hid (show ∀ k, w.heap.size ≤ k → ¬ F k from fun k hk hF => by have := h.lt k hF; omega)
  have hgl := h.lt _ h.fg
  have HGW := hid h.blk
  clear h hk
  go_enter Tryz.func68, Tryz.ntmps68
  go_wp2_with fail
  go_region_held3 (fun W => W.cell? ⟨gp, 0, none⟩ = some (.pointer (some ⟨x, 0, none⟩)) ∧ W.cell? ⟨gp, 1, none⟩ = some (.pointer (some ⟨r, 0, none⟩)) ∧ W.cell? ⟨w.heap.size, 0, none⟩ = some (.int .i64 4) ∧ W.cell? ⟨w.heap.size, 2, none⟩ = some (.int .i64 o.c) ∧ W.cell? ⟨w.heap.size, 4, none⟩ = some (.int .i64 o.i1) ∧ W.cell? ⟨w.heap.size, 5, none⟩ = some (.int .i64 o.i2) ∧ W.cell? ⟨w.heap.size, 7, none⟩ = some (.string o.key) ∧ W.cell? ⟨w.heap.size, 8, none⟩ = some (.int .i64 o.a) ∧ W.cell? ⟨w.heap.size, 9, none⟩ = some (.int .i64 o.b) ∧ W.cell? ⟨w.heap.size, 10, none⟩ = some (.bool o.yes)) (first | exact opS HG0.out HX0.out | exact opS HG1.out HX1.out)
    (first | (go_at_call 78; refine (HC.out _ HB.out.drew).mono ?_; rintro e w1 ⟨m, rfl, hg1, hk1, hs1, hr1⟩; have HG1 := hid (hg1.trans HGW.out); have HX1 := hid ((hk1 w.heap.size (blk_lt HX0.out) (HNF.out _ (Nat.le_refl _))).trans HX0.out); have HR1 := hid hr1; clear hg1 hk1 hr1))
  go_wp2_with fail
  go_region_held3 (fun W => W.cell? ⟨gp, 0, none⟩ = some (.pointer (some ⟨x, 0, none⟩)) ∧ W.cell? ⟨gp, 1, none⟩ = some (.pointer (some ⟨r, 0, none⟩)) ∧ W.cell? ⟨w.heap.size, 0, none⟩ = some (.int .i64 4) ∧ W.cell? ⟨w.heap.size, 2, none⟩ = some (.int .i64 o.c) ∧ W.cell? ⟨w.heap.size, 4, none⟩ = some (.int .i64 o.i1) ∧ W.cell? ⟨w.heap.size, 5, none⟩ = some (.int .i64 o.i2) ∧ W.cell? ⟨w.heap.size, 7, none⟩ = some (.string o.key) ∧ W.cell? ⟨w.heap.size, 8, none⟩ = some (.int .i64 o.a) ∧ W.cell? ⟨w.heap.size, 9, none⟩ = some (.int .i64 o.b) ∧ W.cell? ⟨w.heap.size, 10, none⟩ = some (.bool o.yes)) (first | exact opS HG1.out HX1.out | exact opS HG2.out HX2.out)
    (first | (go_at_call 97; refine (HR1.out _ (Loc.of_below ((Below.refl _ w1).drew))).mono ?_; rintro e w2 ⟨rfl, ⟨F', FP', FR', P', hp2, hk2, hs2⟩, hnw⟩; have HG2 := hid hp2.blk; have HX2 := hid ((hnw w.heap.size (Nat.le_refl _) (.inl (by simp)) (blk_lt HX1.out)).trans HX1.out); have HP2 := hid hp2; have HK2 := hid hk2; clear hp2 hk2 hnw hs2))
  go_wp2
  go_ret
  exact ⟨rfl, F', ⟨x, r, vt, told, FP', FR', N, sp, P', by omega, HP2.out⟩, HK2.out⟩

set_option maxRecDepth 1000000 in
set_option maxHeartbeats 8000000 in
theorem writes_setAt {w : World} {gp : Nat} {F : Nat → Prop} {nt : Nat} (h : isPair w gp F nt) (o : LOp) (hk : LOk o) (hkd : o.kind = 7) :
    Calls Tryz.prog 68 #[.pointer (some ⟨gp, 0, none⟩), .agg #[.int .i64 o.kind, .int .i64 o.r, .int .i64 o.c, .int .i64 o.d, .int .i64 o.i1, .int .i64 o.i2, .int .i64 o.made, .string o.key, .int .i64 o.a, .int .i64 o.b, .bool o.yes]] w fun e w' => e = .returned (.bool true) ∧ Stepped w gp F (nt + 1) w' := by
  obtain ⟨x, r, vt, told, FP, FR, N, sp, P, htl, h⟩ := h
  rw [hkd]
  have HB := hid ((Below.refl w.heap.size w).alloc (Nat.le_refl _) (.cells #[.int .i64 7, .int .i64 o.r, .int .i64 o.c, .int .i64 o.d, .int .i64 o.i1, .int .i64 o.i2, .int .i64 o.made, .string o.key, .int .i64 o.a, .int .i64 o.b, .bool o.yes] 87))
  have HX0 := hid (blk_new w (.cells #[.int .i64 7, .int .i64 o.r, .int .i64 o.c, .int .i64 o.d, .int .i64 o.i1, .int .i64 o.i2, .int .i64 o.made, .string o.key, .int .i64 o.a, .int .i64 o.b, .bool o.yes] 87))
  have HG0 := hid (blk_keep h.blk HB.out)
  have HC := hid (fun W (hb : Below w.heap.size w W) => pair_setAt h hb o.c o.i1 o.i2 o.a o.b hk.b)
  have HF := hid h.lt
  have HFG := hid h.fg
  have HNF := hid (show ∀ k, w.heap.size ≤ k → ¬ F k from fun k hk hF => by have := h.lt k hF; omega)
  have hgl := h.lt _ h.fg
  have HGW := hid h.blk
  clear h hk
  go_enter Tryz.func68, Tryz.ntmps68
  go_wp2_with fail
  go_region_held3 (fun W => W.cell? ⟨gp, 0, none⟩ = some (.pointer (some ⟨x, 0, none⟩)) ∧ W.cell? ⟨gp, 1, none⟩ = some (.pointer (some ⟨r, 0, none⟩)) ∧ W.cell? ⟨w.heap.size, 0, none⟩ = some (.int .i64 7) ∧ W.cell? ⟨w.heap.size, 2, none⟩ = some (.int .i64 o.c) ∧ W.cell? ⟨w.heap.size, 4, none⟩ = some (.int .i64 o.i1) ∧ W.cell? ⟨w.heap.size, 5, none⟩ = some (.int .i64 o.i2) ∧ W.cell? ⟨w.heap.size, 7, none⟩ = some (.string o.key) ∧ W.cell? ⟨w.heap.size, 8, none⟩ = some (.int .i64 o.a) ∧ W.cell? ⟨w.heap.size, 9, none⟩ = some (.int .i64 o.b) ∧ W.cell? ⟨w.heap.size, 10, none⟩ = some (.bool o.yes)) (first | exact opS HG0.out HX0.out | exact opS HG1.out HX1.out)
    (first | (go_at_call 33; refine (HC.out _ HB.out.drew).mono ?_; rintro e w1 ⟨m, rfl, hg1, hk1, hs1, hr1⟩; have HG1 := hid (hg1.trans HGW.out); have HX1 := hid ((hk1 w.heap.size (blk_lt HX0.out) (HNF.out _ (Nat.le_refl _))).trans HX0.out); have HR1 := hid hr1; clear hg1 hk1 hr1))
  go_wp2_with fail
  go_region_held3 (fun W => W.cell? ⟨gp, 0, none⟩ = some (.pointer (some ⟨x, 0, none⟩)) ∧ W.cell? ⟨gp, 1, none⟩ = some (.pointer (some ⟨r, 0, none⟩)) ∧ W.cell? ⟨w.heap.size, 0, none⟩ = some (.int .i64 7) ∧ W.cell? ⟨w.heap.size, 2, none⟩ = some (.int .i64 o.c) ∧ W.cell? ⟨w.heap.size, 4, none⟩ = some (.int .i64 o.i1) ∧ W.cell? ⟨w.heap.size, 5, none⟩ = some (.int .i64 o.i2) ∧ W.cell? ⟨w.heap.size, 7, none⟩ = some (.string o.key) ∧ W.cell? ⟨w.heap.size, 8, none⟩ = some (.int .i64 o.a) ∧ W.cell? ⟨w.heap.size, 9, none⟩ = some (.int .i64 o.b) ∧ W.cell? ⟨w.heap.size, 10, none⟩ = some (.bool o.yes)) (first | exact opS HG1.out HX1.out | exact opS HG2.out HX2.out)
    (first | (go_at_call 101; refine (HR1.out _ (Loc.of_below ((Below.refl _ w1).drew))).mono ?_; rintro e w2 ⟨rfl, ⟨F', FP', FR', P', hp2, hk2, hs2⟩, hnw⟩; have HG2 := hid hp2.blk; have HX2 := hid ((hnw w.heap.size (Nat.le_refl _) (.inl (by simp)) (blk_lt HX1.out)).trans HX1.out); have HP2 := hid hp2; have HK2 := hid hk2; clear hp2 hk2 hnw hs2))
  go_wp2
  go_ret
  exact ⟨rfl, F', ⟨x, r, vt, told, FP', FR', N, sp, P', by omega, HP2.out⟩, HK2.out⟩

set_option maxRecDepth 1000000 in
set_option maxHeartbeats 8000000 in
theorem writes_cutAt {w : World} {gp : Nat} {F : Nat → Prop} {nt : Nat} (h : isPair w gp F nt) (o : LOp) (hkd : o.kind = 8) :
    Calls Tryz.prog 68 #[.pointer (some ⟨gp, 0, none⟩), .agg #[.int .i64 o.kind, .int .i64 o.r, .int .i64 o.c, .int .i64 o.d, .int .i64 o.i1, .int .i64 o.i2, .int .i64 o.made, .string o.key, .int .i64 o.a, .int .i64 o.b, .bool o.yes]] w fun e w' => e = .returned (.bool true) ∧ Stepped w gp F (nt + 1) w' := by
  obtain ⟨x, r, vt, told, FP, FR, N, sp, P, htl, h⟩ := h
  rw [hkd]
  have HB := hid ((Below.refl w.heap.size w).alloc (Nat.le_refl _) (.cells #[.int .i64 8, .int .i64 o.r, .int .i64 o.c, .int .i64 o.d, .int .i64 o.i1, .int .i64 o.i2, .int .i64 o.made, .string o.key, .int .i64 o.a, .int .i64 o.b, .bool o.yes] 87))
  have HX0 := hid (blk_new w (.cells #[.int .i64 8, .int .i64 o.r, .int .i64 o.c, .int .i64 o.d, .int .i64 o.i1, .int .i64 o.i2, .int .i64 o.made, .string o.key, .int .i64 o.a, .int .i64 o.b, .bool o.yes] 87))
  have HG0 := hid (blk_keep h.blk HB.out)
  have HC := hid (fun W (hb : Below w.heap.size w W) => pair_cutAt h hb o.c o.i1 o.i2 o.a)
  have HF := hid h.lt
  have HFG := hid h.fg
  have HNF := hid (show ∀ k, w.heap.size ≤ k → ¬ F k from fun k hk hF => by have := h.lt k hF; omega)
  have hgl := h.lt _ h.fg
  have HGW := hid h.blk
  clear h
  go_enter Tryz.func68, Tryz.ntmps68
  go_wp2_with fail
  go_region_held3 (fun W => W.cell? ⟨gp, 0, none⟩ = some (.pointer (some ⟨x, 0, none⟩)) ∧ W.cell? ⟨gp, 1, none⟩ = some (.pointer (some ⟨r, 0, none⟩)) ∧ W.cell? ⟨w.heap.size, 0, none⟩ = some (.int .i64 8) ∧ W.cell? ⟨w.heap.size, 2, none⟩ = some (.int .i64 o.c) ∧ W.cell? ⟨w.heap.size, 4, none⟩ = some (.int .i64 o.i1) ∧ W.cell? ⟨w.heap.size, 5, none⟩ = some (.int .i64 o.i2) ∧ W.cell? ⟨w.heap.size, 7, none⟩ = some (.string o.key) ∧ W.cell? ⟨w.heap.size, 8, none⟩ = some (.int .i64 o.a) ∧ W.cell? ⟨w.heap.size, 9, none⟩ = some (.int .i64 o.b) ∧ W.cell? ⟨w.heap.size, 10, none⟩ = some (.bool o.yes)) (first | exact opS HG0.out HX0.out | exact opS HG1.out HX1.out)
    (first | (go_at_call 34; refine (HC.out _ HB.out.drew).mono ?_; rintro e w1 ⟨m, rfl, hg1, hk1, hs1, hr1⟩; have HG1 := hid (hg1.trans HGW.out); have HX1 := hid ((hk1 w.heap.size (blk_lt HX0.out) (HNF.out _ (Nat.le_refl _))).trans HX0.out); have HR1 := hid hr1; clear hg1 hk1 hr1))
  go_wp2_with fail
  go_region_held3 (fun W => W.cell? ⟨gp, 0, none⟩ = some (.pointer (some ⟨x, 0, none⟩)) ∧ W.cell? ⟨gp, 1, none⟩ = some (.pointer (some ⟨r, 0, none⟩)) ∧ W.cell? ⟨w.heap.size, 0, none⟩ = some (.int .i64 8) ∧ W.cell? ⟨w.heap.size, 2, none⟩ = some (.int .i64 o.c) ∧ W.cell? ⟨w.heap.size, 4, none⟩ = some (.int .i64 o.i1) ∧ W.cell? ⟨w.heap.size, 5, none⟩ = some (.int .i64 o.i2) ∧ W.cell? ⟨w.heap.size, 7, none⟩ = some (.string o.key) ∧ W.cell? ⟨w.heap.size, 8, none⟩ = some (.int .i64 o.a) ∧ W.cell? ⟨w.heap.size, 9, none⟩ = some (.int .i64 o.b) ∧ W.cell? ⟨w.heap.size, 10, none⟩ = some (.bool o.yes)) (first | exact opS HG1.out HX1.out | exact opS HG2.out HX2.out)
    (first | (go_at_call 102; refine (HR1.out _ (Loc.of_below ((Below.refl _ w1).drew))).mono ?_; rintro e w2 ⟨rfl, ⟨F', FP', FR', P', hp2, hk2, hs2⟩, hnw⟩; have HG2 := hid hp2.blk; have HX2 := hid ((hnw w.heap.size (Nat.le_refl _) (.inl (by simp)) (blk_lt HX1.out)).trans HX1.out); have HP2 := hid hp2; have HK2 := hid hk2; clear hp2 hk2 hnw hs2))
  go_wp2
  go_ret
  exact ⟨rfl, F', ⟨x, r, vt, told, FP', FR', N, sp, P', by omega, HP2.out⟩, HK2.out⟩
end

end Go.Proofs.YtnkpogjiiohapaaGreatDoor

/-! PShowA: The law: what is shown by both rooms. -/
namespace Go.Proofs.YtnkpogjiiohapaaGreatDoor
open Go.RowKit

/-- Both rooms are asked, and neither is written. -/
def Asked (w0 w : World) (gp : Nat) (F : Nat → Prop) (x r : Nat) (vt : Value) (told : List PId) (FP FR : Nat → Prop) (N sp : Nat) (P : Nat → List POp) (fR : Nat) (args : Array Value) (Q : Ending → World → World → Prop) (w1 : World) : Prop :=
  w1.heap[gp]? = w0.heap[gp]? ∧ (∀ k, k < w.heap.size → ¬ F k → w1.heap[k]? = w.heap[k]?) ∧ w.heap.size ≤ w1.heap.size ∧
    ∀ W1, Below w1.heap.size w1 W1 → Calls Tryz.prog fR args W1 fun e w2 => Q e W1 w2 ∧ (∃ F', PairAt w2 gp F' x r vt told FP FR N sp P ∧ Keeps F F' w0 w2 ∧ ∀ k, F' k → F k) ∧ ∀ k, w0.heap.size ≤ k → k < W1.heap.size → w2.heap[k]? = W1.heap[k]?

section
theorem asked_left {w0 w w1 : World} {gp : Nat} {F : Nat → Prop} {x r : Nat} {vt : Value} {told : List PId} {FP FR : Nat → Prop} {N sp : Nat} {P : Nat → List POp} (h : PairAt w0 gp F x r vt told FP FR N sp P) (hb0 : Below w0.heap.size w0 w) {fR : Nat} {args : Array Value} {Q : Ending → World → World → Prop} (hl : LeftPr FP N sp P x w w1)
    (hcall : ∀ W1, isRef W1 r FR N P (hasW P) → Calls Tryz.prog fR args W1 fun e w2 => Q e W1 w2 ∧ LeftRef FR N P (hasW P) r W1 w2) : Asked w0 w gp F x r vt told FP FR N sp P fR args Q w1 := by
  obtain ⟨hp, hk⟩ := hl
  obtain ⟨⟨h1, h2, h3⟩, h4⟩ := duo_mid h hb0 hp hk
  refine ⟨h1, h2, h3, fun W1 hb1 => ?_⟩
  obtain ⟨hK, hp1, hr1⟩ := h4 W1 (Loc.of_below hb1)
  refine (hcall W1 hr1).mono fun e w2 hh => ⟨hh.1, ?_, fun k hk1 hk2 => hh.2.2.other k hk2 fun hF => by have := h.rf.lt k hF; omega⟩
  obtain ⟨F', h4, h5, h6⟩ := h.both hK hp1 hh.2.2 hh.2.1
  refine ⟨F', h4, h5, fun k hk => ?_⟩
  rcases h6 k hk with h7 | h7 | h7
  · exact h7
  · exact h.fp k h7
  · exact h.fr k h7

theorem pair_show {w0 w : World} {gp : Nat} {F : Nat → Prop} {x r : Nat} {vt : Value} {told : List PId} {FP FR : Nat → Prop} {N sp : Nat} {P : Nat → List POp} (h : PairAt w0 gp F x r vt told FP FR N sp P) (hb0 : Below w0.heap.size w0 w) (hpow : Pow w) (C : Int) :
    Calls Tryz.prog 28 #[.pointer (some ⟨x, 0, none⟩), .int .i64 C] w fun e w1 => ∃ s m, e = .returned (.tuple #[.string s, .int .i64 m]) ∧ Asked w0 w gp F x r vt told FP FR N sp P 103 #[.pointer (some ⟨r, 0, none⟩), .int .i64 C] (fun e _ _ => e = .returned (.tuple #[.string s, .int .i64 m])) w1 := by
  by_cases hc : 0 ≤ C ∧ C < N
  · obtain ⟨c, rfl⟩ : ∃ c : Nat, C = c := ⟨C.toNat, by omega⟩
    have hcN : c < N := by omega
    refine (prog_show (h.keep hb0).pr hpow hcN).mono fun e w1 hh => ?_
    obtain ⟨rfl, hl⟩ := hh
    exact ⟨_, _, rfl, asked_left h hb0 hl fun W1 hr => (ref_show hr (h.pr.own hcN) (h.pr.textOk hcN)).mono fun e w2 hh => hh⟩
  · refine (prog_show_no (h.keep hb0).pr C hc).mono fun e w1 hh => ?_
    obtain ⟨rfl, hl⟩ := hh
    exact ⟨_, _, rfl, asked_left h hb0 hl fun W1 hr => (ref_show_no hr C hc).mono fun e w2 hh => hh⟩

theorem pair_elements {w0 w : World} {gp : Nat} {F : Nat → Prop} {x r : Nat} {vt : Value} {told : List PId} {FP FR : Nat → Prop} {N sp : Nat} {P : Nat → List POp} (h : PairAt w0 gp F x r vt told FP FR N sp P) (hb0 : Below w0.heap.size w0 w) (C x1 x2 : Int) :
    Calls Tryz.prog 29 #[.pointer (some ⟨x, 0, none⟩), .int .i64 C, .agg #[.int .i64 x1, .int .i64 x2]] w fun e w1 => ∃ v m, ∃ l : List PId, e = .returned (.tuple #[v, .int .i64 m]) ∧ ownIds w.heap.size w1 v l ∧ Asked w0 w gp F x r vt told FP FR N sp P 104 #[.pointer (some ⟨r, 0, none⟩), .int .i64 C, .agg #[.int .i64 x1, .int .i64 x2]] (fun e _ w2 => ∃ v', e = .returned (.tuple #[v', .int .i64 m]) ∧ isIds w2 v' l ∧ l.length ≤ 240) w1 := by
  by_cases hc : 0 ≤ C ∧ C < N
  · obtain ⟨c, rfl⟩ : ∃ c : Nat, C = c := ⟨C.toNat, by omega⟩
    have hcN : c < N := by omega
    refine (prog_elements (h.keep hb0).pr hcN x1 x2).mono fun e w1 hh => ?_
    obtain ⟨_, hl, ⟨m, hpl, rfl⟩ | ⟨v, l, hpl, rfl, ho⟩⟩ := hh
    · refine ⟨_, _, [], rfl, World.ownsRow_nil _ _ _ _, asked_left h hb0 hl fun W1 hr => ?_⟩
      refine (ref_elements hr (h.pr.own hcN) x1 x2).mono fun e w2 hh => ?_
      obtain ⟨_, hl2, ⟨m2, hpl2, rfl⟩ | ⟨v2, l2, hpl2, hle, rfl, ho2⟩⟩ := hh
      · rw [hpl] at hpl2; cases hpl2
        exact ⟨⟨_, rfl, World.ownsRow_nil _ _ _ _, by simp⟩, hl2⟩
      · rw [hpl] at hpl2; cases hpl2
    · refine ⟨_, _, l, rfl, ho, asked_left h hb0 hl fun W1 hr => ?_⟩
      refine (ref_elements hr (h.pr.own hcN) x1 x2).mono fun e w2 hh => ?_
      obtain ⟨_, hl2, ⟨m2, hpl2, rfl⟩ | ⟨v2, l2, hpl2, hle, rfl, ho2⟩⟩ := hh
      · rw [hpl] at hpl2; cases hpl2
      · rw [hpl] at hpl2; cases hpl2
        exact ⟨⟨_, rfl, owns_mono ho2 (Nat.zero_le _), hle⟩, hl2⟩
  · refine (prog_elements_no (h.keep hb0).pr C hc x1 x2).mono fun e w1 hh => ?_
    obtain ⟨rfl, hl⟩ := hh
    exact ⟨_, _, [], rfl, World.ownsRow_nil _ _ _ _, asked_left h hb0 hl fun W1 hr => (ref_elements_no hr C x1 x2 hc).mono fun e w2 hh => ⟨⟨_, hh.1, World.ownsRow_nil _ _ _ _, by simp⟩, hh.2⟩⟩

theorem pair_values {w0 w : World} {gp : Nat} {F : Nat → Prop} {x r : Nat} {vt : Value} {told : List PId} {FP FR : Nat → Prop} {N sp : Nat} {P : Nat → List POp} (h : PairAt w0 gp F x r vt told FP FR N sp P) (hb0 : Below w0.heap.size w0 w) (C x1 x2 : Int) (key : ByteArray) (hks : key.size ≤ maxLen) :
    Calls Tryz.prog 24 #[.pointer (some ⟨x, 0, none⟩), .int .i64 C, .agg #[.int .i64 x1, .int .i64 x2], .string key] w fun e w1 => ∃ v m, ∃ l : List PVal, e = .returned (.tuple #[v, .int .i64 m]) ∧ ownVals w.heap.size w1 v l ∧ Asked w0 w gp F x r vt told FP FR N sp P 107 #[.pointer (some ⟨r, 0, none⟩), .int .i64 C, .agg #[.int .i64 x1, .int .i64 x2], .string key] (fun e _ w2 => ∃ v', e = .returned (.tuple #[v', .int .i64 m]) ∧ isVals3 w2 v' l ∧ l.length ≤ 240) w1 := by
  by_cases hc : 0 ≤ C ∧ C < N
  · obtain ⟨c, rfl⟩ : ∃ c : Nat, C = c := ⟨C.toNat, by omega⟩
    have hcN : c < N := by omega
    refine (prog_values (h.keep hb0).pr hcN x1 x2 key hks).mono fun e w1 hh => ?_
    obtain ⟨_, hl, ⟨m, hpl, rfl⟩ | ⟨v, l, hpl, rfl, ho⟩⟩ := hh
    · refine ⟨_, _, [], rfl, World.ownsRow_nil _ _ _ _, asked_left h hb0 hl fun W1 hr => ?_⟩
      refine (ref_values hr (h.pr.own hcN) x1 x2 key hks).mono fun e w2 hh => ?_
      obtain ⟨_, hl2, ⟨m2, hpl2, rfl⟩ | ⟨v2, l2, hpl2, hle, rfl, ho2⟩⟩ := hh
      · rw [hpl] at hpl2; cases hpl2
        exact ⟨⟨_, rfl, World.ownsRow_nil _ _ _ _, by simp⟩, hl2⟩
      · rw [hpl] at hpl2; cases hpl2
    · refine ⟨_, _, l, rfl, ho, asked_left h hb0 hl fun W1 hr => ?_⟩
      refine (ref_values hr (h.pr.own hcN) x1 x2 key hks).mono fun e w2 hh => ?_
      obtain ⟨_, hl2, ⟨m2, hpl2, rfl⟩ | ⟨v2, l2, hpl2, hle, rfl, ho2⟩⟩ := hh
      · rw [hpl] at hpl2; cases hpl2
      · rw [hpl] at hpl2; cases hpl2
        exact ⟨⟨_, rfl, owns_mono ho2 (Nat.zero_le _), hle⟩, hl2⟩
  · refine (prog_values_no (h.keep hb0).pr C hc x1 x2 key).mono fun e w1 hh => ?_
    obtain ⟨rfl, hl⟩ := hh
    exact ⟨_, _, [], rfl, World.ownsRow_nil _ _ _ _, asked_left h hb0 hl fun W1 hr => (ref_values_no hr C x1 x2 key hc).mono fun e w2 hh => ⟨⟨_, hh.1, World.ownsRow_nil _ _ _ _, by simp⟩, hh.2⟩⟩
end

end Go.Proofs.YtnkpogjiiohapaaGreatDoor
