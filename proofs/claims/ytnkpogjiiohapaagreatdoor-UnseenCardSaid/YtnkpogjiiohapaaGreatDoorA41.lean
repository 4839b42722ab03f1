/- Our own text (QLawM, GTrimA). -/
import Derived.Test.YtnkpogjiiohapaaGreatDoorA40
import Derived.Test.YtnkpogjiiohapaaGreatDoorA22
set_option linter.unusedSimpArgs false
set_option linter.unusedVariables false

/-! QLawM: quirekeep: laid. -/
namespace Go.Proofs.YtnkpogjiiohapaaGreatDoor
open Go.RowKit
attribute [local go_sem ↓] Go.wp_at_zero Go.wp_at_succ

def kL : ByteArray := ⟨#[108]⟩
def txtL : ByteArray := ⟨#[123, 108, 58, 91, 93, 125]⟩
def chgL (ss : List PId) : QChg := .inr (.inr (.inl ((0, 0), kL, (0, 0), (0, (s0.gt 0 + 1, ((0 : Nat) : Int))), ss)))
def sL1 (t : TypeId) (v : Value) : RoomS := wroteS s0 0 (.inl true) t v
def sL2 (t : TypeId) (v : Value) (ss : List PId) (t' : TypeId) (v' : Value) : RoomS := wroteS (sL1 t v) 0 (chgL ss) t' v'
def mL1 (t : TypeId) (v : Value) : Nat → List MOp := doneM (fun _ => []) s0 0 (.inl true) t v
def mL2 (t : TypeId) (v : Value) (ss : List PId) (t' : TypeId) (v' : Value) : Nat → List MOp := doneM (mL1 t v) (sL1 t v) 0 (chgL ss) t' v'

theorem laid_first {N : Nat} (t : TypeId) (v : Value) (ss : List PId) (t' : TypeId) (v' : Value) : LaidS N (mL2 t v ss t' v') (sL2 t v ss t' v') 1 := by
  refine ⟨fun a b => rfl, fun e => rfl, rfl, rfl, fun e he h0 => ?_, fun e h1 he i hi => ?_, fun e h1 he => ?_⟩
  · unfold mL2 mL1 doneM
    rw [addM_ne _ _ h0, addM_ne _ _ h0]
  · unfold sL2 sL1 wroteS copyS
    simp only
    rw [upd_ne _ _ (show e ≠ 0 by omega), upd_ne _ _ (show e ≠ 0 by omega)]
    rfl
  · obtain rfl : e = 0 := by omega
    rfl
theorem laid_has {N : Nat} {t : TypeId} {v : Value} {ss : List PId} {t' : TypeId} {v' : Value} {s : RoomS} (h : LaidS N (mL2 t v ss t' v') s N) : HasL N (1, 0) s := fun c hc => by
  rw [h.done c hc hc]
  exact ⟨_, List.mem_cons_self, rfl, rfl⟩
theorem kL_key : kL.toList.isEmpty = false := by
  cases h : kL.toList.isEmpty
  · rfl
  · rw [isEmpty_size] at h
    cases h
theorem laid_R (t : TypeId) (v : Value) (ss : List PId) (t' : TypeId) (v' : Value) : ROf (mL2 t v ss t' v' 0) = [⟨(0, 0), false, [⟨kL, (0, 0), [⟨(2, 0), 0, (1, 0)⟩]⟩]⟩, ⟨(1, 0), true, []⟩] := by
  have e : ROf (mL2 t v ss t' v' 0) = [doesAt ⟨(2, 0), 3, false, (0, 0), kL, (0, 0), (0, 0), 0, (1, 0), ss⟩ ⟨(0, 0), false, []⟩, ⟨(1, 0), true, []⟩] := rfl
  rw [e]
  unfold doesAt
  rw [if_neg (show ¬ (3 : Int) = 2 by decide), if_pos (by rw [kL_key])]
  rfl
theorem laid_sub (R : List PObj) (h : objOf R (1, 0) = some ⟨(1, 0), true, []⟩) (r : Nat) : textG R (r + 1) (1, 0) = ⟨#[91, 93]⟩ := by
  rw [textG_some h]
  rfl
theorem laid_text (t : TypeId) (v : Value) (ss : List PId) (t' : TypeId) (v' : Value) : textG (ROf (mL2 t v ss t' v' 0)) 4 (0, 0) = txtL := by
  rw [laid_R, textG_some (o := ⟨(0, 0), false, [⟨kL, (0, 0), [⟨(2, 0), 0, (1, 0)⟩]⟩]⟩) rfl]
  have h1 := laid_sub [⟨(0, 0), false, [⟨kL, (0, 0), [⟨(2, 0), 0, (1, 0)⟩]⟩]⟩, ⟨(1, 0), true, []⟩] rfl 2
  simp only [objG, bodyG, ordP, sortP, List.mergeSort_singleton, Bool.false_eq_true, if_false, slotG, valsG, hsG, itemText]
  simp [seenS, joinB, idEq, h1, txtL, slotG, valsG, hsG, itemText]
  rfl
theorem laid_nice {N : Nat} (t : TypeId) (v : Value) (ss : List PId) (t' : TypeId) (v' : Value) : NiceQ N (mL2 t v ss t' v') := by
  have h0 : intOk 0 := by unfold intOk; omega
  unfold mL2 mL1 doneM
  refine NiceQ.add (NiceQ.add ⟨fun c _ o ho => (by cases ho), fun c _ o ho => (by cases ho)⟩ ?_ ?_) ?_ ?_
  · exact h0
  · show (0 : Nat) ≤ 1; decide
  · exact h0
  · show (1 : Nat) ≤ 1; decide

/-- The steps, as they lie. -/
def isSteps (w : World) (a : Option Addr) (n : Nat) : Prop := ∀ i, i < n → ∃ g o, ∃ p : Stp, a = some ⟨g, o, none⟩ ∧ p.ok ∧ w.cell? ⟨g, o + i * 5, none⟩ = some (.int .i64 p.k) ∧ w.cell? ⟨g, o + i * 5 + 1, none⟩ = some (.int .i64 p.c) ∧ w.cell? ⟨g, o + i * 5 + 2, none⟩ = some (.int .i64 p.d) ∧ w.cell? ⟨g, o + i * 5 + 3, none⟩ = some (.int .i64 p.a) ∧ w.cell? ⟨g, o + i * 5 + 4, none⟩ = some (.int .i64 p.n)
/-- What laid answers. -/
def LaidD (w : World) (e : Ending) (w' : World) : Prop := Below w.heap.size w w' ∧ ∃ tb r N sp ls, e = .returned (.tuple #[.pointer (some ⟨tb, 0, none⟩), .bool true]) ∧ 2 ≤ N ∧ hasInv (fun k => k < w.heap.size ∨ k = tb) tb w' r N sp ls
/-- The loop of laid: the copies ahead of k have heard. -/
def laidTo (Z : Nat → Prop) (tb : Nat) (w : World) (r N sp : Nat) (ls : PId) (M : Nat → List MOp) (k : Nat) : Prop := ∃ s, invS Z tb w r N sp ls M s ∧ LaidS N M s k

/-- What Nest leaves when a room is laid. -/
theorem nest_laid {w : World} {r N sp : Nat} {x : RoomX} {F : Nat → Prop} {e : Ending} {w' : World} (hn : NestD r N sp F (fun _ => False) (fun _ => []) s0 x 0 0 0 kL true w e w') : e = .returned (.tuple #[.agg #[.int .i64 1, .int .i64 0], .int .i64 0]) ∧ ∃ t v ss t' v', RoomDTo r N sp F (fun _ => False) w w' x.rbs (mL2 t v ss t' v') (sL2 t v ss t' v') := by
  rcases hn with ⟨m, hm, _⟩ | ⟨o, ho, _, _, rfl, _, t, v, D1, ss, t', v', _, _, _, _, hto⟩
  · rcases hm with hm | ⟨_, hm⟩
    · exact absurd hm (by
        have : keyedP (ROf (s0.ops 0)) (0, 0) kL = .ok [] := by rfl
        rw [this]
        simp)
    · exact absurd (show s0.has 0 0 + 2 ≤ 60 by decide) hm
  · exact ⟨rfl, t, v, ss, t', v', hto⟩

theorem invS.show {Z : Nat → Prop} {tb : Nat} {w : World} {r N sp : Nat} {ls : PId} {t : TypeId} {v : Value} {ss : List PId} {t' : TypeId} {v' : Value} {s : RoomS} (h : invS Z tb w r N sp ls (mL2 t v ss t' v') s) (hp : Pow w) {c : Nat} (hc : c < N) (ho : s.ops c = mL2 t v ss t' v' 0) : Calls Tryz.prog 28 #[.pointer (some ⟨r, 0, none⟩), .int .i64 c] w fun e w' => e = .returned (.tuple #[.string ⟨#[123, 108, 58, 91, 93, 125]⟩, .int .i64 0]) ∧ invS Z tb w' r N sp ls (mL2 t v ss t' v') s ∧ Zept Z w w' := by
  obtain ⟨F, I, x, h⟩ := h
  refine (gShows h.d hp h.nice.n hc).mono ?_
  rintro e w' ⟨rfl, hb⟩
  rw [ho, laid_text]
  exact ⟨rfl, ⟨F, I, x, h.keep hb⟩, Zept.of hb h.zlt⟩
/-- The table, laid behind its room. -/
theorem table_inv {w0 w3 w4 : World} {r N sp : Nat} {F : Nat → Prop} {rbs : Nat → Nat} {t : TypeId} {v : Value} {ss : List PId} {t' : TypeId} {v' : Value} (hF : ∀ k, F k → w0.heap.size ≤ k) (hl : w0.heap.size ≤ w3.heap.size) (hto : RoomDTo r N sp F (fun _ => False) w3 w4 rbs (mL2 t v ss t' v') (sL2 t v ss t' v')) {w5 : World} (h45 : Below w4.heap.size w4 w5) : laidTo (fun k => k < w0.heap.size ∨ k = w5.heap.size) w5.heap.size (w5.alloc (.cells #[.int .i64 N, .pointer (some ⟨r, 0, none⟩), .int .i64 1, .int .i64 0] 38)) r N sp (1, 0) (mL2 t v ss t' v') 1 := by
  obtain ⟨F', I', x', hd, _, hk, hi⟩ := hto
  have hb : Below w4.heap.size w4 (w5.alloc (.cells #[.int .i64 N, .pointer (some ⟨r, 0, none⟩), .int .i64 1, .int .i64 0] 38)) := h45.alloc h45.size _
  have h45s := h45.size
  have hsz := hk.size
  refine ⟨_, ⟨F', I', x', hd.keep hb, laid_nice t v ss t' v', fun k hF' hz => ?_, fun k hI' hz => ?_, blk_new w5 _, .inr rfl, fun k hz => ?_⟩, laid_first t v ss t' v'⟩
  · have hlt := hd.m.lt k hF'
    rcases hz with hz | hz
    · rcases hk.sub k hF' with h1 | h1
      · have := hF k h1
        omega
      · omega
    · omega
  · have hlt := hd.m.iI k hI'
    rcases hz with hz | hz
    · rcases hi.2 k hI' with h1 | h1
      · exact h1
      · omega
    · omega
  · rcases hz with hz | hz
    · have := hb.size
      omega
    · rw [hz]
      simp

set_option maxRecDepth 1000000 in
set_option maxHeartbeats 4000000 in
/-- LAID: there is a room, and all its copies have the list. -/
theorem laid_g {w : World} (hp : Pow w) {raw spc : Int} (hr : intOk raw) (hs : intOk spc) : Calls Tryz.prog 14 #[.int .i64 raw, .int .i64 spc] w fun e w' => LaidD w e w' := by
  have HP1 := hid (fun W => pick_g raw hr 3 (by omega) (by omega) W)
  have HP2 := hid (fun W => pick_g spc hs 50 (by omega) (by omega) W)
  have l1 := pickN_lt raw (show 0 < 3 by omega)
  have l2 := pickN_lt spc (show 0 < 50 by omega)
  obtain ⟨N, hN⟩ : ∃ N : Nat, N = 2 + pickN raw 3 := ⟨_, rfl⟩
  obtain ⟨sp, hsp⟩ : ∃ sp : Nat, sp = 1 + pickN spc 50 := ⟨_, rfl⟩
  have eN : (2 : Int) + (pickN raw 3 : Int) = (N : Int) := by omega
  have eS : (1 : Int) + (pickN spc 50 : Int) = (sp : Int) := by omega
  have hw1 : IntKind.i64.wrap (2 + (pickN raw 3 : Int)) = (N : Int) := by rw [Go.IntWalk.i64_in _ (by omega)]; exact eN
  have hw2 : IntKind.i64.wrap (1 + (pickN spc 50 : Int)) = (sp : Int) := by rw [Go.IntWalk.i64_in _ (by omega)]; exact eS
  have HN := hid (fun W => gNew N sp (by omega) (by omega) (by omega) (by omega) W)
  have hN2 : 2 ≤ N := by omega
  have hN4 : N ≤ 4 := by omega
  have HPW := hid hp
  clear hp hr hs eN eS hN hsp
  go_enter Tryz.func14, Tryz.ntmps14
  go_wp2_with fail
  refine (HP1.out _).mono ?_
  rintro e v1 ⟨rfl, hb1⟩
  have HB1 := hid hb1; clear hb1
  go_wp2_with fail
  refine (HP2.out _).mono ?_
  rintro e v2 ⟨rfl, hb2⟩
  have HB2 := hid (HB1.out.trans (hb2.mono HB1.out.size)); clear hb2
  go_wp2_with fail
  refine (HN.out _).mono ?_
  rintro e w3 ⟨hb3, r, x, rfl, hd⟩
  have HB3 := hid (HB2.out.trans (hb3.mono HB2.out.size)); clear hb3
  have HD := hid hd; clear hd
  have HNS := hid (gNest HD.out (c := 0) (by omega) 0 0 kL (by decide) true)
  go_wp2_with fail
  refine HNS.out.mono ?_
  rintro e w4 hn
  obtain ⟨rfl, t, v, ss, t', v', hto⟩ := nest_laid hn
  clear hn
  have HB4 := hid (show Below w.heap.size w w4 by
    obtain ⟨F', I', x', _, _, hk, _⟩ := hto
    have h3 := HB3.out
    have h2 := HB2.out.size
    refine ⟨hk.os.trans h3.os, hk.tape.trans h3.tape, hk.output.trans h3.output, Nat.le_trans h3.size hk.size, fun k hk' => ?_⟩
    rw [hk.other k (Nat.lt_of_lt_of_le hk' h3.size) (fun hF => by have := hF.1; omega)]
    exact h3.block k hk')
  have HB45 := hid (show Below w4.heap.size w4 (w4.alloc (.cells #[.int .i64 1, .int .i64 0] 36)) from (Below.refl _ w4).alloc (Nat.le_refl _) _)
  have HT := hid (table_inv (w0 := w) (fun k hk => Nat.le_trans HB2.out.size hk.1) HB3.out.size hto HB45.out)
  rw [show (w4.alloc (.cells #[.int .i64 1, .int .i64 0] 36)).heap.size = w4.heap.size + 1 by simp] at HT
  have HB5 := hid ((HB4.out.trans (HB45.out.mono HB4.out.size)).alloc (Nat.le_trans HB4.out.size HB45.out.size) (.cells #[.int .i64 N, .pointer (some ⟨r, 0, none⟩), .int .i64 1, .int .i64 0] 38))
  clear hto
  go_wp2_with fail
  go_loopw [12] (fun d wr => ∃ k : Nat, 1 ≤ k ∧ k ≤ N ∧ d = .int .i64 k ∧ laidTo (fun k => k < w.heap.size ∨ k = w4.heap.size + 1) (w4.heap.size + 1) wr r N sp (1, 0) (mL2 t v ss t' v') k ∧ Below w.heap.size w wr) (fun d _ => N - (intOf d).toNat)
  case atStart => exact ⟨1, Nat.le_refl _, by omega, rfl, HT.out, HB5.out⟩
  case round =>
    obtain ⟨k, hk1, hkN, rfl, hlt, hbw⟩ := hrel
    have HB := hid hbw; clear hbw
    obtain ⟨s, hi, hS⟩ := hlt
    have HI := hid hi; have HS := hid hS; clear hi hS
    by_cases hl : k < N
    · have hl' : (k : Int) < (N : Int) := by omega
      have HA := hid (invS.ask hl (show 0 < N by omega) (show k ≠ 0 by omega) HI.out)
      go_wp2_with fail
      refine HA.out.mono ?_
      rintro e w6 ⟨⟨v6, rfl⟩, hi6, hb6⟩
      have HB6 := hid (HB.out.trans (hb6.below fun k hk => .inl hk)); clear hb6
      have HI6 := hid hi6; clear hi6
      have HD6 := hid (invS.deliver hl (show 0 < N by omega) (show k ≠ 0 by omega) HI6.out)
      go_wp2_with fail
      refine HD6.out.mono ?_
      rintro e w7 ⟨⟨v7, rfl⟩, ⟨s2, hd2, hi7⟩, hb7⟩
      have HB7 := hid (HB6.out.trans (hb7.below fun k hk => .inl hk)); clear hb7
      have HI7 := hid hi7; clear hi7
      have HD7 := hid (invS.deliver (show 0 < N by omega) hl (show 0 ≠ k by omega) HI7.out)
      have HX2 := hid hd2; clear hd2
      go_wp2_with fail
      refine HD7.out.mono ?_
      rintro e w8 ⟨⟨v8, rfl⟩, ⟨s3, hd3, hi8⟩, hb8⟩
      have HB8 := hid (HB7.out.trans (hb8.below fun k hk => .inl hk)); clear hb8
      have HI8 := hid hi8; clear hi8
      have HL := hid (show LaidS N (mL2 t v ss t' v') s3 (k + 1) ∧ s3.ops k = mL2 t v ss t' v' 0 from by
        obtain ⟨F, I, x, hR⟩ := HI.out
        exact HS.out.step hR.d.ok hk1 hl HX2.out hd3)
      clear hd3
      have HW := hid (HI8.out.show (HPW.out.keep HB8.out) hl HL.out.2)
      go_wp2_with fail
      refine HW.out.mono ?_
      rintro e w9 ⟨rfl, hi9, hb9⟩
      have HB9 := hid (HB8.out.trans (hb9.below fun k hk => .inl hk)); clear hb9
      have HI9 := hid hi9; clear hi9
      go_wp2
      go_roundw
      case rel => exact ⟨k + 1, by omega, by omega, by go_num, ⟨s3, HI9.out, HL.out.1⟩, HB9.out⟩
      case measure => simp [intOf]; omega
    · have hl' : ¬ (k : Int) < (N : Int) := by omega
      go_wp2
      go_ret2
      refine ⟨HB.out, w4.heap.size + 1, r, N, sp, (1, 0), rfl, hN2, ?_⟩
      obtain rfl : k = N := by omega
      exact ⟨_, s, HI.out, laid_has HS.out⟩

end Go.Proofs.YtnkpogjiiohapaaGreatDoor

/-! GTrimA: A copy's history in general: how many operations lead. -/
namespace Go.Proofs.YtnkpogjiiohapaaGreatDoor
open Go.RowKit
attribute [local go_sem ↓] Go.wp_at_zero Go.wp_at_succ

/-- Is an operation settled? -/
def isSet (st : Nat → Int) (o : MOp) : Bool := decide (o.op.nth ≤ st o.op.id.2.toNat)
/-- How many lead: all settled, up to the first that is not. -/
def leadN (st : Nat → Int) (ops : List MOp) : Nat := (ops.takeWhile (isSet st)).length
theorem lead_le (st : Nat → Int) (ops : List MOp) : leadN st ops ≤ ops.length := (List.takeWhile_prefix _).length_le
theorem lead_hit {st : Nat → Int} : ∀ {ops : List MOp} {k : Nat} (hk : k < ops.length), (∀ j (hj : j < ops.length), j < k → isSet st ops[j] = true) → isSet st ops[k] = false → leadN st ops = k
  | o :: ops, 0, _, _, h => by
    unfold leadN
    rw [List.takeWhile_cons_of_neg (by simpa using h)]
    rfl
  | o :: ops, k + 1, hk, h1, h2 => by
    have h0 : isSet st o = true := h1 0 (by simp) (by omega)
    unfold leadN
    rw [List.takeWhile_cons_of_pos h0, List.length_cons]
    have := lead_hit (st := st) (ops := ops) (k := k) (by simpa using hk) (fun j hj hjk => h1 (j + 1) (by simpa using hj) (by omega)) (by simpa using h2)
    unfold leadN at this
    rw [this]
theorem lead_all {st : Nat → Int} : ∀ {ops : List MOp}, (∀ j (hj : j < ops.length), isSet st ops[j] = true) → leadN st ops = ops.length
  | [], _ => rfl
  | o :: ops, h => by
    have h0 : isSet st o = true := h 0 (by simp)
    unfold leadN
    rw [List.takeWhile_cons_of_pos h0, List.length_cons, List.length_cons]
    have := lead_all (st := st) (ops := ops) (fun j hj => h (j + 1) (by simpa using hj))
    unfold leadN at this
    rw [this]
theorem tw_mem {p : MOp → Bool} {o : MOp} : ∀ {l : List MOp}, o ∈ l.takeWhile p → p o = true
  | [], h => by cases h
  | x :: l, h => by
    cases hx : p x with
    | false => rw [List.takeWhile_cons_of_neg (by simp [hx])] at h; cases h
    | true =>
      rw [List.takeWhile_cons_of_pos hx] at h
      rcases List.mem_cons.1 h with rfl | h
      · exact hx
      · exact tw_mem h
theorem lead_mem {st : Nat → Int} {ops : List MOp} {o : MOp} (h : o ∈ ops.take (leadN st ops)) : isSet st o = true := by
  have e : ops.take (leadN st ops) = ops.takeWhile (isSet st) := (List.prefix_iff_eq_take.1 (List.takeWhile_prefix _)).symm
  rw [e] at h
  exact tw_mem h

set_option maxRecDepth 1000000 in
set_option maxHeartbeats 4000000 in
theorem leading_g {w : World} {hb sp su : Nat} {vo vr : Value} {ops : List MOp} {n : Nat} {rs : List RDoc} {d bo be : Nat} {F I : Nat → Prop} {D0 : BDoc} {D : QDoc} (h : HistG w hb sp su vo vr ops n rs d bo be F I D0 D) {gk ck N : Nat} {st : Nat → Int} (hk : isKn w gk ck N st) (hcp : ∀ x ∈ ops, 0 ≤ x.op.id.2 ∧ x.op.id.2 < N) :
    Calls Tryz.prog 130 #[.pointer (some ⟨hb, 0, none⟩), .slice (some ⟨gk, 0, none⟩) N ck] w fun e w' => e = .returned (.int .i64 (leadN st ops)) ∧ Below w.heap.size w w' := by
  have hx := h.blk
  unfold isHs at hx
  obtain ⟨c0, c1, c2, c3, c4⟩ := blk5 hx
  clear c0 c1 c3 c4
  have hlen := h.len
  obtain ⟨a, c, rfl, hlc, hcm, hf⟩ := owns_form h.row
  unfold maxLen at hcm
  have HF := hid hf
  have HX0 := hid hx
  have HH := hid (And.intro h (And.intro hk hcp)); clear h hk hcp hx hf
  have hck := HH.out.2.1.capL
  have hck2 := HH.out.2.1.capM
  go_enter Tryz.func130, Tryz.ntmps130
  go_wp2_with fail
  go_loopw [12] (fun i wr => ∃ k, k ≤ ops.length ∧ i = .int .i64 (k : Nat) ∧ Hid (∀ j (hj : j < ops.length), j < k → isSet st ops[j] = true) ∧ Below w.heap.size w wr) (fun i _ => ops.length - (intOf i).toNat)
  case atStart => exact ⟨0, Nat.zero_le _, rfl, fun _ _ h => absurd h (Nat.not_lt_zero _), Below.refl _ _⟩
  case round =>
    obtain ⟨k, hkl, rfl, hall, hbel⟩ := hrel
    by_cases hlt : k < ops.length
    · obtain ⟨g, rfl⟩ := HF.out k hlt
      obtain ⟨e0, e1, e2, e3⟩ := ownMOps.cells (owns_keep HH.out.1.row hbel) k hlt
      obtain ⟨hp0, hp1⟩ := HH.out.2.2 ops[k] (List.getElem_mem hlt)
      obtain ⟨x, hxe⟩ : ∃ x, x = ops[k] := ⟨_, rfl⟩
      rw [← hxe] at e0 e1 e2 e3 hp0 hp1
      obtain ⟨cp, hcp⟩ : ∃ cp : Nat, x.op.id.2 = (cp : Int) := ⟨x.op.id.2.toNat, by omega⟩
      have hcpN : cp < N := by omega
      have hcp0 : (0 : Int) ≤ (cp : Int) := Int.natCast_nonneg _
      have hcp1 : (cp : Int) < (N : Int) := by omega
      have kc := (HH.out.2.1.keep hbel).cells cp hcpN
      have hkl2 := (HH.out.2.1.keep hbel).lt
      have hgl : g < wr.heap.size := World.block_lt_of_cell? wr _ e0
      have hk0 : (0 : Int) ≤ (k : Int) := Int.natCast_nonneg _
      have hk1 : (k : Int) < (ops.length : Int) := by omega
      have HX := hid hxe; clear hxe
      rw [hcp] at e1
      have HBEL := hid hbel; clear hbel
      have hnk := World.new_ne wr ⟨gk, cp, none⟩ kc
      have HBD := hid (show isSet st x = decide (x.op.nth ≤ st cp) by unfold isSet; rw [hcp]; rfl)
      by_cases hq : st cp < x.op.nth
      · have HQ := hid (show isSet st ops[k] = false by rw [← HX.out, HBD.out]; exact decide_eq_false (by omega))
        go_wp2_with fail
        go_region
        all_goals go_wp2
        all_goals go_ret
        all_goals exact ⟨by rw [lead_hit hlt hall.out HQ.out]; rfl, below_drewN (HBEL.out.alloc HBEL.out.size _) _⟩
      · have HQ := hid (show isSet st ops[k] = true by rw [← HX.out, HBD.out]; exact decide_eq_true (by omega))
        have HAL := hid (show ∀ j (hj : j < ops.length), j < k + 1 → isSet st ops[j] = true from fun j hj hjk => (by
          by_cases e : j = k
          · subst e; exact HQ.out
          · exact hall.out j hj (by omega)))
        go_wp2_with fail
        go_region
        all_goals go_wp2
        all_goals go_roundw
        all_goals first
          | exact ⟨k + 1, by omega, by go_num, HAL.out, below_drewN (HBEL.out.alloc HBEL.out.size _) _⟩
          | (simp [intOf]; omega)
    · have hke : ¬ (k : Int) < (ops.length : Int) := by omega
      have HBEL := hid hbel
      have c2' := ((blk5 (blk_keep HX0.out hbel)).2.2.1)
      have hbl' := blk_lt (blk_keep HX0.out hbel)
      have HAL := hid (lead_all (st := st) (ops := ops) fun j hj => hall.out j hj (by omega))
      clear hbel
      go_wp2
      go_ret
      exact ⟨by rw [HAL.out]; rfl, HBEL.out⟩

end Go.Proofs.YtnkpogjiiohapaaGreatDoor
