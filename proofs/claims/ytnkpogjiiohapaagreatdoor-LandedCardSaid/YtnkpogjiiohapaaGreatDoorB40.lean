/- Our own text (QLawM, OLawA). -/
import Derived.Test.YtnkpogjiiohapaaGreatDoorA39
set_option linter.unusedSimpArgs false
set_option linter.unusedVariables false

/-! QLawM: quirekeep: laid. -/
namespace Go.Proofs.YtnkpogjiiohapaaGreatDoor
open Go.RowKit
attribute [local go_sem ↓] Go.wp_at_zero Go.wp_at_succ

def kL : ByteArray := ⟨#[108]⟩
def txtL : ByteArray := ⟨#[123, 108, 58, 91, 93, 125]⟩
def chgL (ss : List PId) : QChg := .inr (.inr (.inl ((0, 0), kL, (0, 0), (0, (s0.gt 0 + 1, ((0 : Nat) : Int))), ss)))
def sL1 (t : TypeId) (v : Value) : RoomS := wroteS s0 0 (.inl true) t v
def sL2 (t : TypeId) (v : Value) (ss : List PId) (t' : TypeId) (v' : Value) : RoomS := wroteS (sL1 t v) 0 (chgL ss) t' v'
def mL1 (t : TypeId) (v : Value) : Nat → List MOp := doneM (fun _ => []) s0 0 (.inl true) t v
def mL2 (t : TypeId) (v : Value) (ss : List PId) (t' : TypeId) (v' : Value) : Nat → List MOp := doneM (mL1 t v) (sL1 t v) 0 (chgL ss) t' v'

theorem laid_first {N : Nat} (t : TypeId) (v : Value) (ss : List PId) (t' : TypeId) (v' : Value) : LaidS N (mL2 t v ss t' v') (sL2 t v ss t' v') 1 := by
  refine ⟨fun a b => rfl, rfl, rfl, fun e he h0 => ?_, fun e h1 he i hi => ?_, fun e h1 he => ?_⟩
  · unfold mL2 mL1 doneM
    rw [addM_ne _ _ h0, addM_ne _ _ h0]
  · unfold sL2 sL1 wroteS copyS
    simp only
    rw [upd_ne _ _ (show e ≠ 0 by omega), upd_ne _ _ (show e ≠ 0 by omega)]
    rfl
  · obtain rfl : e = 0 := by omega
    rfl
theorem laid_has {N : Nat} {t : TypeId} {v : Value} {ss : List PId} {t' : TypeId} {v' : Value} {s : RoomS} (h : LaidS N (mL2 t v ss t' v') s N) : HasL N (1, 0) s := fun c hc => by
  rw [h.done c hc hc]
  exact ⟨_, List.mem_cons_self, rfl, rfl⟩
theorem kL_key : kL.toList.isEmpty = false := by
  cases h : kL.toList.isEmpty
  · rfl
  · rw [isEmpty_size] at h
    cases h
theorem laid_R (t : TypeId) (v : Value) (ss : List PId) (t' : TypeId) (v' : Value) : ROf (mL2 t v ss t' v' 0) = [⟨(0, 0), false, [⟨kL, (0, 0), [⟨(2, 0), 0, (1, 0)⟩]⟩]⟩, ⟨(1, 0), true, []⟩] := by
  have e : ROf (mL2 t v ss t' v' 0) = [doesAt ⟨(2, 0), 3, false, (0, 0), kL, (0, 0), (0, 0), 0, (1, 0), ss⟩ ⟨(0, 0), false, []⟩, ⟨(1, 0), true, []⟩] := rfl
  rw [e]
  unfold doesAt
  rw [if_neg (show ¬ (3 : Int) = 2 by decide), if_pos (by rw [kL_key])]
  rfl
theorem laid_sub (R : List PObj) (h : objOf R (1, 0) = some ⟨(1, 0), true, []⟩) (r : Nat) : textG R (r + 1) (1, 0) = ⟨#[91, 93]⟩ := by
  rw [textG_some h]
  rfl
theorem laid_text (t : TypeId) (v : Value) (ss : List PId) (t' : TypeId) (v' : Value) : textG (ROf (mL2 t v ss t' v' 0)) 4 (0, 0) = txtL := by
  rw [laid_R, textG_some (o := ⟨(0, 0), false, [⟨kL, (0, 0), [⟨(2, 0), 0, (1, 0)⟩]⟩]⟩) rfl]
  have h1 := laid_sub [⟨(0, 0), false, [⟨kL, (0, 0), [⟨(2, 0), 0, (1, 0)⟩]⟩]⟩, ⟨(1, 0), true, []⟩] rfl 2
  simp only [objG, bodyG, ordP, sortP, List.mergeSort_singleton, Bool.false_eq_true, if_false, slotG, valsG, hsG, itemText]
  simp [seenS, joinB, idEq, h1, txtL, slotG, valsG, hsG, itemText]
  rfl
theorem laid_nice {N : Nat} (t : TypeId) (v : Value) (ss : List PId) (t' : TypeId) (v' : Value) : NiceM N (mL2 t v ss t' v') := by
  have h0 : intOk 0 := by unfold intOk; omega
  unfold mL2 mL1 doneM
  refine NiceM.add (NiceM.add (fun c _ o ho => by cases ho) ?_) ?_
  · exact ⟨h0, by show (0 : Nat) ≤ 4; decide⟩
  · exact ⟨h0, by show (1 : Nat) ≤ 4; decide⟩

/-- The steps, as they lie. -/
def isSteps (w : World) (a : Option Addr) (n : Nat) : Prop := ∀ i, i < n → ∃ g o, ∃ p : Stp, a = some ⟨g, o, none⟩ ∧ p.ok ∧ w.cell? ⟨g, o + i * 5, none⟩ = some (.int .i64 p.k) ∧ w.cell? ⟨g, o + i * 5 + 1, none⟩ = some (.int .i64 p.c) ∧ w.cell? ⟨g, o + i * 5 + 2, none⟩ = some (.int .i64 p.d) ∧ w.cell? ⟨g, o + i * 5 + 3, none⟩ = some (.int .i64 p.a) ∧ w.cell? ⟨g, o + i * 5 + 4, none⟩ = some (.int .i64 p.n)
/-- What laid answers. -/
def LaidD (w : World) (e : Ending) (w' : World) : Prop := Below w.heap.size w w' ∧ ∃ tb r N sp ls, e = .returned (.tuple #[.pointer (some ⟨tb, 0, none⟩), .bool true]) ∧ 2 ≤ N ∧ hasInv (fun k => k < w.heap.size ∨ k = tb) tb w' r N sp ls
/-- The loop of laid: the copies ahead of k have heard. -/
def laidTo (Z : Nat → Prop) (tb : Nat) (w : World) (r N sp : Nat) (ls : PId) (M : Nat → List MOp) (k : Nat) : Prop := ∃ s, invS Z tb w r N sp ls M s ∧ LaidS N M s k

/-- What Nest leaves when a room is laid. -/
theorem nest_laid {w : World} {r N sp : Nat} {x : RoomX} {F : Nat → Prop} {e : Ending} {w' : World} (hn : NestD r N sp F (fun _ => False) (fun _ => []) s0 x 0 0 0 kL true w e w') : e = .returned (.tuple #[.agg #[.int .i64 1, .int .i64 0], .int .i64 0]) ∧ ∃ t v ss t' v', RoomDTo r N sp F (fun _ => False) w w' x.rbs (mL2 t v ss t' v') (sL2 t v ss t' v') := by
  rcases hn with ⟨m, hm, _⟩ | ⟨o, ho, _, _, rfl, _, t, v, D1, ss, t', v', _, _, _, _, hto⟩
  · rcases hm with hm | ⟨_, hm⟩
    · exact absurd hm (by
        have : keyedP (ROf (s0.ops 0)) (0, 0) kL = .ok [] := by rfl
        rw [this]
        simp)
    · exact absurd (show s0.has 0 0 + 2 ≤ 60 by decide) hm
  · exact ⟨rfl, t, v, ss, t', v', hto⟩

theorem invS.show {Z : Nat → Prop} {tb : Nat} {w : World} {r N sp : Nat} {ls : PId} {t : TypeId} {v : Value} {ss : List PId} {t' : TypeId} {v' : Value} {s : RoomS} (h : invS Z tb w r N sp ls (mL2 t v ss t' v') s) (hp : Pow w) {c : Nat} (hc : c < N) (ho : s.ops c = mL2 t v ss t' v' 0) : Calls Tryz.prog 28 #[.pointer (some ⟨r, 0, none⟩), .int .i64 c] w fun e w' => e = .returned (.tuple #[.string ⟨#[123, 108, 58, 91, 93, 125]⟩, .int .i64 0]) ∧ invS Z tb w' r N sp ls (mL2 t v ss t' v') s ∧ Zept Z w w' := by
  obtain ⟨F, I, x, h⟩ := h
  refine (gShows h.d hp h.nice hc).mono ?_
  rintro e w' ⟨rfl, hb⟩
  rw [ho, laid_text]
  exact ⟨rfl, ⟨F, I, x, h.keep hb⟩, Zept.of hb h.zlt⟩
/-- The table, laid behind its room. -/
theorem table_inv {w0 w3 w4 : World} {r N sp : Nat} {F : Nat → Prop} {rbs : Nat → Nat} {t : TypeId} {v : Value} {ss : List PId} {t' : TypeId} {v' : Value} (hF : ∀ k, F k → w0.heap.size ≤ k) (hl : w0.heap.size ≤ w3.heap.size) (hto : RoomDTo r N sp F (fun _ => False) w3 w4 rbs (mL2 t v ss t' v') (sL2 t v ss t' v')) {w5 : World} (h45 : Below w4.heap.size w4 w5) : laidTo (fun k => k < w0.heap.size ∨ k = w5.heap.size) w5.heap.size (w5.alloc (.cells #[.int .i64 N, .pointer (some ⟨r, 0, none⟩), .int .i64 1, .int .i64 0] 38)) r N sp (1, 0) (mL2 t v ss t' v') 1 := by
  obtain ⟨F', I', x', hd, _, hk, hi⟩ := hto
  have hb : Below w4.heap.size w4 (w5.alloc (.cells #[.int .i64 N, .pointer (some ⟨r, 0, none⟩), .int .i64 1, .int .i64 0] 38)) := h45.alloc h45.size _
  have h45s := h45.size
  have hsz := hk.size
  refine ⟨_, ⟨F', I', x', hd.keep hb, laid_nice t v ss t' v', fun k hF' hz => ?_, fun k hI' hz => ?_, blk_new w5 _, .inr rfl, fun k hz => ?_⟩, laid_first t v ss t' v'⟩
  · have hlt := hd.m.lt k hF'
    rcases hz with hz | hz
    · rcases hk.sub k hF' with h1 | h1
      · have := hF k h1
        omega
      · omega
    · omega
  · have hlt := hd.m.iI k hI'
    rcases hz with hz | hz
    · rcases hi.2 k hI' with h1 | h1
      · exact h1
      · omega
    · omega
  · rcases hz with hz | hz
    · have := hb.size
      omega
    · rw [hz]
      simp

set_option maxRecDepth 1000000 in
set_option maxHeartbeats 4000000 in
/-- LAID: there is a room, and all its copies have the list. -/
theorem laid_g {w : World} (hp : Pow w) {raw spc : Int} (hr : intOk raw) (hs : intOk spc) : Calls Tryz.prog 14 #[.int .i64 raw, .int .i64 spc] w fun e w' => LaidD w e w' := by
  have HP1 := hid (fun W => pick_g raw hr 3 (by omega) (by omega) W)
  have HP2 := hid (fun W => pick_g spc hs 50 (by omega) (by omega) W)
  have l1 := pickN_lt raw (show 0 < 3 by omega)
  have l2 := pickN_lt spc (show 0 < 50 by omega)
  obtain ⟨N, hN⟩ : ∃ N : Nat, N = 2 + pickN raw 3 := ⟨_, rfl⟩
  obtain ⟨sp, hsp⟩ : ∃ sp : Nat, sp = 1 + pickN spc 50 := ⟨_, rfl⟩
  have eN : (2 : Int) + (pickN raw 3 : Int) = (N : Int) := by omega
  have eS : (1 : Int) + (pickN spc 50 : Int) = (sp : Int) := by omega
  have hw1 : IntKind.i64.wrap (2 + (pickN raw 3 : Int)) = (N : Int) := by rw [Go.IntWalk.i64_in _ (by omega)]; exact eN
  have hw2 : IntKind.i64.wrap (1 + (pickN spc 50 : Int)) = (sp : Int) := by rw [Go.IntWalk.i64_in _ (by omega)]; exact eS
  have HN := hid (fun W => gNew N sp (by omega) (by omega) (by omega) (by omega) W)
  have hN2 : 2 ≤ N := by omega
  have hN4 : N ≤ 4 := by omega
  have HPW := hid hp
  clear hp hr hs eN eS hN hsp
  go_enter Tryz.func14, Tryz.ntmps14
  go_wp2_with fail
  refine (HP1.out _).mono ?_
  rintro e v1 ⟨rfl, hb1⟩
  have HB1 := hid hb1; clear hb1
  go_wp2_with fail
  refine (HP2.out _).mono ?_
  rintro e v2 ⟨rfl, hb2⟩
  have HB2 := hid (HB1.out.trans (hb2.mono HB1.out.size)); clear hb2
  go_wp2_with fail
  refine (HN.out _).mono ?_
  rintro e w3 ⟨hb3, r, x, rfl, hd⟩
  have HB3 := hid (HB2.out.trans (hb3.mono HB2.out.size)); clear hb3
  have HD := hid hd; clear hd
  have HNS := hid (gNest HD.out (c := 0) (by omega) 0 0 kL (by decide) true)
  go_wp2_with fail
  refine HNS.out.mono ?_
  rintro e w4 hn
  obtain ⟨rfl, t, v, ss, t', v', hto⟩ := nest_laid hn
  clear hn
  have HB4 := hid (show Below w.heap.size w w4 by
    obtain ⟨F', I', x', _, _, hk, _⟩ := hto
    have h3 := HB3.out
    have h2 := HB2.out.size
    refine ⟨hk.os.trans h3.os, hk.tape.trans h3.tape, hk.output.trans h3.output, Nat.le_trans h3.size hk.size, fun k hk' => ?_⟩
    rw [hk.other k (Nat.lt_of_lt_of_le hk' h3.size) (fun hF => by have := hF.1; omega)]
    exact h3.block k hk')
  have HB45 := hid (show Below w4.heap.size w4 (w4.alloc (.cells #[.int .i64 1, .int .i64 0] 36)) from (Below.refl _ w4).alloc (Nat.le_refl _) _)
  have HT := hid (table_inv (w0 := w) (fun k hk => Nat.le_trans HB2.out.size hk.1) HB3.out.size hto HB45.out)
  rw [show (w4.alloc (.cells #[.int .i64 1, .int .i64 0] 36)).heap.size = w4.heap.size + 1 by simp] at HT
  have HB5 := hid ((HB4.out.trans (HB45.out.mono HB4.out.size)).alloc (Nat.le_trans HB4.out.size HB45.out.size) (.cells #[.int .i64 N, .pointer (some ⟨r, 0, none⟩), .int .i64 1, .int .i64 0] 38))
  clear hto
  go_wp2_with fail
  go_loopw [12] (fun d wr => ∃ k : Nat, 1 ≤ k ∧ k ≤ N ∧ d = .int .i64 k ∧ laidTo (fun k => k < w.heap.size ∨ k = w4.heap.size + 1) (w4.heap.size + 1) wr r N sp (1, 0) (mL2 t v ss t' v') k ∧ Below w.heap.size w wr) (fun d _ => N - (intOf d).toNat)
  case atStart => exact ⟨1, Nat.le_refl _, by omega, rfl, HT.out, HB5.out⟩
  case round =>
    obtain ⟨k, hk1, hkN, rfl, hlt, hbw⟩ := hrel
    have HB := hid hbw; clear hbw
    obtain ⟨s, hi, hS⟩ := hlt
    have HI := hid hi; have HS := hid hS; clear hi hS
    by_cases hl : k < N
    · have hl' : (k : Int) < (N : Int) := by omega
      have HA := hid (invS.ask hl (show 0 < N by omega) (show k ≠ 0 by omega) HI.out)
      go_wp2_with fail
      refine HA.out.mono ?_
      rintro e w6 ⟨⟨v6, rfl⟩, hi6, hb6⟩
      have HB6 := hid (HB.out.trans (hb6.below fun k hk => .inl hk)); clear hb6
      have HI6 := hid hi6; clear hi6
      have HD6 := hid (invS.deliver hl (show 0 < N by omega) (show k ≠ 0 by omega) HI6.out)
      go_wp2_with fail
      refine HD6.out.mono ?_
      rintro e w7 ⟨⟨v7, rfl⟩, ⟨s2, hd2, hi7⟩, hb7⟩
      have HB7 := hid (HB6.out.trans (hb7.below fun k hk => .inl hk)); clear hb7
      have HI7 := hid hi7; clear hi7
      have HD7 := hid (invS.deliver (show 0 < N by omega) hl (show 0 ≠ k by omega) HI7.out)
      have HX2 := hid hd2; clear hd2
      go_wp2_with fail
      refine HD7.out.mono ?_
      rintro e w8 ⟨⟨v8, rfl⟩, ⟨s3, hd3, hi8⟩, hb8⟩
      have HB8 := hid (HB7.out.trans (hb8.below fun k hk => .inl hk)); clear hb8
      have HI8 := hid hi8; clear hi8
      have HL := hid (show LaidS N (mL2 t v ss t' v') s3 (k + 1) ∧ s3.ops k = mL2 t v ss t' v' 0 from by
        obtain ⟨F, I, x, hR⟩ := HI.out
        exact HS.out.step hR.d.ok hk1 hl HX2.out hd3)
      clear hd3
      have HW := hid (HI8.out.show (HPW.out.keep HB8.out) hl HL.out.2)
      go_wp2_with fail
      refine HW.out.mono ?_
      rintro e w9 ⟨rfl, hi9, hb9⟩
      have HB9 := hid (HB8.out.trans (hb9.below fun k hk => .inl hk)); clear hb9
      have HI9 := hid hi9; clear hi9
      go_wp2
      go_roundw
      case rel => exact ⟨k + 1, by omega, by omega, by go_num, ⟨s3, HI9.out, HL.out.1⟩, HB9.out⟩
      case measure => simp [intOf]; omega
    · have hl' : ¬ (k : Int) < (N : Int) := by omega
      go_wp2
      go_ret2
      refine ⟨HB.out, w4.heap.size + 1, r, N, sp, (1, 0), rfl, hN2, ?_⟩
      obtain rfl : k = N := by omega
      exact ⟨_, s, HI.out, laid_has HS.out⟩

end Go.Proofs.YtnkpogjiiohapaaGreatDoor

/-! OLawA: Plain: the elements of a list stand in one order: what some of the operations lay is laid in the same order by all of them. -/
namespace Go.Proofs.YtnkpogjiiohapaaGreatDoor

/-- One element more, behind b. -/
def insA (b x : PId) : List PId → List PId
  | [] => []
  | y :: l => if y = b then y :: x :: l else y :: insA b x l
def insB (b x : PId) (l : List PId) : List PId := if b = (0, 0) then x :: l else insA b x l
theorem insA_no {b x : PId} : ∀ {l : List PId}, b ∉ l → insA b x l = l
  | [], _ => rfl
  | y :: l, h => by
    unfold insA
    rw [if_neg fun e => h (by rw [e]; exact List.mem_cons_self), insA_no fun hm => h (List.mem_cons_of_mem _ hm)]
theorem insA_sub (b x : PId) : ∀ l : List PId, l.Sublist (insA b x l)
  | [] => .slnil
  | y :: l => by
    unfold insA
    split
    · exact ((List.Sublist.refl l).cons x).cons_cons y
    · exact (insA_sub b x l).cons_cons y
theorem insB_sub (b x : PId) (l : List PId) : l.Sublist (insB b x l) := by
  unfold insB
  split
  · exact List.sublist_cons_self _ _
  · exact insA_sub b x l
theorem insA_cons (b x y : PId) (l : List PId) : insA b x (y :: l) = if y = b then y :: x :: l else y :: insA b x l := rfl
theorem insA_both {b x : PId} {l m : List PId} (h : l.Sublist m) : m.Nodup → (insA b x l).Sublist (insA b x m) := by
  induction h with
  | slnil => intro _; exact .slnil
  | @cons l m y h ih =>
    intro hn
    obtain ⟨h1, h2⟩ := List.nodup_cons.1 hn
    rw [insA_cons b x y m]
    by_cases e : y = b
    · rw [if_pos e, show insA b x l = l from insA_no fun hm => h1 (e ▸ h.subset hm)]
      exact (h.cons x).cons y
    · rw [if_neg e]
      exact (ih h2).cons y
  | @cons_cons l m y h ih =>
    intro hn
    rw [insA_cons, insA_cons]
    by_cases e : y = b
    · rw [if_pos e, if_pos e]
      exact (h.cons_cons x).cons_cons y
    · rw [if_neg e, if_neg e]
      exact (ih (List.nodup_cons.1 hn).2).cons_cons y
theorem insB_both {b x : PId} {l m : List PId} (h : l.Sublist m) (hn : m.Nodup) : (insB b x l).Sublist (insB b x m) := by
  unfold insB
  split
  · exact h.cons_cons x
  · exact insA_both h hn
theorem insA_mem {b x z : PId} : ∀ {l : List PId}, z ∈ insA b x l → z ∈ l ∨ z = x
  | [], h => .inl h
  | y :: l, h => by
    unfold insA at h
    split at h
    · rcases List.mem_cons.1 h with rfl | h
      · exact .inl List.mem_cons_self
      · rcases List.mem_cons.1 h with rfl | h
        · exact .inr rfl
        · exact .inl (List.mem_cons_of_mem _ h)
    · rcases List.mem_cons.1 h with rfl | h
      · exact .inl List.mem_cons_self
      · exact (insA_mem h).imp (List.mem_cons_of_mem _) id
theorem insA_nodup {b x : PId} : ∀ {l : List PId}, l.Nodup → x ∉ l → (insA b x l).Nodup
  | [], h, _ => h
  | y :: l, h, hx => by
    obtain ⟨h1, h2⟩ := List.nodup_cons.1 h
    have hxl : x ∉ l := fun hm => hx (List.mem_cons_of_mem _ hm)
    have hxy : x ≠ y := fun e => hx (by rw [e]; exact List.mem_cons_self)
    unfold insA
    split
    · refine List.nodup_cons.2 ⟨fun hm => ?_, List.nodup_cons.2 ⟨hxl, h2⟩⟩
      rcases List.mem_cons.1 hm with e | hm
      · exact hxy e.symm
      · exact h1 hm
    · refine List.nodup_cons.2 ⟨fun hm => ?_, insA_nodup h2 hxl⟩
      rcases insA_mem hm with hm | e
      · exact h1 hm
      · exact hxy e.symm
theorem insB_mem {b x z : PId} {l : List PId} (h : z ∈ insB b x l) : z ∈ l ∨ z = x := by
  unfold insB at h
  split at h
  · exact (List.mem_cons.1 h).symm.imp id id
  · exact insA_mem h
theorem insB_nodup {b x : PId} {l : List PId} (h : l.Nodup) (hx : x ∉ l) : (insB b x l).Nodup := by
  unfold insB
  split
  · exact List.nodup_cons.2 ⟨hx, h⟩
  · exact insA_nodup h hx

theorem firstI_cons {α : Type} (p : α → Bool) (a : α) (l : List α) : firstI p (a :: l) = if p a then 0 else if firstI p l < 0 then -1 else firstI p l + 1 := by
  unfold firstI
  rw [List.findIdx?_cons]
  cases h : p a with
  | true => rfl
  | false =>
    simp only [Bool.false_eq_true, if_false]
    cases h2 : l.findIdx? p with
    | none => rfl
    | some i =>
      simp only [Option.map_some]
      rw [if_neg (by omega)]
      push_cast
      rfl
theorem firstI_low {α : Type} (p : α → Bool) (l : List α) : -1 ≤ firstI p l := by
  unfold firstI
  split
  · omega
  · exact Int.le_refl _
theorem pslot_id {b : PId} {s : PSlot} (h : s.key = ⟨#[]⟩) : pslotIs ⟨#[]⟩ b s = decide (s.id = b) := by
  unfold pslotIs
  rw [h]
  simp [idEq, Prod.ext_iff]
theorem laid_ids (b x : PId) : ∀ l : List PSlot, (∀ s ∈ l, s.key = ⟨#[]⟩) → ((if firstI (pslotIs ⟨#[]⟩ b) l < 0 then l else pinsAt l ((firstI (pslotIs ⟨#[]⟩ b) l).toNat + 1) (pslot0 ⟨#[]⟩ x)).map PSlot.id) = insA b x (l.map PSlot.id)
  | [], _ => rfl
  | s :: l, h => by
    have ih := laid_ids b x l fun y hy => h y (List.mem_cons_of_mem _ hy)
    have hg := firstI_low (pslotIs ⟨#[]⟩ b) l
    rw [firstI_cons, pslot_id (h s List.mem_cons_self)]
    show _ = insA b x (s.id :: l.map PSlot.id)
    unfold insA
    by_cases e : s.id = b
    · rw [if_pos e, decide_eq_true e]
      simp [pinsAt, pslot0, e]
    · rw [if_neg e, decide_eq_false e, ← ih]
      simp only [Bool.false_eq_true, if_false]
      by_cases hn : firstI (pslotIs ⟨#[]⟩ b) l < 0
      · rw [if_pos hn, if_pos (by omega), if_pos hn]
        rfl
      · rw [if_neg hn, if_neg (by omega), if_neg hn, show (firstI (pslotIs ⟨#[]⟩ b) l + 1).toNat + 1 = ((firstI (pslotIs ⟨#[]⟩ b) l).toNat + 1) + 1 by omega]
        simp [pinsAt]
/-- The elements of an object. -/
def elIds (o : PObj) : List PId := o.ss.map PSlot.id
def emptyKeys (o : PObj) : Prop := ∀ s ∈ o.ss, s.key = ⟨#[]⟩
theorem laidP_ids {o : PObj} (h : emptyKeys o) (b x : PId) : (laidP o.ss b x).map PSlot.id = insB b x (elIds o) := by
  unfold laidP insB
  have e : idEq b.1 b.2 0 0 = decide (b = (0, 0)) := by simp [idEq, Prod.ext_iff]
  rw [e]
  by_cases hb : b = (0, 0)
  · rw [if_pos hb, decide_eq_true hb, if_pos rfl]
    simp [pinsAt, pslot0, elIds]
  · rw [if_neg hb, decide_eq_false hb, if_neg (by simp)]
    exact laid_ids b x o.ss h
theorem modify_ids (l : List PSlot) (k : Nat) (f : PSlot → PSlot) (hf : ∀ s, (f s).id = s.id) : (l.modify k f).map PSlot.id = l.map PSlot.id := by
  apply List.ext_getElem
  · simp
  · intro i h1 h2
    rw [List.getElem_map, List.getElem_map, List.getElem_modify]
    split
    · exact hf _
    · rfl
/-- WHAT AN OPERATION MAKES OF A LIST'S ELEMENTS. -/
theorem does_elIds {p : POp} {o : PObj} (hl : o.list = true) (h : emptyKeys o) : elIds (doesAt p o) = (if p.kind = 2 then insB p.behind p.id (elIds o) else elIds o) ∧ emptyKeys (doesAt p o) ∧ (doesAt p o).list = true := by
  unfold doesAt
  by_cases hk : p.kind = 2
  · rw [if_pos hk, if_pos hk, if_pos hl]
    refine ⟨laidP_ids h _ _, fun s hs => ?_, hl⟩
    rcases laid_memG hs with hs | rfl
    · exact h s hs
    · rfl
  · rw [if_neg hk, if_neg hk]
    split
    · unfold valuedP
      rw [hl]
      simp only [if_true]
      split
      · exact ⟨rfl, h, trivial⟩
      · refine ⟨modify_ids _ _ _ fun _ => rfl, fun s hs => ?_, trivial⟩
        rcases mem_modifyG hs with hs | ⟨s0, hs0, rfl⟩
        · exact h s hs
        · exact h s0 hs0
    · exact ⟨rfl, h, hl⟩
theorem does_list (p : POp) (o : PObj) : (doesAt p o).list = o.list := by
  unfold doesAt
  repeat' split
  all_goals rfl

/-- What the documents keep to. -/
structure Ord (R : List PObj) (done : List PId) : Prop where
  obj : ∀ x o, objOf R x = some o → x = (0, 0) ∨ x ∈ done
  lst : ∀ x o, objOf R x = some o → o.list = true → (elIds o).Nodup ∧ (∀ z ∈ elIds o, z ∈ done) ∧ emptyKeys o
theorem Ord.root : Ord rootP [] := by
  have key : ∀ x o, objOf rootP x = some o → x = (0, 0) ∧ o.list = false := fun x o h => by
    have hx := objOf_id h
    unfold objOf rootP at h
    simp only [List.find?_cons, List.find?_nil] at h
    split at h
    · cases h
      exact ⟨hx.symm, rfl⟩
    · cases h
  exact ⟨fun x o h => .inl (key x o h).1, fun x o h hl => by rw [(key x o h).2] at hl; cases hl⟩
theorem Ord.does {R : List PObj} {done : List PId} (h : Ord R done) (p : POp) (hp : p.id ∉ done) : Ord (doesP R p) (p.id :: done) := by
  by_cases hk : p.kind = 1
  · refine ⟨fun x o ho => ?_, fun x o ho hl => ?_⟩ <;> rw [make_obj hk] at ho
    · cases hx : objOf R x with
      | some o' => exact (h.obj x o' hx).imp id (List.mem_cons_of_mem _)
      | none =>
        rw [hx] at ho
        simp only at ho
        split at ho
        · rename_i e; rw [e]; exact .inr List.mem_cons_self
        · cases ho
    · cases hx : objOf R x with
      | some o' =>
        rw [hx] at ho
        cases ho
        obtain ⟨a, b, c⟩ := h.lst x o hx hl
        exact ⟨a, fun z hz => List.mem_cons_of_mem _ (b z hz), c⟩
      | none =>
        rw [hx] at ho
        simp only at ho
        split at ho
        · cases ho
          exact ⟨List.nodup_nil, (fun z hz => absurd hz List.not_mem_nil), (fun s hs => absurd hs List.not_mem_nil)⟩
        · cases ho
  · refine ⟨fun x o ho => ?_, fun x o ho hl => ?_⟩ <;> rw [does_obj hk] at ho
    · split at ho
      · cases hx : objOf R x with
        | none => rw [hx] at ho; cases ho
        | some o' => exact (h.obj x o' hx).imp id (List.mem_cons_of_mem _)
      · exact (h.obj x o ho).imp id (List.mem_cons_of_mem _)
    · split at ho
      · cases hx : objOf R x with
        | none => rw [hx] at ho; cases ho
        | some o' =>
          rw [hx] at ho
          simp only [Option.map_some, Option.some.injEq] at ho
          subst ho
          rw [does_list] at hl
          obtain ⟨a, b, c⟩ := h.lst x o' hx hl
          obtain ⟨d1, d2, _⟩ := does_elIds (p := p) hl c
          rw [d1]
          split
          · exact ⟨insB_nodup a fun hm => hp (b _ hm), fun z hz => by
              rcases insB_mem hz with hz | rfl
              · exact List.mem_cons_of_mem _ (b z hz)
              · exact List.mem_cons_self, d2⟩
          · exact ⟨a, fun z hz => List.mem_cons_of_mem _ (b z hz), d2⟩
      · obtain ⟨a, b, c⟩ := h.lst x o ho hl
        exact ⟨a, fun z hz => List.mem_cons_of_mem _ (b z hz), c⟩
theorem Ord.all : ∀ (S : List POp) (R : List PObj) (done : List PId), Ord R done → (S.map POp.id).Nodup → (∀ p ∈ S, p.id ∉ done) → Ord (S.foldl doesP R) ((S.map POp.id).reverse ++ done)
  | [], R, done, h, _, _ => h
  | p :: S, R, done, h, hn, hd => by
    obtain ⟨h1, h2⟩ := List.nodup_cons.1 hn
    have := Ord.all S (doesP R p) (p.id :: done) (h.does p (hd p List.mem_cons_self)) h2 fun q hq hm => by
      rcases List.mem_cons.1 hm with e | hm
      · exact h1 (by rw [← e]; exact List.mem_map.2 ⟨q, hq, rfl⟩)
      · exact hd q (List.mem_cons_of_mem _ hq) hm
    simpa using this

/-- One document's lists lie within another's. -/
def Within (R T : List PObj) : Prop := ∀ x o, objOf R x = some o → ∃ o', objOf T x = some o' ∧ o'.list = o.list ∧ (o.list = true → emptyKeys o ∧ (elIds o).Sublist (elIds o'))
theorem Within.both {R T : List PObj} (h : Within R T) {done : List PId} (hT : Ord T done) (p : POp) (h0 : p.id ≠ (0, 0)) (hp : p.id ∉ done) : Within (doesP R p) (doesP T p) := by
  intro x o ho
  by_cases hk : p.kind = 1
  · rw [make_obj hk] at ho ⊢
    cases hx : objOf R x with
    | some o' =>
      rw [hx] at ho
      cases ho
      obtain ⟨o2, h1, h2⟩ := h x o hx
      exact ⟨o2, by rw [h1], h2⟩
    | none =>
      rw [hx] at ho
      simp only at ho
      split at ho
      · rename_i e
        cases ho
        have : objOf T x = none := by
          cases ht : objOf T x with
          | none => rfl
          | some o2 =>
            rcases hT.obj x o2 ht with e' | e'
            · exact absurd (e.symm.trans e') h0
            · exact absurd (e ▸ e') hp
        rw [this]
        simp only
        rw [if_pos e]
        exact ⟨_, rfl, rfl, fun _ => ⟨(fun s hs => absurd hs List.not_mem_nil), .slnil⟩⟩
      · cases ho
  · rw [does_obj hk] at ho ⊢
    split at ho
    · rename_i e
      rw [if_pos e]
      cases hx : objOf R x with
      | none => rw [hx] at ho; cases ho
      | some o' =>
        rw [hx] at ho
        simp only [Option.map_some, Option.some.injEq] at ho
        subst ho
        obtain ⟨o2, h1, h2, h3⟩ := h x o' hx
        rw [h1]
        refine ⟨_, rfl, by rw [does_list, does_list, h2], fun hl => ?_⟩
        rw [does_list] at hl
        obtain ⟨e1, e2⟩ := h3 hl
        obtain ⟨a, b, c⟩ := hT.lst x o2 h1 (h2.trans hl)
        obtain ⟨d1, d2, _⟩ := does_elIds (p := p) hl e1
        obtain ⟨f1, _, _⟩ := does_elIds (p := p) (h2.trans hl) c
        refine ⟨d2, ?_⟩
        rw [d1, f1]
        split
        · exact insB_both e2 a
        · exact e2
    · rename_i e
      rw [if_neg e]
      exact h x o ho
theorem Within.more {R T : List PObj} (h : Within R T) {done : List PId} (hT : Ord T done) (p : POp) : Within R (doesP T p) := by
  intro x o ho
  obtain ⟨o2, h1, h2, h3⟩ := h x o ho
  by_cases hk : p.kind = 1
  · rw [make_obj hk, h1]
    exact ⟨o2, rfl, h2, h3⟩
  · rw [does_obj hk]
    split
    · rw [h1]
      refine ⟨_, rfl, by rw [does_list, h2], fun hl => ?_⟩
      obtain ⟨e1, e2⟩ := h3 hl
      obtain ⟨a, b, c⟩ := hT.lst x o2 h1 (h2.trans hl)
      obtain ⟨f1, _, _⟩ := does_elIds (p := p) (h2.trans hl) c
      refine ⟨e1, ?_⟩
      rw [f1]
      split
      · exact e2.trans (insB_sub _ _ _)
      · exact e2
    · exact ⟨o2, h1, h2, h3⟩
/-- FEWER OPERATIONS LAY FEWER ELEMENTS, IN THE SAME ORDER. -/
theorem Within.all {S T : List POp} (h : S.Sublist T) : ∀ (A B : List PObj) (done : List PId), Within A B → Ord B done → (T.map POp.id).Nodup → (∀ p ∈ T, p.id ∉ done ∧ p.id ≠ (0, 0)) → Within (S.foldl doesP A) (T.foldl doesP B) := by
  have next : ∀ {p : POp} {T : List POp} {done : List PId}, ((p :: T).map POp.id).Nodup → (∀ q ∈ p :: T, q.id ∉ done ∧ q.id ≠ (0, 0)) → ∀ q ∈ T, q.id ∉ p.id :: done ∧ q.id ≠ (0, 0) := fun {p T done} hn hd q hq => by
    refine ⟨fun hm => ?_, (hd q (List.mem_cons_of_mem _ hq)).2⟩
    rcases List.mem_cons.1 hm with e | hm
    · exact (List.nodup_cons.1 hn).1 (by rw [← e]; exact List.mem_map.2 ⟨q, hq, rfl⟩)
    · exact (hd q (List.mem_cons_of_mem _ hq)).1 hm
  induction h with
  | slnil => intro A B done h _ _ _; exact h
  | @cons S T p hs ih =>
    intro A B done h hB hn hd
    exact ih A (doesP B p) (p.id :: done) (h.more hB p) (hB.does p (hd p List.mem_cons_self).1) (List.nodup_cons.1 hn).2 (next hn hd)
  | @cons_cons S T p hs ih =>
    intro A B done h hB hn hd
    exact ih (doesP A p) (doesP B p) (p.id :: done) (h.both hB p (hd p List.mem_cons_self).2 (hd p List.mem_cons_self).1) (hB.does p (hd p List.mem_cons_self).1) (List.nodup_cons.1 hn).2 (next hn hd)
theorem Within.root : Within rootP rootP := fun x o h => by
  refine ⟨o, h, rfl, fun hl => ?_⟩
  obtain ⟨_, _, c⟩ := Ord.root.lst x o h hl
  exact ⟨c, List.Sublist.refl _⟩

end Go.Proofs.YtnkpogjiiohapaaGreatDoor
