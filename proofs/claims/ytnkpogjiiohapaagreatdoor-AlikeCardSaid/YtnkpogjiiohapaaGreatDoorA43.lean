/- Our own text (GLawL, GLawM, GClaimA). -/
import Derived.Test.YtnkpogjiiohapaaGreatDoorRows
import Derived.ProofKit
import Derived.OpenShut
import Derived.Deep.DeepHandedRow
import Derived.Lib.LaidTab
import Derived.SizedLaws
import Derived.Test.YtnkpogjiiohapaaGreatDoorA42
set_option linter.unusedSimpArgs false
set_option linter.unusedVariables false

/-! GLawL: Plain: how a room is laid: what an answer brings, what it makes of the copy that asked. -/
namespace Go.Proofs.YtnkpogjiiohapaaGreatDoor

theorem mem_beyTo {known has : Nat → Int} {N : Nat} {c : Nat} {j : Int} (hc : c < N) (h1 : known c < j) (h2 : j ≤ has c) : ((c : Int), j) ∈ beyTo known has N := by
  unfold beyTo plsOf
  refine List.mem_flatMap.2 ⟨c, List.mem_range.2 hc, List.mem_map.2 ⟨(j - known c - 1).toNat, List.mem_range.2 (by omega), ?_⟩⟩
  rw [show known c + 1 + (((j - known c - 1).toNat : Nat) : Int) = j by omega]
theorem beyTo_one {known has : Nat → Int} : ∀ n : Nat, (∀ i, i < n + 1 → i ≠ 0 → has i = known i) → (beyTo known has (n + 1)).length = (has 0 - known 0).toNat
  | 0, _ => by rw [beyTo_succ, List.length_append, plsOf_len]; simp [beyTo]
  | n + 1, h => by
    rw [beyTo_succ, List.length_append, plsOf_len, beyTo_one n fun i hi h0 => h i (by omega) h0, h (n + 1) (by omega) (by omega)]
    omega
theorem takeWhile_all {α : Type} {p : α → Bool} : ∀ l : List α, (∀ x ∈ l, p x = true) → l.takeWhile p = l
  | [], _ => rfl
  | x :: l, h => by
    rw [List.takeWhile_cons_of_pos (h x List.mem_cons_self), takeWhile_all l fun y hy => h y (List.mem_cons_of_mem _ hy)]
/-- Few operations come in one message. -/
theorem bats_all {ls : List MOp} {known has : Nat → Int} {N : Nat} (h1 : (beyTo known has N).length ≤ 8) (h0 : (beyTo known has N).length ≠ 0) (hin : ∀ y ∈ ls, plOf y ∈ beyTo known has N) : (batsOf ls known has N).map (batOf ls) = [.inr ls] := by
  unfold batsOf
  have hr : List.range (min (chunks (beyTo known has N).length) 3) = [0] := by
    have : min (chunks (beyTo known has N).length) 3 = 1 := by unfold chunks; omega
    rw [this]; rfl
  have hp : partOf (beyTo known has N) 0 = beyTo known has N := by
    unfold partOf
    rw [Nat.mul_zero, List.drop_zero]
    exact List.take_of_length_le h1
  have hc : cutIn ls (beyTo known has N) = ls.length := by
    unfold cutIn
    rw [takeWhile_all ls fun y hy => decide_eq_true (hin y hy)]
  rw [hr]
  simp [ansTo, hp, hc, batOf]
theorem early_look {has : Nat → Int} {p : PId} : ∀ (xs : List MOp) (m : List (PId × MOp)), (lookI p m ≠ none ∨ ∃ y ∈ xs, plOf y = p ∧ has y.op.id.2.toNat < y.op.nth) → lookI p (earlyAll has m xs) ≠ none
  | [], m, h => h.elim id fun ⟨_, hy, _⟩ => by cases hy
  | x :: xs, m, h => by
    show lookI p (earlyAll has (if has x.op.id.2.toNat < x.op.nth then putI (plOf x) x m else m) xs) ≠ none
    refine early_look xs _ ?_
    rcases h with h | ⟨y, hy, e, hl⟩
    · left
      split
      · rw [look_put]
        split
        · simp
        · exact h
      · exact h
    · rcases List.mem_cons.1 hy with rfl | hy
      · left
        rw [if_pos hl, look_put, if_pos e.symm]
        simp
      · exact .inr ⟨y, hy, e, hl⟩
/-- WHAT COMES WITHOUT A GAP IS HAD. -/
theorem heard_more {m : List (PId × MOp)} {has : Nat → Int} {N c : Nat} (hc : c < N) {n : Int} (hn : n ≤ has c + 61) (h : ∀ j : Int, has c < j → j ≤ n → lookI ((c : Int), j) m ≠ none) : n ≤ heardTo m has N c := by
  unfold heardTo
  rw [if_pos hc]
  by_cases hl : (runOf m (c : Int) (has c) 61).length < 61
  · have he := run_end m (c : Int) 61 (has c) hl
    rcases Int.lt_or_le (has c + ((runOf m (c : Int) (has c) 61).length : Int)) n with hlt | hle
    · exact absurd he (h _ (by omega) (by omega))
    · exact hle
  · omega

theorem msTo_ms (s : RoomS) (c d : Nat) (l : List Msg) (a b : Nat) : (msTo s c d l).ms a b = if a = c ∧ b = d then l else s.ms a b := by
  simp only [msTo]
  by_cases e1 : a = c
  · subst e1
    rw [upd_same]
    by_cases e2 : b = d
    · subst e2; rw [upd_same, if_pos ⟨rfl, rfl⟩]
    · rw [upd_ne _ _ e2, if_neg fun h => e2 h.2]
  · rw [upd_ne _ _ e1, if_neg fun h => e1 h.1]

/-- A room that is being laid: the copies from k on have nothing. -/
structure LaidS (N : Nat) (M : Nat → List MOp) (s : RoomS) (k : Nat) : Prop where
  emp : ∀ a b, s.ms a b = []
  o0 : s.ops 0 = M 0
  m0 : (M 0).length = 2
  me : ∀ e, e < N → e ≠ 0 → M e = []
  rest : ∀ e, k ≤ e → e < N → ∀ i, i < N → s.has e i = 0

theorem LaidS.step {N : Nat} {M : Nat → List MOp} {s s2 s3 : RoomS} {k : Nat} (ok : RoomOk N M s) (h : LaidS N M s k) (h1 : 1 ≤ k) (hk : k < N) (hd1 : DeliverTo N (askS N s k 0) k 0 s2) (hd2 : DeliverTo N s2 0 k s3) : LaidS N M s3 (k + 1) ∧ s3.ops k = M 0 := by
  have h0k : (0 : Nat) ≠ k := by omega
  have hk0 : k ≠ 0 := by omega
  have h0 : 0 < N := by omega
  have ok1 : RoomOk N M (askS N s k 0) := ok.ask hk h0 hk0
  have ok2 : RoomOk N M s2 := ok1.deliver hk h0 hk0 hd1
  have ok3 : RoomOk N M s3 := ok2.deliver h0 hk h0k hd2
  have e1 : askS N s k 0 = msTo s k 0 [.inl (hasL N (s.has k))] := by
    unfold askS msTo
    rw [h.emp k 0]
    rfl
  rw [e1] at hd1
  obtain ⟨l, hl⟩ : ∃ l, hasL N (s.has k) = l := ⟨_, rfl⟩
  have hrow : ∀ i, i < N → rowOf l i = 0 := fun i hi => by rw [← hl, rowOf_has hi]; exact h.rest k (Nat.le_refl _) hk i hi
  rw [hl] at hd1
  have e2 : (msTo s k 0 [.inl l]).ms k 0 = [.inl l] := by simp [msTo, upd_same]
  unfold DeliverTo at hd1
  rw [e2] at hd1
  obtain ⟨ls, hp, ha, rfl⟩ := hd1
  have hown := ok.own 0 h0
  have hh0 : ∀ i, i < N → i ≠ 0 → s.has 0 i = 0 := fun i hi hi0 => by
    have := (ok.copy 0 h0).hasL i hi
    rw [h.me i hi hi0] at this
    simp at this
    omega
  have hm0 := h.m0
  have hall : ∀ y, y ∈ s.ops 0 → isBey (rowOf l) y = true := fun y hy => by
    obtain ⟨c, hc, hm⟩ := (ok.copy 0 h0).made hy
    obtain ⟨i, hi, e, a1, a2, a3⟩ := ok.made.at hc hm
    unfold isBey
    rw [show y.op.id.2.toNat = c by omega, hrow c hc]
    exact decide_eq_true (by omega)
  have hls : ∀ y, y ∈ ls ↔ y ∈ s.ops 0 := fun y => by
    rw [hp.mem_iff]
    exact ⟨fun hy => (List.mem_filter.1 hy).1, fun hy => List.mem_filter.2 ⟨hy, hall y hy⟩⟩
  have hin : ∀ y ∈ ls, plOf y ∈ beyTo (rowOf l) (s.has 0) N := fun y hy => by
    have hy' := (hls y).1 hy
    have hym := (ok.copy 0 h0).made hy'
    have hn := ((ok.copy 0 h0).mem ok.made hym).1 hy'
    obtain ⟨c, hc, hm⟩ := hym
    obtain ⟨i, hi, e, a1, a2, a3⟩ := ok.made.at hc hm
    have hcc : y.op.id.2.toNat = c := by omega
    rw [hcc] at hn
    unfold plOf
    rw [a1]
    exact mem_beyTo hc (by rw [hrow c hc]; omega) hn
  have hlen : (beyTo (rowOf l) (s.has 0) N).length = 2 := by
    obtain ⟨n, rfl⟩ : ∃ n, N = n + 1 := ⟨N - 1, by omega⟩
    rw [beyTo_one n fun i hi h0 => by rw [hrow i hi, hh0 i hi h0], hrow 0 h0]
    omega
  have hbat := bats_all (ls := ls) (known := rowOf l) (has := s.has 0) (N := N) (by omega) (by omega) hin
  have e3 : (msTo (msTo s k 0 [.inl l]) k 0 []).ms 0 k = [] := by
    simp only [msTo]
    rw [upd_ne _ _ h0k, upd_ne _ _ h0k]
    exact h.emp 0 k
  have e4 : sentM [] [(.inr ls : Msg)] = [.inr ls] := rfl
  have e5 : (msTo (msTo (msTo s k 0 [.inl l]) k 0 []) 0 k (sentM ((msTo (msTo s k 0 [.inl l]) k 0 []).ms 0 k) ((batsOf ls (rowOf l) ((msTo s k 0 [.inl l]).has 0) N).map (batOf ls)))) = msTo (msTo (msTo s k 0 [.inl l]) k 0 []) 0 k [.inr ls] := by
    rw [e3, show (msTo s k 0 [.inl l]).has 0 = s.has 0 from rfl, hbat, e4]
  rw [e5] at hd2 ok2
  have e6 : (msTo (msTo (msTo s k 0 [.inl l]) k 0 []) 0 k [.inr ls]).ms 0 k = [.inr ls] := by simp [msTo, upd_same]
  unfold DeliverTo at hd2
  rw [e6] at hd2
  obtain ⟨early', hC, rfl⟩ := hd2
  have hls2 : ∀ y ∈ ls, isMade N M y := fun y hy => (ok.copy 0 h0).made ((hls y).1 hy)
  have hE := (ok.wait hk hls2).1
  have hhas : ∀ i, i < N → (hearS N (msTo (msTo (msTo (msTo s k 0 [.inl l]) k 0 []) 0 k [.inr ls]) 0 k []) k ls early').has k i = heardTo (waitS s k ls) (s.has k) N i := fun i hi => by
    have := congrFun (heard_has (has := s.has k) hE N (Nat.le_refl _)) i
    rw [← this]
    simp only [hearS, copyS, upd_same]
    rfl
  have hge : (2 : Int) ≤ heardTo (waitS s k ls) (s.has k) N 0 := by
    have hz := h.rest k (Nat.le_refl _) hk 0 h0
    refine heard_more h0 (by omega) fun j hj1 hj2 => ?_
    unfold waitS
    refine early_look ls (s.early k) (.inr ?_)
    have hi : (j - 1).toNat < (M 0).length := by omega
    obtain ⟨a1, a2, a3⟩ := ok.made.id 0 h0 (j - 1).toNat hi
    have hmem : (M 0)[(j - 1).toNat] ∈ M 0 := List.getElem_mem _
    refine ⟨(M 0)[(j - 1).toNat], (hls _).2 (by rw [h.o0]; exact hmem), ?_, ?_⟩
    · unfold plOf
      rw [a1, a2, show (((j - 1).toNat : Nat) : Int) + 1 = j by omega]
    · rw [a1]
      show s.has k 0 < _
      rw [a2]
      omega
  have hk2 : ∀ i, i < N → (hearS N (msTo (msTo (msTo (msTo s k 0 [.inl l]) k 0 []) 0 k [.inr ls]) 0 k []) k ls early').has k i = s.has 0 i := fun i hi => by
    have hb := (ok3.copy k hk).hasL i hi
    rw [hhas i hi] at hb ⊢
    by_cases hi0 : i = 0
    · subst hi0
      omega
    · rw [h.me i hi hi0] at hb
      rw [hh0 i hi hi0]
      simp at hb
      omega
  have hsame : (hearS N (msTo (msTo (msTo (msTo s k 0 [.inl l]) k 0 []) 0 k [.inr ls]) 0 k []) k ls early').ops k = s.ops 0 := CopyOk.same (ok3.copy k hk) (ok.copy 0 h0) (ok3.asc k hk) (ok.asc 0 h0) hk2
  refine ⟨⟨fun a b => ?_, ?_, h.m0, h.me, fun e he1 he2 i hi => ?_⟩, hsame.trans h.o0⟩
  · have hab := h.emp a b
    show (msTo (msTo (msTo (msTo s k 0 [.inl l]) k 0 []) 0 k [.inr ls]) 0 k []).ms a b = []
    rw [msTo_ms, msTo_ms, msTo_ms, msTo_ms, hab]
    by_cases e1 : a = 0 ∧ b = k
    · rw [if_pos e1]
    · rw [if_neg e1, if_neg e1]
      by_cases e2 : a = k ∧ b = 0
      · rw [if_pos e2]
      · rw [if_neg e2, if_neg e2]
  · simp only [hearS, copyS]
    rw [upd_ne _ _ h0k]
    exact h.o0
  · simp only [hearS, copyS]
    rw [upd_ne _ _ (show e ≠ k by omega)]
    exact h.rest e (by omega) he2 i hi

end Go.Proofs.YtnkpogjiiohapaaGreatDoor

/-! GLawM: quirekeep: laid. -/
namespace Go.Proofs.YtnkpogjiiohapaaGreatDoor
open Go.RowKit
attribute [local go_sem ↓] Go.wp_at_zero Go.wp_at_succ

def kL : ByteArray := ⟨#[108]⟩
def txtL : ByteArray := ⟨#[123, 108, 58, 91, 93, 125]⟩
def chgL (ss : List PId) : QChg := .inr (.inr (.inl ((0, 0), kL, (0, 0), (0, (s0.gt 0 + 1, ((0 : Nat) : Int))), ss)))
def sL1 (t : TypeId) (v : Value) : RoomS := wroteS s0 0 (.inl true) t v
def sL2 (t : TypeId) (v : Value) (ss : List PId) (t' : TypeId) (v' : Value) : RoomS := wroteS (sL1 t v) 0 (chgL ss) t' v'
def mL1 (t : TypeId) (v : Value) : Nat → List MOp := doneM (fun _ => []) s0 0 (.inl true) t v
def mL2 (t : TypeId) (v : Value) (ss : List PId) (t' : TypeId) (v' : Value) : Nat → List MOp := doneM (mL1 t v) (sL1 t v) 0 (chgL ss) t' v'

theorem laid_first {N : Nat} (t : TypeId) (v : Value) (ss : List PId) (t' : TypeId) (v' : Value) : LaidS N (mL2 t v ss t' v') (sL2 t v ss t' v') 1 := by
  refine ⟨fun a b => rfl, rfl, rfl, fun e he h0 => ?_, fun e h1 he i hi => ?_⟩
  · unfold mL2 mL1 doneM
    rw [addM_ne _ _ h0, addM_ne _ _ h0]
  · unfold sL2 sL1 wroteS copyS
    simp only
    rw [upd_ne _ _ (show e ≠ 0 by omega), upd_ne _ _ (show e ≠ 0 by omega)]
    rfl
theorem kL_key : kL.toList.isEmpty = false := by
  cases h : kL.toList.isEmpty
  · rfl
  · rw [isEmpty_size] at h
    cases h
theorem laid_R (t : TypeId) (v : Value) (ss : List PId) (t' : TypeId) (v' : Value) : ROf (mL2 t v ss t' v' 0) = [⟨(0, 0), false, [⟨kL, (0, 0), [⟨(2, 0), 0, (1, 0)⟩]⟩]⟩, ⟨(1, 0), true, []⟩] := by
  have e : ROf (mL2 t v ss t' v' 0) = [doesAt ⟨(2, 0), 3, false, (0, 0), kL, (0, 0), (0, 0), 0, (1, 0), ss⟩ ⟨(0, 0), false, []⟩, ⟨(1, 0), true, []⟩] := rfl
  rw [e]
  unfold doesAt
  rw [if_neg (show ¬ (3 : Int) = 2 by decide), if_pos (by rw [kL_key])]
  rfl
theorem laid_sub (R : List PObj) (h : objOf R (1, 0) = some ⟨(1, 0), true, []⟩) (r : Nat) : textG R (r + 1) (1, 0) = ⟨#[91, 93]⟩ := by
  rw [textG_some h]
  rfl
theorem laid_text (t : TypeId) (v : Value) (ss : List PId) (t' : TypeId) (v' : Value) : textG (ROf (mL2 t v ss t' v' 0)) 4 (0, 0) = txtL := by
  rw [laid_R, textG_some (o := ⟨(0, 0), false, [⟨kL, (0, 0), [⟨(2, 0), 0, (1, 0)⟩]⟩]⟩) rfl]
  have h1 := laid_sub [⟨(0, 0), false, [⟨kL, (0, 0), [⟨(2, 0), 0, (1, 0)⟩]⟩]⟩, ⟨(1, 0), true, []⟩] rfl 2
  simp only [objG, bodyG, ordP, sortP, List.mergeSort_singleton, Bool.false_eq_true, if_false, slotG, valsG, hsG, itemText]
  simp [seenS, joinB, idEq, h1, txtL, slotG, valsG, hsG, itemText]
  rfl
theorem laid_nice {N : Nat} (t : TypeId) (v : Value) (ss : List PId) (t' : TypeId) (v' : Value) : NiceM N (mL2 t v ss t' v') := by
  have h0 : intOk 0 := by unfold intOk; omega
  unfold mL2 mL1 doneM
  refine NiceM.add (NiceM.add (fun c _ o ho => by cases ho) ?_) ?_
  · exact ⟨h0, by show (0 : Nat) ≤ 4; decide⟩
  · exact ⟨h0, by show (1 : Nat) ≤ 4; decide⟩

section
theorem RInv.goTo {B tb : Nat} {w : World} {r N sp : Nat} {ls : PId} {F I : Nat → Prop} {M : Nat → List MOp} {s : RoomS} {x : RoomX} (h : RInv B tb w r N sp ls F I M s x) {w' : World} {s' : RoomS} (hto : RoomTo r N sp F I w w' s') (hok : RoomOk N M s') : (∃ F' I' x', RInv B tb w' r N sp ls F' I' M s' x') ∧ Below B w w' := by
  obtain ⟨F', I', x', h1, hk, _⟩ := hto
  have htl := blk_lt h.tab
  have hbase := h.base
  refine ⟨⟨F', I', x', ⟨h1, hok, h.d.md⟩, h.nice, fun k hF => ?_, ?_, Nat.le_trans h.base hk.size⟩, ⟨hk.os, hk.tape, hk.output, hk.size, fun k hk' => hk.other k (by omega) fun hF => by have := (h.far k hF).1; omega⟩⟩
  · rcases hk.sub k hF with h1 | h1
    · exact h.far k h1
    · omega
  · exact (hk.other tb htl fun hF => (h.far tb hF).2 rfl).trans h.tab
end
/-- A table whose room has just this in it. -/
def invS (B tb : Nat) (w : World) (r N sp : Nat) (ls : PId) (M : Nat → List MOp) (s : RoomS) : Prop := ∃ F I x, RInv B tb w r N sp ls F I M s x
theorem invS.ask {B tb : Nat} {w : World} {r N sp : Nat} {ls : PId} {M : Nat → List MOp} {s : RoomS} (h : invS B tb w r N sp ls M s) {c d : Nat} (hc : c < N) (hd : d < N) (hcd : c ≠ d) : Calls Tryz.prog 27 #[.pointer (some ⟨r, 0, none⟩), .int .i64 c, .int .i64 d] w fun e w' => (∃ v, e = .returned v) ∧ invS B tb w' r N sp ls M (askS N s c d) ∧ Below B w w' := by
  obtain ⟨F, I, x, h⟩ := h
  refine (ask_any h.d.m hc hd hcd).mono ?_
  rintro e w' ⟨rfl, hto⟩
  exact ⟨⟨_, rfl⟩, h.goTo hto (h.d.ok.ask hc hd hcd)⟩
def delS (B tb : Nat) (w' : World) (r N sp : Nat) (ls : PId) (M : Nat → List MOp) (s : RoomS) (c d : Nat) : Prop := ∃ s', DeliverTo N s c d s' ∧ invS B tb w' r N sp ls M s'
theorem invS.deliver {B tb : Nat} {w : World} {r N sp : Nat} {ls : PId} {M : Nat → List MOp} {s : RoomS} (h : invS B tb w r N sp ls M s) {c d : Nat} (hc : c < N) (hd : d < N) (hcd : c ≠ d) : Calls Tryz.prog 39 #[.pointer (some ⟨r, 0, none⟩), .int .i64 c, .int .i64 d] w fun e w' => (∃ v, e = .returned v) ∧ delS B tb w' r N sp ls M s c d ∧ Below B w w' := by
  obtain ⟨F, I, x, h⟩ := h
  refine (deliver_any h.d.m h.d.ok hc hd hcd).mono ?_
  rintro e w' ⟨he, s', hs', hto⟩
  obtain ⟨h1, h2⟩ := h.goTo hto (h.d.ok.deliver hc hd hcd hs')
  exact ⟨he, ⟨s', hs', h1⟩, h2⟩
/-- The loop of laid: the copies ahead of k have heard. -/
def laidTo (B tb : Nat) (w : World) (r N sp : Nat) (ls : PId) (M : Nat → List MOp) (k : Nat) : Prop := ∃ s, invS B tb w r N sp ls M s ∧ LaidS N M s k

/-- What Nest leaves when a room is laid. -/
theorem nest_laid {w : World} {r N sp : Nat} {x : RoomX} {F : Nat → Prop} {e : Ending} {w' : World} (hn : NestD r N sp F (fun _ => False) (fun _ => []) s0 x 0 0 0 kL true w e w') : e = .returned (.tuple #[.agg #[.int .i64 1, .int .i64 0], .int .i64 0]) ∧ ∃ t v ss t' v', RoomDTo r N sp F (fun _ => False) w w' x.rbs (mL2 t v ss t' v') (sL2 t v ss t' v') := by
  rcases hn with ⟨m, hm, _⟩ | ⟨o, ho, _, _, rfl, _, t, v, D1, ss, t', v', _, _, _, _, hto⟩
  · rcases hm with hm | ⟨_, hm⟩
    · exact absurd hm (by
        have : keyedP (ROf (s0.ops 0)) (0, 0) kL = .ok [] := by rfl
        rw [this]
        simp)
    · exact absurd (show s0.has 0 0 + 2 ≤ 60 by decide) hm
  · exact ⟨rfl, t, v, ss, t', v', hto⟩

theorem invS.show {B tb : Nat} {w : World} {r N sp : Nat} {ls : PId} {t : TypeId} {v : Value} {ss : List PId} {t' : TypeId} {v' : Value} {s : RoomS} (h : invS B tb w r N sp ls (mL2 t v ss t' v') s) (hp : Pow w) {c : Nat} (hc : c < N) (ho : s.ops c = mL2 t v ss t' v' 0) : Calls Tryz.prog 28 #[.pointer (some ⟨r, 0, none⟩), .int .i64 c] w fun e w' => e = .returned (.tuple #[.string ⟨#[123, 108, 58, 91, 93, 125]⟩, .int .i64 0]) ∧ invS B tb w' r N sp ls (mL2 t v ss t' v') s ∧ Below B w w' := by
  obtain ⟨F, I, x, h⟩ := h
  refine (gShows h.d hp h.nice hc).mono ?_
  rintro e w' ⟨rfl, hb⟩
  rw [ho, laid_text]
  exact ⟨rfl, ⟨F, I, x, h.keep hb⟩, hb.mono h.base⟩
/-- The table, laid behind its room. -/
theorem table_inv {w0 w3 w4 : World} {r N sp : Nat} {F : Nat → Prop} {rbs : Nat → Nat} {t : TypeId} {v : Value} {ss : List PId} {t' : TypeId} {v' : Value} (hF : ∀ k, F k → w0.heap.size ≤ k) (hl : w0.heap.size ≤ w3.heap.size) (hto : RoomDTo r N sp F (fun _ => False) w3 w4 rbs (mL2 t v ss t' v') (sL2 t v ss t' v')) {w5 : World} (h45 : Below w4.heap.size w4 w5) : laidTo w0.heap.size w5.heap.size (w5.alloc (.cells #[.int .i64 N, .pointer (some ⟨r, 0, none⟩), .int .i64 1, .int .i64 0] 38)) r N sp (1, 0) (mL2 t v ss t' v') 1 := by
  obtain ⟨F', I', x', hd, _, hk, _⟩ := hto
  have hb : Below w4.heap.size w4 (w5.alloc (.cells #[.int .i64 N, .pointer (some ⟨r, 0, none⟩), .int .i64 1, .int .i64 0] 38)) := h45.alloc h45.size _
  have h45s := h45.size
  have hsz := hk.size
  refine ⟨_, ⟨F', I', x', hd.keep hb, laid_nice t v ss t' v', fun k hF' => ⟨?_, ?_⟩, blk_new w5 _, ?_⟩, laid_first t v ss t' v'⟩
  · rcases hk.sub k hF' with h1 | h1
    · exact hF k h1
    · omega
  · have := hd.m.lt k hF'
    omega
  · have := hb.size
    omega

set_option maxRecDepth 1000000 in
set_option maxHeartbeats 4000000 in
/-- LAID: there is a room, and all its copies have the list. -/
theorem laid_g {w : World} (hp : Pow w) {raw spc : Int} (hr : intOk raw) (hs : intOk spc) : Calls Tryz.prog 14 #[.int .i64 raw, .int .i64 spc] w fun e w' => LaidD w e w' := by
  have HP1 := hid (fun W => pick_g raw hr 3 (by omega) (by omega) W)
  have HP2 := hid (fun W => pick_g spc hs 50 (by omega) (by omega) W)
  have l1 := pickN_lt raw (show 0 < 3 by omega)
  have l2 := pickN_lt spc (show 0 < 50 by omega)
  obtain ⟨N, hN⟩ : ∃ N : Nat, N = 2 + pickN raw 3 := ⟨_, rfl⟩
  obtain ⟨sp, hsp⟩ : ∃ sp : Nat, sp = 1 + pickN spc 50 := ⟨_, rfl⟩
  have eN : (2 : Int) + (pickN raw 3 : Int) = (N : Int) := by omega
  have eS : (1 : Int) + (pickN spc 50 : Int) = (sp : Int) := by omega
  have hw1 : IntKind.i64.wrap (2 + (pickN raw 3 : Int)) = (N : Int) := by rw [Go.IntWalk.i64_in _ (by omega)]; exact eN
  have hw2 : IntKind.i64.wrap (1 + (pickN spc 50 : Int)) = (sp : Int) := by rw [Go.IntWalk.i64_in _ (by omega)]; exact eS
  have HN := hid (fun W => gNew N sp (by omega) (by omega) (by omega) (by omega) W)
  have hN2 : 2 ≤ N := by omega
  have hN4 : N ≤ 4 := by omega
  have HPW := hid hp
  clear hp hr hs eN eS hN hsp
  go_enter Tryz.func14, Tryz.ntmps14
  go_wp2_with fail
  refine (HP1.out _).mono ?_
  rintro e v1 ⟨rfl, hb1⟩
  have HB1 := hid hb1; clear hb1
  go_wp2_with fail
  refine (HP2.out _).mono ?_
  rintro e v2 ⟨rfl, hb2⟩
  have HB2 := hid (HB1.out.trans (hb2.mono HB1.out.size)); clear hb2
  go_wp2_with fail
  refine (HN.out _).mono ?_
  rintro e w3 ⟨hb3, r, x, rfl, hd⟩
  have HB3 := hid (HB2.out.trans (hb3.mono HB2.out.size)); clear hb3
  have HD := hid hd; clear hd
  have HNS := hid (gNest HD.out (c := 0) (by omega) 0 0 kL (by decide) true)
  go_wp2_with fail
  refine HNS.out.mono ?_
  rintro e w4 hn
  obtain ⟨rfl, t, v, ss, t', v', hto⟩ := nest_laid hn
  clear hn
  have HB4 := hid (show Below w.heap.size w w4 by
    obtain ⟨F', I', x', _, _, hk, _⟩ := hto
    have h3 := HB3.out
    have h2 := HB2.out.size
    refine ⟨hk.os.trans h3.os, hk.tape.trans h3.tape, hk.output.trans h3.output, Nat.le_trans h3.size hk.size, fun k hk' => ?_⟩
    rw [hk.other k (Nat.lt_of_lt_of_le hk' h3.size) (fun hF => by have := hF.1; omega)]
    exact h3.block k hk')
  have HB45 := hid (show Below w4.heap.size w4 (w4.alloc (.cells #[.int .i64 1, .int .i64 0] 36)) from (Below.refl _ w4).alloc (Nat.le_refl _) _)
  have HT := hid (table_inv (w0 := w) (fun k hk => Nat.le_trans HB2.out.size hk.1) HB3.out.size hto HB45.out)
  rw [show (w4.alloc (.cells #[.int .i64 1, .int .i64 0] 36)).heap.size = w4.heap.size + 1 by simp] at HT
  have HB5 := hid ((HB4.out.trans (HB45.out.mono HB4.out.size)).alloc (Nat.le_trans HB4.out.size HB45.out.size) (.cells #[.int .i64 N, .pointer (some ⟨r, 0, none⟩), .int .i64 1, .int .i64 0] 38))
  clear hto
  go_wp2_with fail
  go_loopw [12] (fun d wr => ∃ k : Nat, 1 ≤ k ∧ k ≤ N ∧ d = .int .i64 k ∧ laidTo w.heap.size (w4.heap.size + 1) wr r N sp (1, 0) (mL2 t v ss t' v') k ∧ Below w.heap.size w wr) (fun d _ => N - (intOf d).toNat)
  case atStart => exact ⟨1, Nat.le_refl _, by omega, rfl, HT.out, HB5.out⟩
  case round =>
    obtain ⟨k, hk1, hkN, rfl, hlt, hbw⟩ := hrel
    have HB := hid hbw; clear hbw
    obtain ⟨s, hi, hS⟩ := hlt
    have HI := hid hi; have HS := hid hS; clear hi hS
    by_cases hl : k < N
    · have hl' : (k : Int) < (N : Int) := by omega
      have HA := hid (HI.out.ask hl (show 0 < N by omega) (show k ≠ 0 by omega))
      go_wp2_with fail
      refine HA.out.mono ?_
      rintro e w6 ⟨⟨v6, rfl⟩, hi6, hb6⟩
      have HB6 := hid (HB.out.trans hb6); clear hb6
      have HI6 := hid hi6; clear hi6
      have HD6 := hid (HI6.out.deliver hl (show 0 < N by omega) (show k ≠ 0 by omega))
      go_wp2_with fail
      refine HD6.out.mono ?_
      rintro e w7 ⟨⟨v7, rfl⟩, ⟨s2, hd2, hi7⟩, hb7⟩
      have HB7 := hid (HB6.out.trans hb7); clear hb7
      have HI7 := hid hi7; clear hi7
      have HD7 := hid (HI7.out.deliver (show 0 < N by omega) hl (show 0 ≠ k by omega))
      have HX2 := hid hd2; clear hd2
      go_wp2_with fail
      refine HD7.out.mono ?_
      rintro e w8 ⟨⟨v8, rfl⟩, ⟨s3, hd3, hi8⟩, hb8⟩
      have HB8 := hid (HB7.out.trans hb8); clear hb8
      have HI8 := hid hi8; clear hi8
      have HL := hid (show LaidS N (mL2 t v ss t' v') s3 (k + 1) ∧ s3.ops k = mL2 t v ss t' v' 0 from by
        obtain ⟨F, I, x, hR⟩ := HI.out
        exact HS.out.step hR.d.ok hk1 hl HX2.out hd3)
      clear hd3
      have HW := hid (HI8.out.show (HPW.out.keep HB8.out) hl HL.out.2)
      go_wp2_with fail
      refine HW.out.mono ?_
      rintro e w9 ⟨rfl, hi9, hb9⟩
      have HB9 := hid (HB8.out.trans hb9); clear hb9
      have HI9 := hid hi9; clear hi9
      go_wp2
      go_roundw
      case rel => exact ⟨k + 1, by omega, by omega, by go_num, ⟨s3, HI9.out, HL.out.1⟩, HB9.out⟩
      case measure => simp [intOf]; omega
    · have hl' : ¬ (k : Int) < (N : Int) := by omega
      go_wp2
      go_ret2
      refine ⟨HB.out, w4.heap.size + 1, r, N, sp, (1, 0), rfl, hN2, ?_⟩
      obtain ⟨F, I, x, hR⟩ := HI.out
      exact ⟨F, I, _, s, x, hR⟩

end Go.Proofs.YtnkpogjiiohapaaGreatDoor

/-! GClaimA: What the claims of quirekeep's laws share. -/
namespace Go.Proofs.YtnkpogjiiohapaaGreatDoor
open Go.ChangeShapes Go.WideShapes Go.ChangeAt Go.RowKit

theorem post_below {H : Type} {enc : TypeId × Value → H} {P : Program} {f : Func} {s : ChangeSpec} {apart fresh handsOn again : Bool} {W W' : World} {args : Array Value} {v : Value} {ds gs : List (DataW H)} {before pa pv : List MemPlace}
    (hW : DataW.Whole enc P f.params.toList s.vars apart W args.toList ds gs before)
    (hres : ∀ (b : Nat) (sp : Nat → Bool) (hd : Bool), DataW.TrodAll enc P W' b sp hd f.resultTypes.toList (v.resultList f.resultTypes.size) (s.fn H (ds ++ gs)).results [])
    (hargs : ∀ sp : Nat → Bool, (∀ p ∈ before, sp p.block = true) → DataW.TrodAll enc P W' 0 sp true f.params.toList args.toList (s.fn H (ds ++ gs)).args pa)
    (hvars : ∀ sp : Nat → Bool, (∀ p ∈ before, sp p.block = true) → DataW.TrodVars enc P W' sp s.vars (s.fn H (ds ++ gs)).vars pv)
    (hps : before = pa ++ pv) (hb : Below W.heap.size W W')
    (hok : ∀ (j : Nat) (t : TypeId) (r : Value), f.resultTypes[j]? = some t → (v.resultList f.resultTypes.size)[j]? = some r → Value.okWide P W' .any 0 t r) :
    s.post enc P f apart fresh handsOn again W args v W' := by
  have hold : ∀ p ∈ before, (fun b => decide (b < W.heap.size)) p.block = true := fun p hp => by simpa using hW.lt p hp
  have hlt := hW.lt
  refine ⟨ds, gs, before, [], pa, pv, hW, hres _ _ _, hargs _ hold, hvars _ hold, World.keptBut_mono (fun p hp => ⟨hp, ?_⟩) (hb.frame _), fun _ => ?_⟩
  · rw [hps, List.mem_append] at hp
    exact Or.inr hp
  · obtain ⟨_, _, _, _, _, hz, hn⟩ := hW
    refine ⟨hok, _, _, ([] ++ pa) ++ pv, ⟨[] ++ pa, pv, trodAll_append (hargs _ (fun _ _ => rfl)) (hres _ _ _), hvars _ (fun _ _ => rfl), rfl, ?_, ?_⟩, ?_⟩
    · intro b off hp
      have hm : MemPlace.cell b off ∈ before := by rw [hps]; simpa using hp
      rw [hb.frozen (hlt _ hm)]
      exact hz b off hm
    · intro ha
      have := hn ha
      rw [hps] at this
      simpa using this
    · intro p hp _
      rw [hps]
      simpa using hp

theorem w_own : ownKnob Tryz.prog.godebug = none := by kernel_rfl
theorem g_pow : Tryz.prog.globalNamed "internal/strconv.uint64pow10" = some 1 := by kernel_rfl
theorem g_powT : (Tryz.prog.globals[1]?).map (·.type) = some 354 := by kernel_rfl
theorem cells_pow : Tryz.prog.cellsOf 354 = 20 := by kernel_rfl
theorem cells_u64 : Tryz.prog.cellsOf 315 = 1 := by kernel_rfl
theorem laid_tail {P : Program} {n : String} {d : DataW Unit} {r : List (String × DataW Unit)} {w : World} (h : laidMet P ((n, d) :: r) w) : laidMet P r w := by
  obtain ⟨ps, ⟨g, t, cs, fuel, p, q, _, _, _, _, h5, rfl⟩, hnd, hall⟩ := h
  exact ⟨q, h5, (List.nodup_append.1 hnd).2.1, fun b off hm => hall b off (List.mem_append_right _ hm)⟩

theorem bytes_stp : Tryz.prog.bytesOf 32 = 40 := by kernel_rfl

/-- The tables of math/bits. -/
def bits32 : List Int := [0, 1, 28, 2, 29, 14, 24, 3, 30, 22, 20, 15, 25, 17, 4, 8, 31, 27, 13, 23, 21, 19, 16, 7, 26, 12, 18, 6, 11, 5, 10, 9]
def bits64 : List Int := [0, 1, 56, 2, 57, 49, 28, 3, 61, 58, 42, 50, 38, 29, 17, 4, 62, 47, 59, 36, 45, 43, 51, 22, 53, 39, 33, 30, 24, 18, 12, 5, 63, 55, 48, 27, 60, 41, 37, 16, 46, 35, 44, 21, 52, 32, 23, 11, 54, 26, 40, 15, 34, 20, 31, 10, 25, 14, 19, 9, 13, 8, 7, 6]
/-- A table laid into its block. -/
def layTab (k : IntKind) (zs : List Int) : Obj → Obj
  | .cells _ t frozen => .cells (zs.map fun z => Value.int k z).toArray t frozen
  | o => o
def layAll (w : World) : World := { w with heap := ((w.heap.modify 1 (layTab .u64 Lib.pow10Tab)).modify 2 (layTab .u8 bits32)).modify 3 (layTab .u8 bits64) }

end Go.Proofs.YtnkpogjiiohapaaGreatDoor
