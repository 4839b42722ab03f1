/- Our own text (JLawB, QLawM). -/
import Derived.Test.YtnkpogjiiohapaaGreatDoorA40
import Derived.Test.YtnkpogjiiohapaaGreatDoorA39
set_option linter.unusedSimpArgs false
set_option linter.unusedVariables false

/-! JLawB: quirekeep: still. -/
namespace Go.Proofs.YtnkpogjiiohapaaGreatDoor
open Go.RowKit
attribute [local go_sem ↓] Go.wp_at_zero Go.wp_at_succ

def boolN : Value → Nat
  | .bool true => 1
  | _ => 0
/-- What is told behind some links of a pass. -/
def Pass (N : Nat) (s0 : RoomS) (P : Nat → Nat → Prop) (b : Bool) (s : RoomS) : Prop := (b = false ∧ s = s0 ∧ ∀ c d, c < N → d < N → c ≠ d → P c d → s0.ms c d = []) ∨ (b = true ∧ wtS N s < wtS N s0)
theorem Pass.mono {N : Nat} {s0 : RoomS} {P P' : Nat → Nat → Prop} {b : Bool} {s : RoomS} (h : Pass N s0 P b s) (hp : ∀ c d, c < N → d < N → c ≠ d → P' c d → P c d) : Pass N s0 P' b s := by
  rcases h with ⟨h1, h2, h3⟩ | h
  · exact .inl ⟨h1, h2, fun c d hc hd hcd h => h3 c d hc hd hcd (hp c d hc hd hcd h)⟩
  · exact .inr h
theorem Pass.went {N : Nat} {s0 : RoomS} {P P' : Nat → Nat → Prop} {b : Bool} {s s' : RoomS} (h : Pass N s0 P b s) (hl : wtS N s' < wtS N s) : Pass N s0 P' true s' := by
  rcases h with ⟨_, h2, _⟩ | h
  · rw [h2] at hl; exact .inr ⟨rfl, hl⟩
  · exact .inr ⟨rfl, Nat.lt_trans hl h.2⟩
theorem Pass.none {N : Nat} {s0 : RoomS} {P P' : Nat → Nat → Prop} {b : Bool} {s : RoomS} {k j : Nat} (h : Pass N s0 P b s) (he : s.ms k j = []) (hp : ∀ c d, c < N → d < N → c ≠ d → P' c d → P c d ∨ (c = k ∧ d = j)) : Pass N s0 P' b s := by
  rcases h with ⟨h1, h2, h3⟩ | h
  · refine .inl ⟨h1, h2, fun c d hc hd hcd h => ?_⟩
    rcases hp c d hc hd hcd h with h | ⟨rfl, rfl⟩
    · exact h3 c d hc hd hcd h
    · rw [← h2]; exact he
  · exact .inr h

/-- What holds of a room behind some deliveries. -/
def StillI (J : RoomS → Prop) (Z : Nat → Prop) (tb : Nat) (w w' : World) (r N sp : Nat) (ls : PId) (M : Nat → List MOp) (s : RoomS) : Prop := QInv Z tb w' r N sp ls M s ∧ J s ∧ Zept Z w w'
/-- What a delivery leaves. -/
def DelJ (J : RoomS → Prop) (Z : Nat → Prop) (tb : Nat) (w : World) (r N sp : Nat) (ls : PId) (M : Nat → List MOp) (s : RoomS) (c d : Nat) (f : Int) (w' : World) : Prop := ∃ s', StillI J Z tb w w' r N sp ls M s' ∧ ((f = 12 ∧ s' = s ∧ s.ms c d = []) ∨ (f = 0 ∧ wtS N s' < wtS N s))
/-- The least that there may be. -/
theorem least {α : Type} (Q : α → World → Prop) (wt : α → Nat) : ∃ μ : World → Nat, ∀ W s, Q s W → μ W ≤ wt s ∧ ∃ s0, Q s0 W ∧ wt s0 = μ W := by
  have key : ∀ W, ∃ m : Nat, ∀ s, Q s W → m ≤ wt s ∧ ∃ s0, Q s0 W ∧ wt s0 = m := fun W => by
    by_cases h : ∃ s, Q s W
    · obtain ⟨s, hs⟩ := h
      have go : ∀ n, (∃ s0, Q s0 W ∧ wt s0 ≤ n) → ∃ m : Nat, (∃ s0, Q s0 W ∧ wt s0 = m) ∧ ∀ s, Q s W → m ≤ wt s := by
        intro n
        induction n with
        | zero => exact fun ⟨s0, h1, h2⟩ => ⟨0, ⟨s0, h1, by omega⟩, fun _ _ => Nat.zero_le _⟩
        | succ n ih =>
          intro ⟨s0, h1, h2⟩
          by_cases hx : ∃ s1, Q s1 W ∧ wt s1 ≤ n
          · exact ih hx
          · refine ⟨n + 1, ⟨s0, h1, ?_⟩, fun s hs => ?_⟩
            · have h3 : ¬ wt s0 ≤ n := fun h => hx ⟨s0, h1, h⟩
              omega
            · have h3 : ¬ wt s ≤ n := fun h => hx ⟨s, hs, h⟩
              omega
      obtain ⟨m, h1, h2⟩ := go (wt s) ⟨s, hs, Nat.le_refl _⟩
      exact ⟨m, fun s hs => ⟨h2 s hs, h1⟩⟩
    · exact ⟨0, fun s hs => absurd ⟨s, hs⟩ h⟩
  exact ⟨fun W => Classical.choose (key W), fun W => Classical.choose_spec (key W)⟩
section
theorem StillI.del {J : RoomS → Prop} {Z : Nat → Prop} {tb : Nat} {w : World} {r N sp : Nat} {ls : PId} {M : Nat → List MOp} {s : RoomS} (hJ : ∀ s s' c d, c < N → d < N → c ≠ d → RoomOk N M s → J s → DeliverTo N s c d s' → J s') {w0 : World} (h : StillI J Z tb w0 w r N sp ls M s) {c d : Nat} (hc : c < N) (hd : d < N) (hcd : c ≠ d) : Calls Tryz.prog 39 #[.pointer (some ⟨r, 0, none⟩), .int .i64 c, .int .i64 d] w fun e w' => ∃ f : Int, e = .returned (.int .i64 f) ∧ (f = 0 ∨ f = 12) ∧ DelJ J Z tb w0 r N sp ls M s c d f w' := by
  refine (invS.deliverE hc hd hcd h.1.i).mono ?_
  rintro e w' ⟨rfl, ⟨s', hs', hi⟩, hz⟩
  have hok := h.1.i.ok
  refine ⟨_, rfl, ?_, s', ⟨⟨hi, h.1.l.went (deliver_went (M := M) hs')⟩, hJ s s' c d hc hd hcd hok h.2.1 hs', h.2.2.trans hz⟩, ?_⟩
  · split
    · exact .inr rfl
    · exact .inl rfl
  · by_cases he : s.ms c d = []
    · rw [if_pos he]
      refine .inl ⟨rfl, ?_, he⟩
      unfold DeliverTo at hs'
      rw [he] at hs'
      exact hs'
    · rw [if_neg he]
      exact .inr ⟨rfl, deliver_wt hc hd hcd hs' he⟩
end

set_option maxRecDepth 1000000 in
set_option maxHeartbeats 8000000 in
/-- STILL: all that waits arrives. -/
theorem still_g {J : RoomS → Prop} {Z : Nat → Prop} {tb : Nat} {w : World} {r N sp : Nat} {ls : PId} {M : Nat → List MOp} {s : RoomS} (hJ : ∀ s s' c d, c < N → d < N → c ≠ d → RoomOk N M s → J s → DeliverTo N s c d s' → J s') (h : QInv Z tb w r N sp ls M s) (hj : J s) :
    Calls Tryz.prog 26 #[.pointer (some ⟨tb, 0, none⟩)] w fun e w' => (∃ v, e = .returned v) ∧ ∃ s', StillI J Z tb w w' r N sp ls M s' ∧ Idle N s' := by
  have hN4 := h.i.hN
  have HJ := hid hJ
  have HS := hid (show StillI J Z tb w w r N sp ls M s from ⟨h, hj, Zept.of (Below.refl _ _) h.i.zlt⟩)
  obtain ⟨μ, hmu⟩ := least (fun s W => StillI J Z tb w W r N sp ls M s) (wtS N)
  have HM := hid hmu
  clear hJ h hj hmu
  go_enter Tryz.func26, Tryz.ntmps26
  go_wp2_with fail
  go_loopw [2] (fun more wr => ∃ (b : Bool) (s : RoomS), more = .bool b ∧ StillI J Z tb w wr r N sp ls M s ∧ (b = false → Idle N s)) (fun more W => 2 * μ W + boolN more)
  case atStart => exact ⟨true, s, rfl, HS.out, fun h => by cases h⟩
  case round =>
    obtain ⟨b, s1, rfl, hs1, hid1⟩ := hrel
    cases b with
    | false =>
      have HS1 := hid hs1; have HI1 := hid (hid1 rfl); clear hs1 hid1
      go_wp2
      go_end0
      exact (show _ ∧ _ from ⟨⟨_, rfl⟩, s1, HS1.out, HI1.out⟩)
    | true =>
      obtain ⟨hmu1, s0, hs0, hmu0⟩ := HM.out wr s1 hs1
      have HS0 := hid hs0; have HM0 := hid hmu0
      clear hs1 hid1 hmu1 hs0 hmu0
      obtain ⟨wo, hwo⟩ : ∃ wo, wo = wr := ⟨_, rfl⟩
      subst hwo
      go_wp2_with fail
      go_loopw [2, 3] (fun more c wr => ∃ (b : Bool) (k : Nat) (s : RoomS), k ≤ N ∧ more = .bool b ∧ c = .int .i64 k ∧ StillI J Z tb w wr r N sp ls M s ∧ Pass N s0 (fun c _ => c < k) b s) (fun _ c _ => N - (intOf c).toNat)
      case atStart => exact ⟨false, 0, s0, Nat.zero_le _, rfl, rfl, HS0.out, .inl ⟨rfl, rfl, fun c d _ _ _ h => absurd h (Nat.not_lt_zero _)⟩⟩
      case round =>
        obtain ⟨b, k, s2, hk, rfl, rfl, hs2, hp2⟩ := hrel
        have t0 := (hs2.1.i.tab.cells).1
        have htl := blk_lt hs2.1.i.tab
        have HS2 := hid hs2; have HP2 := hid hp2; clear hs2 hp2
        obtain ⟨wp, hwp⟩ : ∃ wp, wp = wr := ⟨_, rfl⟩
        subst hwp
        by_cases hkl : k < N
        · have hkl' : (k : Int) < (N : Int) := by omega
          go_wp2_with fail
          go_loopw [2, 4] (fun more d wr => ∃ (b : Bool) (j : Nat) (s : RoomS), j ≤ N ∧ more = .bool b ∧ d = .int .i64 j ∧ StillI J Z tb w wr r N sp ls M s ∧ Pass N s0 (fun c d => c < k ∨ (c = k ∧ d < j)) b s) (fun _ d _ => N - (intOf d).toNat)
          case atStart => exact ⟨b, 0, s2, Nat.zero_le _, rfl, rfl, HS2.out, HP2.out.mono fun c d _ _ _ h => h.elim id fun h => absurd h.2 (Nat.not_lt_zero _)⟩
          case round =>
            obtain ⟨b3, j, s3, hj, rfl, rfl, hs3, hp3⟩ := hrel
            clear t0 htl
            have t0 := (hs3.1.i.tab.cells).1
            have htl := blk_lt hs3.1.i.tab
            have HS3 := hid hs3; have HP3 := hid hp3; clear hs3 hp3
            obtain ⟨wq, hwq⟩ : ∃ wq, wq = wr := ⟨_, rfl⟩
            subst hwq
            by_cases hjl : j < N
            · have hjl' : (j : Int) < (N : Int) := by omega
              by_cases hkj : k = j
              · have hkj' : (k : Int) = (j : Int) := by omega
                have HKJ := hid hkj
                go_wp2
                go_roundw
                case rel => exact ⟨b3, j + 1, s3, by omega, rfl, by go_num, HS3.out, HP3.out.mono fun c d _ _ hcd h => by have := HKJ.out; omega⟩
                case measure => simp [intOf]; omega
              · have hkj' : ¬ (k : Int) = (j : Int) := by omega
                have hkb : ((k : Int) == (j : Int)) = false := beq_eq_false_iff_ne.2 hkj'
                go_wp2_with fail
                go_loopw [2, 5] (fun more n wr => ∃ (b : Bool) (i : Nat) (s : RoomS), i ≤ 40 ∧ more = .bool b ∧ n = .int .i64 i ∧ StillI J Z tb w wr r N sp ls M s ∧ Pass N s0 (fun c d => c < k ∨ (c = k ∧ d < j)) b s ∧ (0 < i → b = true)) (fun _ n _ => 40 - (intOf n).toNat)
                case atStart => exact ⟨b3, 0, s3, Nat.zero_le _, rfl, rfl, HS3.out, HP3.out, fun h => absurd h (Nat.lt_irrefl _)⟩
                case round =>
                  obtain ⟨b4, i, s4, hi, rfl, rfl, hs4, hp4, hb4⟩ := hrel
                  clear t0 htl
                  obtain ⟨t0, t1, _, _⟩ := hs4.1.i.tab.cells
                  have htl := blk_lt hs4.1.i.tab
                  have HDL := hid (hs4.del HJ.out hkl hjl hkj)
                  have HS4 := hid hs4; have HP4 := hid hp4; have HB4 := hid hb4; clear hs4 hp4 hb4
                  by_cases hil : i < 40
                  · have hil' : (i : Int) < 40 := by omega
                    go_wp2_with fail
                    refine HDL.out.mono ?_
                    rintro e w5 ⟨f, rfl, hf, hdj⟩
                    have HX := hid hdj; clear hdj
                    rcases hf with rfl | rfl
                    · obtain ⟨s5, hs5, hx⟩ := HX.out
                      have hw5 : wtS N s5 < wtS N s4 := by
                        rcases hx with ⟨h, _⟩ | h
                        · cases h
                        · exact h.2
                      have HS5 := hid hs5; have HW5 := hid hw5; clear hs5 hx hw5 HX
                      go_wp2
                      go_roundw
                      case rel =>
                       exact ⟨true, i + 1, s5, by omega, rfl, by go_num, HS5.out, HP4.out.went HW5.out, fun _ => rfl⟩
                      case measure => simp [intOf]; omega
                    · obtain ⟨s5, hs5, hx⟩ := HX.out
                      have hx5 : s5 = s4 ∧ s4.ms k j = [] := by
                        rcases hx with ⟨_, h⟩ | h
                        · exact h
                        · cases h.1
                      obtain ⟨rfl, he5⟩ := hx5
                      have HS5 := hid hs5; have HE5 := hid he5; clear hs5 hx he5 HX
                      go_wp2
                      go_roundw
                      case rel => exact ⟨b4, j + 1, s5, by omega, rfl, by go_num, HS5.out, HP4.out.none HE5.out fun c d _ _ _ h => by omega⟩
                      case measure => simp [intOf]; omega
                  · have hil' : ¬ (i : Int) < 40 := by omega
                    have HBT := hid (HB4.out (by omega))
                    go_wp2
                    go_roundw
                    case rel => exact ⟨b4, j + 1, s4, by omega, rfl, by go_num, HS4.out, (by
                      rcases HP4.out with h | h
                      · have := HBT.out; rw [h.1] at this; cases this
                      · exact .inr h)⟩
                    case measure => simp [intOf]; omega
            · have hjl' : ¬ (j : Int) < (N : Int) := by omega
              go_wp2
              go_roundw
              case rel => exact ⟨b3, k + 1, s3, by omega, rfl, by go_num, HS3.out, HP3.out.mono fun c d _ hd _ h => by omega⟩
              case measure => simp [intOf]; omega
        · have hkl' : ¬ (k : Int) < (N : Int) := by omega
          go_wp2
          go_roundw
          case rel => exact ⟨b, s2, rfl, HS2.out, fun hb => (by
            rcases HP2.out with ⟨_, h2, h3⟩ | h
            · rw [h2]; exact fun c d hc hd hcd => h3 c d hc hd hcd (by omega)
            · rw [h.1] at hb; cases hb)⟩
          case measure =>
            have h1 := (HM.out _ s2 HS2.out).1
            have h2 := HM0.out
            show 2 * μ _ + boolN (.bool b) < 2 * μ _ + boolN (.bool true)
            rcases HP2.out with ⟨hb, h3, _⟩ | ⟨hb, h3⟩
            · rw [hb]; rw [h3] at h1; simp only [boolN]; omega
            · rw [hb]; simp only [boolN]; omega

end Go.Proofs.YtnkpogjiiohapaaGreatDoor

/-! QLawM: quirekeep: laid. -/
namespace Go.Proofs.YtnkpogjiiohapaaGreatDoor
open Go.RowKit
attribute [local go_sem ↓] Go.wp_at_zero Go.wp_at_succ

def kL : ByteArray := ⟨#[108]⟩
def txtL : ByteArray := ⟨#[123, 108, 58, 91, 93, 125]⟩
def chgL (ss : List PId) : QChg := .inr (.inr (.inl ((0, 0), kL, (0, 0), (0, (s0.gt 0 + 1, ((0 : Nat) : Int))), ss)))
def sL1 (t : TypeId) (v : Value) : RoomS := wroteS s0 0 (.inl true) t v
def sL2 (t : TypeId) (v : Value) (ss : List PId) (t' : TypeId) (v' : Value) : RoomS := wroteS (sL1 t v) 0 (chgL ss) t' v'
def mL1 (t : TypeId) (v : Value) : Nat → List MOp := doneM (fun _ => []) s0 0 (.inl true) t v
def mL2 (t : TypeId) (v : Value) (ss : List PId) (t' : TypeId) (v' : Value) : Nat → List MOp := doneM (mL1 t v) (sL1 t v) 0 (chgL ss) t' v'

theorem laid_first {N : Nat} (t : TypeId) (v : Value) (ss : List PId) (t' : TypeId) (v' : Value) : LaidS N (mL2 t v ss t' v') (sL2 t v ss t' v') 1 := by
  refine ⟨fun a b => rfl, rfl, rfl, fun e he h0 => ?_, fun e h1 he i hi => ?_, fun e h1 he => ?_⟩
  · unfold mL2 mL1 doneM
    rw [addM_ne _ _ h0, addM_ne _ _ h0]
  · unfold sL2 sL1 wroteS copyS
    simp only
    rw [upd_ne _ _ (show e ≠ 0 by omega), upd_ne _ _ (show e ≠ 0 by omega)]
    rfl
  · obtain rfl : e = 0 := by omega
    rfl
theorem laid_has {N : Nat} {t : TypeId} {v : Value} {ss : List PId} {t' : TypeId} {v' : Value} {s : RoomS} (h : LaidS N (mL2 t v ss t' v') s N) : HasL N (1, 0) s := fun c hc => by
  rw [h.done c hc hc]
  exact ⟨_, List.mem_cons_self, rfl, rfl⟩
theorem kL_key : kL.toList.isEmpty = false := by
  cases h : kL.toList.isEmpty
  · rfl
  · rw [isEmpty_size] at h
    cases h
theorem laid_R (t : TypeId) (v : Value) (ss : List PId) (t' : TypeId) (v' : Value) : ROf (mL2 t v ss t' v' 0) = [⟨(0, 0), false, [⟨kL, (0, 0), [⟨(2, 0), 0, (1, 0)⟩]⟩]⟩, ⟨(1, 0), true, []⟩] := by
  have e : ROf (mL2 t v ss t' v' 0) = [doesAt ⟨(2, 0), 3, false, (0, 0), kL, (0, 0), (0, 0), 0, (1, 0), ss⟩ ⟨(0, 0), false, []⟩, ⟨(1, 0), true, []⟩] := rfl
  rw [e]
  unfold doesAt
  rw [if_neg (show ¬ (3 : Int) = 2 by decide), if_pos (by rw [kL_key])]
  rfl
theorem laid_sub (R : List PObj) (h : objOf R (1, 0) = some ⟨(1, 0), true, []⟩) (r : Nat) : textG R (r + 1) (1, 0) = ⟨#[91, 93]⟩ := by
  rw [textG_some h]
  rfl
theorem laid_text (t : TypeId) (v : Value) (ss : List PId) (t' : TypeId) (v' : Value) : textG (ROf (mL2 t v ss t' v' 0)) 4 (0, 0) = txtL := by
  rw [laid_R, textG_some (o := ⟨(0, 0), false, [⟨kL, (0, 0), [⟨(2, 0), 0, (1, 0)⟩]⟩]⟩) rfl]
  have h1 := laid_sub [⟨(0, 0), false, [⟨kL, (0, 0), [⟨(2, 0), 0, (1, 0)⟩]⟩]⟩, ⟨(1, 0), true, []⟩] rfl 2
  simp only [objG, bodyG, ordP, sortP, List.mergeSort_singleton, Bool.false_eq_true, if_false, slotG, valsG, hsG, itemText]
  simp [seenS, joinB, idEq, h1, txtL, slotG, valsG, hsG, itemText]
  rfl
theorem laid_nice {N : Nat} (t : TypeId) (v : Value) (ss : List PId) (t' : TypeId) (v' : Value) : NiceM N (mL2 t v ss t' v') := by
  have h0 : intOk 0 := by unfold intOk; omega
  unfold mL2 mL1 doneM
  refine NiceM.add (NiceM.add (fun c _ o ho => by cases ho) ?_) ?_
  · exact ⟨h0, by show (0 : Nat) ≤ 4; decide⟩
  · exact ⟨h0, by show (1 : Nat) ≤ 4; decide⟩

/-- The steps, as they lie. -/
def isSteps (w : World) (a : Option Addr) (n : Nat) : Prop := ∀ i, i < n → ∃ g o, ∃ p : Stp, a = some ⟨g, o, none⟩ ∧ p.ok ∧ w.cell? ⟨g, o + i * 5, none⟩ = some (.int .i64 p.k) ∧ w.cell? ⟨g, o + i * 5 + 1, none⟩ = some (.int .i64 p.c) ∧ w.cell? ⟨g, o + i * 5 + 2, none⟩ = some (.int .i64 p.d) ∧ w.cell? ⟨g, o + i * 5 + 3, none⟩ = some (.int .i64 p.a) ∧ w.cell? ⟨g, o + i * 5 + 4, none⟩ = some (.int .i64 p.n)
/-- What laid answers. -/
def LaidD (w : World) (e : Ending) (w' : World) : Prop := Below w.heap.size w w' ∧ ∃ tb r N sp ls, e = .returned (.tuple #[.pointer (some ⟨tb, 0, none⟩), .bool true]) ∧ 2 ≤ N ∧ hasInv (fun k => k < w.heap.size ∨ k = tb) tb w' r N sp ls
/-- The loop of laid: the copies ahead of k have heard. -/
def laidTo (Z : Nat → Prop) (tb : Nat) (w : World) (r N sp : Nat) (ls : PId) (M : Nat → List MOp) (k : Nat) : Prop := ∃ s, invS Z tb w r N sp ls M s ∧ LaidS N M s k

/-- What Nest leaves when a room is laid. -/
theorem nest_laid {w : World} {r N sp : Nat} {x : RoomX} {F : Nat → Prop} {e : Ending} {w' : World} (hn : NestD r N sp F (fun _ => False) (fun _ => []) s0 x 0 0 0 kL true w e w') : e = .returned (.tuple #[.agg #[.int .i64 1, .int .i64 0], .int .i64 0]) ∧ ∃ t v ss t' v', RoomDTo r N sp F (fun _ => False) w w' x.rbs (mL2 t v ss t' v') (sL2 t v ss t' v') := by
  rcases hn with ⟨m, hm, _⟩ | ⟨o, ho, _, _, rfl, _, t, v, D1, ss, t', v', _, _, _, _, hto⟩
  · rcases hm with hm | ⟨_, hm⟩
    · exact absurd hm (by
        have : keyedP (ROf (s0.ops 0)) (0, 0) kL = .ok [] := by rfl
        rw [this]
        simp)
    · exact absurd (show s0.has 0 0 + 2 ≤ 60 by decide) hm
  · exact ⟨rfl, t, v, ss, t', v', hto⟩

theorem invS.show {Z : Nat → Prop} {tb : Nat} {w : World} {r N sp : Nat} {ls : PId} {t : TypeId} {v : Value} {ss : List PId} {t' : TypeId} {v' : Value} {s : RoomS} (h : invS Z tb w r N sp ls (mL2 t v ss t' v') s) (hp : Pow w) {c : Nat} (hc : c < N) (ho : s.ops c = mL2 t v ss t' v' 0) : Calls Tryz.prog 28 #[.pointer (some ⟨r, 0, none⟩), .int .i64 c] w fun e w' => e = .returned (.tuple #[.string ⟨#[123, 108, 58, 91, 93, 125]⟩, .int .i64 0]) ∧ invS Z tb w' r N sp ls (mL2 t v ss t' v') s ∧ Zept Z w w' := by
  obtain ⟨F, I, x, h⟩ := h
  refine (gShows h.d hp h.nice hc).mono ?_
  rintro e w' ⟨rfl, hb⟩
  rw [ho, laid_text]
  exact ⟨rfl, ⟨F, I, x, h.keep hb⟩, Zept.of hb h.zlt⟩
/-- The table, laid behind its room. -/
theorem table_inv {w0 w3 w4 : World} {r N sp : Nat} {F : Nat → Prop} {rbs : Nat → Nat} {t : TypeId} {v : Value} {ss : List PId} {t' : TypeId} {v' : Value} (hF : ∀ k, F k → w0.heap.size ≤ k) (hl : w0.heap.size ≤ w3.heap.size) (hto : RoomDTo r N sp F (fun _ => False) w3 w4 rbs (mL2 t v ss t' v') (sL2 t v ss t' v')) {w5 : World} (h45 : Below w4.heap.size w4 w5) : laidTo (fun k => k < w0.heap.size ∨ k = w5.heap.size) w5.heap.size (w5.alloc (.cells #[.int .i64 N, .pointer (some ⟨r, 0, none⟩), .int .i64 1, .int .i64 0] 38)) r N sp (1, 0) (mL2 t v ss t' v') 1 := by
  obtain ⟨F', I', x', hd, _, hk, hi⟩ := hto
  have hb : Below w4.heap.size w4 (w5.alloc (.cells #[.int .i64 N, .pointer (some ⟨r, 0, none⟩), .int .i64 1, .int .i64 0] 38)) := h45.alloc h45.size _
  have h45s := h45.size
  have hsz := hk.size
  refine ⟨_, ⟨F', I', x', hd.keep hb, laid_nice t v ss t' v', fun k hF' hz => ?_, fun k hI' hz => ?_, blk_new w5 _, .inr rfl, fun k hz => ?_⟩, laid_first t v ss t' v'⟩
  · have hlt := hd.m.lt k hF'
    rcases hz with hz | hz
    · rcases hk.sub k hF' with h1 | h1
      · have := hF k h1
        omega
      · omega
    · omega
  · have hlt := hd.m.iI k hI'
    rcases hz with hz | hz
    · rcases hi.2 k hI' with h1 | h1
      · exact h1
      · omega
    · omega
  · rcases hz with hz | hz
    · have := hb.size
      omega
    · rw [hz]
      simp

set_option maxRecDepth 1000000 in
set_option maxHeartbeats 4000000 in
/-- LAID: there is a room, and all its copies have the list. -/
theorem laid_g {w : World} (hp : Pow w) {raw spc : Int} (hr : intOk raw) (hs : intOk spc) : Calls Tryz.prog 14 #[.int .i64 raw, .int .i64 spc] w fun e w' => LaidD w e w' := by
  have HP1 := hid (fun W => pick_g raw hr 3 (by omega) (by omega) W)
  have HP2 := hid (fun W => pick_g spc hs 50 (by omega) (by omega) W)
  have l1 := pickN_lt raw (show 0 < 3 by omega)
  have l2 := pickN_lt spc (show 0 < 50 by omega)
  obtain ⟨N, hN⟩ : ∃ N : Nat, N = 2 + pickN raw 3 := ⟨_, rfl⟩
  obtain ⟨sp, hsp⟩ : ∃ sp : Nat, sp = 1 + pickN spc 50 := ⟨_, rfl⟩
  have eN : (2 : Int) + (pickN raw 3 : Int) = (N : Int) := by omega
  have eS : (1 : Int) + (pickN spc 50 : Int) = (sp : Int) := by omega
  have hw1 : IntKind.i64.wrap (2 + (pickN raw 3 : Int)) = (N : Int) := by rw [Go.IntWalk.i64_in _ (by omega)]; exact eN
  have hw2 : IntKind.i64.wrap (1 + (pickN spc 50 : Int)) = (sp : Int) := by rw [Go.IntWalk.i64_in _ (by omega)]; exact eS
  have HN := hid (fun W => gNew N sp (by omega) (by omega) (by omega) (by omega) W)
  have hN2 : 2 ≤ N := by omega
  have hN4 : N ≤ 4 := by omega
  have HPW := hid hp
  clear hp hr hs eN eS hN hsp
  go_enter Tryz.func14, Tryz.ntmps14
  go_wp2_with fail
  refine (HP1.out _).mono ?_
  rintro e v1 ⟨rfl, hb1⟩
  have HB1 := hid hb1; clear hb1
  go_wp2_with fail
  refine (HP2.out _).mono ?_
  rintro e v2 ⟨rfl, hb2⟩
  have HB2 := hid (HB1.out.trans (hb2.mono HB1.out.size)); clear hb2
  go_wp2_with fail
  refine (HN.out _).mono ?_
  rintro e w3 ⟨hb3, r, x, rfl, hd⟩
  have HB3 := hid (HB2.out.trans (hb3.mono HB2.out.size)); clear hb3
  have HD := hid hd; clear hd
  have HNS := hid (gNest HD.out (c := 0) (by omega) 0 0 kL (by decide) true)
  go_wp2_with fail
  refine HNS.out.mono ?_
  rintro e w4 hn
  obtain ⟨rfl, t, v, ss, t', v', hto⟩ := nest_laid hn
  clear hn
  have HB4 := hid (show Below w.heap.size w w4 by
    obtain ⟨F', I', x', _, _, hk, _⟩ := hto
    have h3 := HB3.out
    have h2 := HB2.out.size
    refine ⟨hk.os.trans h3.os, hk.tape.trans h3.tape, hk.output.trans h3.output, Nat.le_trans h3.size hk.size, fun k hk' => ?_⟩
    rw [hk.other k (Nat.lt_of_lt_of_le hk' h3.size) (fun hF => by have := hF.1; omega)]
    exact h3.block k hk')
  have HB45 := hid (show Below w4.heap.size w4 (w4.alloc (.cells #[.int .i64 1, .int .i64 0] 36)) from (Below.refl _ w4).alloc (Nat.le_refl _) _)
  have HT := hid (table_inv (w0 := w) (fun k hk => Nat.le_trans HB2.out.size hk.1) HB3.out.size hto HB45.out)
  rw [show (w4.alloc (.cells #[.int .i64 1, .int .i64 0] 36)).heap.size = w4.heap.size + 1 by simp] at HT
  have HB5 := hid ((HB4.out.trans (HB45.out.mono HB4.out.size)).alloc (Nat.le_trans HB4.out.size HB45.out.size) (.cells #[.int .i64 N, .pointer (some ⟨r, 0, none⟩), .int .i64 1, .int .i64 0] 38))
  clear hto
  go_wp2_with fail
  go_loopw [12] (fun d wr => ∃ k : Nat, 1 ≤ k ∧ k ≤ N ∧ d = .int .i64 k ∧ laidTo (fun k => k < w.heap.size ∨ k = w4.heap.size + 1) (w4.heap.size + 1) wr r N sp (1, 0) (mL2 t v ss t' v') k ∧ Below w.heap.size w wr) (fun d _ => N - (intOf d).toNat)
  case atStart => exact ⟨1, Nat.le_refl _, by omega, rfl, HT.out, HB5.out⟩
  case round =>
    obtain ⟨k, hk1, hkN, rfl, hlt, hbw⟩ := hrel
    have HB := hid hbw; clear hbw
    obtain ⟨s, hi, hS⟩ := hlt
    have HI := hid hi; have HS := hid hS; clear hi hS
    by_cases hl : k < N
    · have hl' : (k : Int) < (N : Int) := by omega
      have HA := hid (invS.ask hl (show 0 < N by omega) (show k ≠ 0 by omega) HI.out)
      go_wp2_with fail
      refine HA.out.mono ?_
      rintro e w6 ⟨⟨v6, rfl⟩, hi6, hb6⟩
      have HB6 := hid (HB.out.trans (hb6.below fun k hk => .inl hk)); clear hb6
      have HI6 := hid hi6; clear hi6
      have HD6 := hid (invS.deliver hl (show 0 < N by omega) (show k ≠ 0 by omega) HI6.out)
      go_wp2_with fail
      refine HD6.out.mono ?_
      rintro e w7 ⟨⟨v7, rfl⟩, ⟨s2, hd2, hi7⟩, hb7⟩
      have HB7 := hid (HB6.out.trans (hb7.below fun k hk => .inl hk)); clear hb7
      have HI7 := hid hi7; clear hi7
      have HD7 := hid (invS.deliver (show 0 < N by omega) hl (show 0 ≠ k by omega) HI7.out)
      have HX2 := hid hd2; clear hd2
      go_wp2_with fail
      refine HD7.out.mono ?_
      rintro e w8 ⟨⟨v8, rfl⟩, ⟨s3, hd3, hi8⟩, hb8⟩
      have HB8 := hid (HB7.out.trans (hb8.below fun k hk => .inl hk)); clear hb8
      have HI8 := hid hi8; clear hi8
      have HL := hid (show LaidS N (mL2 t v ss t' v') s3 (k + 1) ∧ s3.ops k = mL2 t v ss t' v' 0 from by
        obtain ⟨F, I, x, hR⟩ := HI.out
        exact HS.out.step hR.d.ok hk1 hl HX2.out hd3)
      clear hd3
      have HW := hid (HI8.out.show (HPW.out.keep HB8.out) hl HL.out.2)
      go_wp2_with fail
      refine HW.out.mono ?_
      rintro e w9 ⟨rfl, hi9, hb9⟩
      have HB9 := hid (HB8.out.trans (hb9.below fun k hk => .inl hk)); clear hb9
      have HI9 := hid hi9; clear hi9
      go_wp2
      go_roundw
      case rel => exact ⟨k + 1, by omega, by omega, by go_num, ⟨s3, HI9.out, HL.out.1⟩, HB9.out⟩
      case measure => simp [intOf]; omega
    · have hl' : ¬ (k : Int) < (N : Int) := by omega
      go_wp2
      go_ret2
      refine ⟨HB.out, w4.heap.size + 1, r, N, sp, (1, 0), rfl, hN2, ?_⟩
      obtain rfl : k = N := by omega
      exact ⟨_, s, HI.out, laid_has HS.out⟩

end Go.Proofs.YtnkpogjiiohapaaGreatDoor
