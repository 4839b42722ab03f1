/- Our own text (PBookC, PShowB, PLawF, PLawG, PLawH). -/
import Derived.Deep.DeepCutAuto
import Derived.Deep.RegionHeld3
import Derived.Deep.DrawnRows
import Derived.Test.YtnkpogjiiohapaaGreatDoorP13
import Derived.Test.YtnkpogjiiohapaaGreatDoorP14
set_option linter.unusedSimpArgs false
set_option linter.unusedVariables false

/-! PBookC: The book: four lists of an owner. -/
namespace Go.Proofs.YtnkpogjiiohapaaGreatDoor
open Go.RowKit


section
set_option maxRecDepth 1000000 in
set_option maxHeartbeats 8000000 in
theorem values_q {w : World} {gy : Nat} {vp va vb vc : Value} {la : List Nat} {a : Option Addr} {n c : Nat} (hy : w.heap[gy]? = some (.cells #[vp, va, vb, vc] 84 (0, 0))) (hal : la.length < 2000000000000) (hn : n < 2000000000000) (ha : w.ownsRow 0 140 1 vb la.length (la.flatMap nameC)) (hl : Shape 57 3 w (.slice a n c) n) :
    Calls Tryz.prog 109 #[.pointer (some ⟨gy, 1, none⟩), .slice a n c] w fun e w' => e = .returned (.tuple #[]) ∧ Noted 57 53 140 3 #[.int .i64 (-7070 - (la.length : Int)), .int .i64 0, .int .i64 0] w gy (.slice a n c) vb la n (fun x => #[vp, va, x, vc]) w' := by
  obtain ⟨aa, ac, rfl, hal, ham, haf⟩ := owns_form ha
  have y1 : w.cell? ⟨gy, 2, none⟩ = some (.slice aa la.length ac) := by simp [World.cell?, hy]
  have hzw : IntKind.i64.wrap (-7070 - (la.length : Int)) = -7070 - (la.length : Int) := Go.IntWalk.i64_in _ (by omega)
  have HL := hid hl
  have HSH := hid hl
  have HY := hid hy
  have HA := hid ha
  clear hy ha haf
  have HVN := hid (show ∀ q, w.heap.size ≤ q → ¬ ((Value.slice a n c).ownBlock = some q) from fun q hq hh => by have := hl.lt q hh; omega)
  have HZ0 := hid (blk_new w (.cells #[.int .i64 (-7070 - (la.length : Int)), .int .i64 0, .int .i64 0] 57))
  clear hl
  go_enter Tryz.func109, Tryz.ntmps109
  go_wp2_with fail
  go_cut [5] (fun p wc => ∃ gn, p = .slice (some ⟨gn, 0, none⟩) 4 4 ∧ ∃ U, Nm 57 53 3 #[.int .i64 (-7070 - (la.length : Int)), .int .i64 0, .int .i64 0] w (.slice a n c) n gn U wc)
  case first =>
    go_region_held3 (fun W => W.cell? ⟨w.heap.size, 0, none⟩ = some (.int .i64 (-7070 - (la.length : Int))) ∧ W.cell? ⟨w.heap.size, 1, none⟩ = some (.int .i64 0) ∧ W.cell? ⟨w.heap.size, 2, none⟩ = some (.int .i64 0)) (first | exact blk3 (t := 57) (by (repeat (first | exact HZ3.out | exact HZ2.out | exact HZ1.out | exact HZ0.out | exact blk_at (by first | rfl | (simp; done) | (simp; omega)) | refine (alloc_ne (by first | omega | (simp; done) | (simp; omega))).trans ?_ | refine (HT3.out _ (by first | omega | (simp; done) | (simp; omega)) (by first | omega | (simp; done) | (simp; omega))).trans ?_ | refine (HT2.out _ (by first | omega | (simp; done) | (simp; omega)) (by first | omega | (simp; done) | (simp; omega))).trans ?_ | refine (HT1.out _ (by first | omega | (simp; done) | (simp; omega)) (by first | omega | (simp; done) | (simp; omega))).trans ?_))))
      (first
        | (refine step_shape 3 24 53 57 (.agg #[.int .i64 0, .int .i64 0, .int .i64 0]) (by kernel_rfl) Tryz.underlying53 rfl (by omega) (by rfl) (.tmp 16) (.tmp 18) (by rfl) (.slice a n c) n (by rfl) (HL.out.same (Ran.s (by (repeat (first | exact HR2.out | exact HR1.out | exact Ran.refl _ _ _ | refine Ran.alloc ?_ _ | refine Ran.drew ?_)) : Ran 57 (.slice a n c) w _))) _ 1 1 (by omega) (by rfl) (cs := #[.int .i64 (-7070 - (la.length : Int)), .int .i64 0, .int .i64 0]) (by (repeat (first | exact HZ3.out | exact HZ2.out | exact HZ1.out | exact HZ0.out | exact blk_at (by first | rfl | (simp; done) | (simp; omega)) | refine (alloc_ne (by first | omega | (simp; done) | (simp; omega))).trans ?_ | refine (HT3.out _ (by first | omega | (simp; done) | (simp; omega)) (by first | omega | (simp; done) | (simp; omega))).trans ?_ | refine (HT2.out _ (by first | omega | (simp; done) | (simp; omega)) (by first | omega | (simp; done) | (simp; omega))).trans ?_ | refine (HT1.out _ (by first | omega | (simp; done) | (simp; omega)) (by first | omega | (simp; done) | (simp; omega))).trans ?_))) (by rfl) (by simp [Value.oneCell']) (by omega) (by unfold maxLen; omega) ?_; intro a1 c1 w1 hs1 hr1 hb1; have hz1 := hr1.t.size; (try simp at hz1); have HS1 := hid hs1; have HR1 := hid (Ran.trans (by (repeat (first | exact HR2.out | exact HR1.out | exact Ran.refl _ _ _ | refine Ran.alloc ?_ _ | refine Ran.drew ?_)) : Ran 57 (.slice a n c) w _) hr1); have HT1 := hid (fun q hq (hq2 : w.heap.size ≤ q) => hr1.t.other q hq (HVN.out q hq2)); have HZ1 := hid (show w1.heap[w.heap.size]? = some (.cells #[.int .i64 (-7070 - (la.length : Int)), .int .i64 0, .int .i64 0] 57 (0, 0)) from (HT1.out _ (by first | omega | (simp; done) | (simp; omega)) (Nat.le_refl _)).trans (by (repeat (first | exact HZ3.out | exact HZ2.out | exact HZ1.out | exact HZ0.out | exact blk_at (by first | rfl | (simp; done) | (simp; omega)) | refine (alloc_ne (by first | omega | (simp; done) | (simp; omega))).trans ?_ | refine (HT3.out _ (by first | omega | (simp; done) | (simp; omega)) (by first | omega | (simp; done) | (simp; omega))).trans ?_ | refine (HT2.out _ (by first | omega | (simp; done) | (simp; omega)) (by first | omega | (simp; done) | (simp; omega))).trans ?_ | refine (HT1.out _ (by first | omega | (simp; done) | (simp; omega)) (by first | omega | (simp; done) | (simp; omega))).trans ?_)))); have hb1' : (Value.slice a n c).ownBlock = some a1 ∨ w.heap.size < a1 := (hb1.imp id (fun hh => by (try simp at hh); omega)); clear hs1 hr1 hb1)
        | (refine step_shape 3 24 53 57 (.agg #[.int .i64 0, .int .i64 0, .int .i64 0]) (by kernel_rfl) Tryz.underlying53 rfl (by omega) (by rfl) (.tmp 20) (.tmp 23) (by rfl) (.slice a n c) n (by rfl) (HL.out.same (Ran.s (by (repeat (first | exact HR2.out | exact HR1.out | exact Ran.refl _ _ _ | refine Ran.alloc ?_ _ | refine Ran.drew ?_)) : Ran 57 (.slice a n c) w _))) _ 2 2 (by omega) (by rfl) (cs := #[.int .i64 (-7070 - (la.length : Int)), .int .i64 0, .int .i64 0, .int .i64 (-7070 - (la.length : Int)), .int .i64 0, .int .i64 0]) (by (repeat (first | exact HZ3.out | exact HZ2.out | exact HZ1.out | exact HZ0.out | exact blk_at (by first | rfl | (simp; done) | (simp; omega)) | refine (alloc_ne (by first | omega | (simp; done) | (simp; omega))).trans ?_ | refine (HT3.out _ (by first | omega | (simp; done) | (simp; omega)) (by first | omega | (simp; done) | (simp; omega))).trans ?_ | refine (HT2.out _ (by first | omega | (simp; done) | (simp; omega)) (by first | omega | (simp; done) | (simp; omega))).trans ?_ | refine (HT1.out _ (by first | omega | (simp; done) | (simp; omega)) (by first | omega | (simp; done) | (simp; omega))).trans ?_))) (by rfl) (by simp [Value.oneCell']) (by omega) (by unfold maxLen; omega) ?_; intro a2 c2 w2 hs2 hr2 hb2; have hz2 := hr2.t.size; (try simp at hz2); replace HS1 := hid (HS1.out.same ((Ran.s (by (repeat (first | exact Ran.refl _ _ _ | refine Ran.alloc ?_ _ | refine Ran.drew ?_)) : Ran 57 (.slice a n c) w1 _)).trans hr2.s)); have HS2 := hid hs2; have HR2 := hid (Ran.trans (by (repeat (first | exact HR2.out | exact HR1.out | exact Ran.refl _ _ _ | refine Ran.alloc ?_ _ | refine Ran.drew ?_)) : Ran 57 (.slice a n c) w _) hr2); have HT2 := hid (fun q hq (hq2 : w.heap.size ≤ q) => hr2.t.other q hq (HVN.out q hq2)); have HZ2 := hid (show w2.heap[w.heap.size]? = some (.cells #[.int .i64 (-7070 - (la.length : Int)), .int .i64 0, .int .i64 0] 57 (0, 0)) from (HT2.out _ (by first | omega | (simp; done) | (simp; omega)) (Nat.le_refl _)).trans (by (repeat (first | exact HZ3.out | exact HZ2.out | exact HZ1.out | exact HZ0.out | exact blk_at (by first | rfl | (simp; done) | (simp; omega)) | refine (alloc_ne (by first | omega | (simp; done) | (simp; omega))).trans ?_ | refine (HT3.out _ (by first | omega | (simp; done) | (simp; omega)) (by first | omega | (simp; done) | (simp; omega))).trans ?_ | refine (HT2.out _ (by first | omega | (simp; done) | (simp; omega)) (by first | omega | (simp; done) | (simp; omega))).trans ?_ | refine (HT1.out _ (by first | omega | (simp; done) | (simp; omega)) (by first | omega | (simp; done) | (simp; omega))).trans ?_)))); have hb2' : (Value.slice a n c).ownBlock = some a2 ∨ w.heap.size < a2 := (hb2.imp id (fun hh => by (try simp at hh); omega)); clear hs2 hr2 hb2)
        | (refine step_shape 3 24 53 57 (.agg #[.int .i64 0, .int .i64 0, .int .i64 0]) (by kernel_rfl) Tryz.underlying53 rfl (by omega) (by rfl) (.tmp 25) (.tmp 29) (by rfl) (.slice a n c) n (by rfl) (HL.out.same (Ran.s (by (repeat (first | exact HR2.out | exact HR1.out | exact Ran.refl _ _ _ | refine Ran.alloc ?_ _ | refine Ran.drew ?_)) : Ran 57 (.slice a n c) w _))) _ 3 3 (by omega) (by rfl) (cs := #[.int .i64 (-7070 - (la.length : Int)), .int .i64 0, .int .i64 0, .int .i64 (-7070 - (la.length : Int)), .int .i64 0, .int .i64 0, .int .i64 (-7070 - (la.length : Int)), .int .i64 0, .int .i64 0]) (by (repeat (first | exact HZ3.out | exact HZ2.out | exact HZ1.out | exact HZ0.out | exact blk_at (by first | rfl | (simp; done) | (simp; omega)) | refine (alloc_ne (by first | omega | (simp; done) | (simp; omega))).trans ?_ | refine (HT3.out _ (by first | omega | (simp; done) | (simp; omega)) (by first | omega | (simp; done) | (simp; omega))).trans ?_ | refine (HT2.out _ (by first | omega | (simp; done) | (simp; omega)) (by first | omega | (simp; done) | (simp; omega))).trans ?_ | refine (HT1.out _ (by first | omega | (simp; done) | (simp; omega)) (by first | omega | (simp; done) | (simp; omega))).trans ?_))) (by rfl) (by simp [Value.oneCell']) (by omega) (by unfold maxLen; omega) ?_; intro a3 c3 w3 hs3 hr3 hb3; have hz3 := hr3.t.size; (try simp at hz3); replace HS1 := hid (HS1.out.same ((Ran.s (by (repeat (first | exact Ran.refl _ _ _ | refine Ran.alloc ?_ _ | refine Ran.drew ?_)) : Ran 57 (.slice a n c) w2 _)).trans hr3.s)); replace HS2 := hid (HS2.out.same ((Ran.s (by (repeat (first | exact Ran.refl _ _ _ | refine Ran.alloc ?_ _ | refine Ran.drew ?_)) : Ran 57 (.slice a n c) w2 _)).trans hr3.s)); have HS3 := hid hs3; have HR3 := hid (Ran.trans (by (repeat (first | exact HR2.out | exact HR1.out | exact Ran.refl _ _ _ | refine Ran.alloc ?_ _ | refine Ran.drew ?_)) : Ran 57 (.slice a n c) w _) hr3); have HT3 := hid (fun q hq (hq2 : w.heap.size ≤ q) => hr3.t.other q hq (HVN.out q hq2)); have HZ3 := hid (show w3.heap[w.heap.size]? = some (.cells #[.int .i64 (-7070 - (la.length : Int)), .int .i64 0, .int .i64 0] 57 (0, 0)) from (HT3.out _ (by first | omega | (simp; done) | (simp; omega)) (Nat.le_refl _)).trans (by (repeat (first | exact HZ3.out | exact HZ2.out | exact HZ1.out | exact HZ0.out | exact blk_at (by first | rfl | (simp; done) | (simp; omega)) | refine (alloc_ne (by first | omega | (simp; done) | (simp; omega))).trans ?_ | refine (HT3.out _ (by first | omega | (simp; done) | (simp; omega)) (by first | omega | (simp; done) | (simp; omega))).trans ?_ | refine (HT2.out _ (by first | omega | (simp; done) | (simp; omega)) (by first | omega | (simp; done) | (simp; omega))).trans ?_ | refine (HT1.out _ (by first | omega | (simp; done) | (simp; omega)) (by first | omega | (simp; done) | (simp; omega))).trans ?_)))); have hb3' : (Value.slice a n c).ownBlock = some a3 ∨ w.heap.size < a3 := (hb3.imp id (fun hh => by (try simp at hh); omega)); clear hs3 hr3 hb3))
    all_goals (go_wp2_with fail; go_meet)
    all_goals exact ⟨_, rfl, nm_at (blk_new w3 _) ((alloc_ne (by omega)).trans HZ3.out) (HL.out.same (HR3.out.alloc _).s) (HS1.out.same ((Ran.refl 57 (.slice a n c) w3).alloc _).s) (HS2.out.same ((Ran.refl 57 (.slice a n c) w3).alloc _).s) (HS3.out.same ((Ran.refl 57 (.slice a n c) w3).alloc _).s) hb1' hb2' hb3' (HR3.out.alloc _).t (by omega)⟩
  case rest =>
    obtain ⟨gn, rfl, U, hnm⟩ := hcut
    have HVL := hid HL.out.lt
    clear HZ0 HVN HL
    go_wp2
    go_loopw [6] (fun i wr => ∃ k : Nat, k ≤ 4 ∧ i = .int .i64 k ∧ Lp 57 53 3 #[.int .i64 (-7070 - (la.length : Int)), .int .i64 0, .int .i64 0] w (.slice a n c) n gn U k 0 wr) (fun i _ => 4 - (intOf i).toNat)
    case atStart => exact ⟨0, by omega, rfl, hnm, fun i' h => absurd h (Nat.not_lt_zero _), Mk.zero _ _ _ _⟩
    case round =>
      obtain ⟨k, hk, rfl, hlp⟩ := hrel
      obtain ⟨wo, hwo⟩ : ∃ wo, wo = wr := ⟨_, rfl⟩
      subst hwo
      by_cases hlt : k < 4
      · obtain ⟨au, cu, hu, huf⟩ := hlp.nm.form hlt
        have HUF := hid huf; clear huf
        have HLP := hid hlp; clear hlp hnm
        have hk0 : (0 : Int) ≤ (k : Int) := Int.natCast_nonneg _
        have hk4 : (k : Int) < 4 := by omega
        go_wp2
        go_loopw [7] (fun i wq => ∃ j : Nat, j ≤ n + k ∧ i = .int .i64 j ∧ Lp 57 53 3 #[.int .i64 (-7070 - (la.length : Int)), .int .i64 0, .int .i64 0] w (.slice a n c) n gn U k j wq) (fun i _ => n + k - (intOf i).toNat)
        case atStart => exact ⟨0, Nat.zero_le _, rfl, HLP.out⟩
        case round =>
          obtain ⟨j, hj, rfl, hq⟩ := hrel
          have r1 := hq.nm.cell hlt
          rw [hu] at r1
          by_cases hjl : j < n + k
          · obtain ⟨g, rfl⟩ := HUF.out j hjl
            have hsh := hq.nm.s k hlt
            rw [hu] at hsh
            obtain ⟨u0, t0⟩ := hsh.cell (q := 0) hjl (by omega)
            obtain ⟨u1, t1⟩ := hsh.cell (q := 1) hjl (by omega)
            obtain ⟨u2, t2⟩ := hsh.cell (q := 2) hjl (by omega)
            have tf := hsh.fz
            obtain ⟨z0, z1, z2⟩ := blk3 hq.nm.z
            have hzn : w.heap.size ≠ g := fun ee => by
              rcases hq.nm.b k hlt g (by rw [hu]; rfl) with h1 | h1
              · have := HVL.out _ h1; omega
              · omega
            have HQ := hid hq; clear hq
            simp only [Nat.add_zero] at t0
            have hj0 : (0 : Int) ≤ (j : Int) := Int.natCast_nonneg _
            have hj1 : (j : Int) < ((n + k : Nat) : Int) := by omega
            have hgn : gn ≠ g := fun ee => by
              subst ee
              obtain ⟨cur, hc⟩ := hsh.type rfl
              exact absurd (cells_type HQ.out.nm.row hc) (by decide)
            clear hsh
            go_wp2_with fail
            go_region_held3 (fun W => W.cell? ⟨gn, k, none⟩ = some (.slice (some ⟨g, 0, none⟩) (n + k) cu) ∧ W.cell? ⟨w.heap.size, 0, none⟩ = some (.int .i64 (-7070 - (la.length : Int))) ∧ W.cell? ⟨w.heap.size, 1, none⟩ = some (.int .i64 0) ∧ W.cell? ⟨w.heap.size, 2, none⟩ = some (.int .i64 0)) (first | exact ⟨r1, z0, z1, z2⟩ | exact ⟨(World.cell?_of_block (setCells_block [.int .i64 (-7070 - (la.length : Int)), .int .i64 0, .int .i64 0] (j * 3) wr gn hgn)).trans r1, (World.cell?_of_block (setCells_block [.int .i64 (-7070 - (la.length : Int)), .int .i64 0, .int .i64 0] (j * 3) wr w.heap.size hzn)).trans z0, (World.cell?_of_block (setCells_block [.int .i64 (-7070 - (la.length : Int)), .int .i64 0, .int .i64 0] (j * 3) wr w.heap.size hzn)).trans z1, (World.cell?_of_block (setCells_block [.int .i64 (-7070 - (la.length : Int)), .int .i64 0, .int .i64 0] (j * 3) wr w.heap.size hzn)).trans z2⟩) (fail)
            all_goals go_wp2
            all_goals go_roundw
            case rel => exact ⟨j + 1, by omega, by go_num, (HQ.out.next HVL.out (by decide) rfl hlt hu hjl).drew⟩
            case measure => simp [intOf]; omega
          · have hje : j = n + k := by omega
            subst hje
            go_wp2
            go_roundw
            case rel =>
              refine ⟨k + 1, by omega, by go_num, hq.nm, fun i' hi' => ?_, Mk.zero _ _ _ _⟩
              by_cases hik : i' = k
              · subst hik; exact hq.part
              · exact hq.full i' (by omega)
            case measure => simp [intOf]; omega
      · have hk4 : k = 4 := by omega
        subst hk4
        have HNM := hid hlp.nm
        have HMK := hid (show ∀ i, i < 4 → Mk 3 #[.int .i64 (-7070 - (la.length : Int)), .int .i64 0, .int .i64 0].toList wo (U i) (n + i) from hlp.full)
        clear hlp
        have hgv : ¬ ((Value.slice a n c).ownBlock = some gy) := fun hh => by
          obtain ⟨cur, hc⟩ := HSH.out.type hh
          exact absurd (cells_type hc HY.out) (by decide)
        have HY1 := hid ((HNM.out.t.other gy (blk_lt HY.out) hgv).trans HY.out)
        have hva : ∀ q, (Value.slice aa la.length ac).ownBlock = some q → ¬ ((Value.slice a n c).ownBlock = some q) := fun q h1 h2 => by
          obtain ⟨cur, hc⟩ := own_type HA.out h1
          obtain ⟨cur2, hc2⟩ := HSH.out.type h2
          exact absurd (cells_type hc hc2) (by decide)
        have HA1 := hid (row_blk HA.out (w' := wo) fun q hq => HNM.out.t.other q (World.ownsRow.lt HA.out q hq).2 (hva q hq))
        have yy : wo.cell? ⟨gy, 2, none⟩ = some (.slice aa la.length ac) := by simp [World.cell?, HY1.out]
        have hgl := blk_lt HY1.out
        have HO3 := hid (show (wo.alloc (.cells #[.slice (some ⟨gn, 0, none⟩) 4 4] 140)).ownsRow 0 140 1 (.slice aa la.length ac) la.length (la.flatMap nameC) from owns_keep HA1.out (by go_grown))
        have HC3 := hid (show ∀ j u, (nameC gn)[j]? = some u → (wo.alloc (.cells #[.slice (some ⟨gn, 0, none⟩) 4 4] 140)).cell? ⟨wo.heap.size, j, none⟩ = some u from one_cell (by simp [go_sem]))
        have HNP := hid (show some gy ≠ (Value.slice aa la.length ac).ownBlock from fun ee => by
          obtain ⟨cur, hc⟩ := own_type HA1.out ee.symm
          exact absurd (cells_type hc HY1.out) (by decide))
        go_wp2_with (first
          | (at_builtin; refine app_one_at nameC 1 24 79 140 (.slice none 0 0) (by kernel_rfl) Tryz.underlying79 rfl (by omega) (fun _ => rfl) rfl (.tmp 58) (.tmp 60) rfl 0 (.slice aa la.length ac) la rfl HO3.out wo.heap.size 1 gn rfl HC3.out (by simp [nameC, Value.oneCell']) (by omega) (by unfold maxLen; omega) (Nat.zero_le _) ?_; intro v4 w4 ho4 hg4 hn4; have HO4 := hid ho4; have HG4 := hid hg4; have HN4 := hid hn4; have HX4 := hid ((hg4.block gy (by simp; omega) HNP.out).trans ((alloc_ne (by omega)).trans HY1.out)); clear ho4 hg4 hn4; obtain ⟨a4, n4c, rfl, hl4, hc4, hf4⟩ := owns_form HO4.out; clear hl4 hc4 hf4; have c2 : w4.cell? ⟨gy, 2, none⟩ = some (.slice aa la.length ac) := (by simp [World.cell?, HX4.out]); have hfz4 := blk_fz HX4.out 2))
        have hne4 : (Value.slice a4 (la.length + 1) n4c).ownBlock ≠ some gy := fun ee => by
          obtain ⟨cur, hc⟩ := own_type HO4.out ee
          exact absurd (cells_type hc HX4.out) (by decide)
        have hkeep : ∀ (q : Nat) (cur : Array Value) (t : TypeId), wo.heap[q]? = some (.cells cur t (0, 0)) → t ≠ 140 → t ≠ 84 → (w4.setCell ⟨gy, 2, none⟩ (.slice a4 (la.length + 1) n4c)).heap[q]? = wo.heap[q]? := fun q cur t hq h1 h2 => by
          have hqy : q ≠ gy := fun ee => by subst ee; exact h2 (cells_type hq HY1.out)
          have hqv : some q ≠ (Value.slice aa la.length ac).ownBlock := fun ee => by
            obtain ⟨cur2, hc⟩ := own_type HA1.out ee.symm
            exact h1 (cells_type hq hc)
          have hql := blk_lt hq
          exact (setCell_other hqy).trans ((HG4.out.block q (by simp; omega) hqv).trans (alloc_ne (by omega)))
        go_end0
        refine ⟨rfl, .slice a4 (la.length + 1) n4c, gn, U, set2 HX4.out, row_other HO4.out hne4 _, ?_, ?_, ?_, HNM.out.gl, HNM.out.b⟩
        · exact (HNM.out.t.mono fun q hq => .inr (.inl hq)).trans ((Turned.of_below ((Below.refl _ wo).alloc (Nat.le_refl _) _)).trans ((Turned.of_grown HG4.out fun q hq => .inr (.inr hq)).trans (Turned.setC _ (.inl rfl))))
        · exact HN4.out.mono (Nat.le_trans HNM.out.t.size (by simp))
        · refine EntAt.keep ⟨HNM.out.row, HNM.out.s, HMK.out⟩ (hkeep gn _ 53 HNM.out.row (by decide) (by decide)) fun i hi g hg => ?_
          obtain ⟨cur, hc⟩ := (HNM.out.s i hi).type hg
          exact hkeep g _ 57 hc (by decide) (by decide)
end

end Go.Proofs.YtnkpogjiiohapaaGreatDoor

/-! PShowB: The law: shows. -/
namespace Go.Proofs.YtnkpogjiiohapaaGreatDoor
open Go.RowKit
attribute [local go_sem ↓] Go.wp_at_zero Go.wp_at_succ

section
set_option maxRecDepth 1000000 in
set_option maxHeartbeats 8000000 in
theorem shows_show {w : World} {gp : Nat} {F : Nat → Prop} {nt : Nat} (h : isPair w gp F nt) {gy : Nat} (o : LOp) (hkd : o.kind = 9) (hpow : Pow w) :
    Calls Tryz.prog 69 #[.pointer (some ⟨gy, 0, none⟩), .pointer (some ⟨gp, 0, none⟩), .agg #[.int .i64 o.kind, .int .i64 o.r, .int .i64 o.c, .int .i64 o.d, .int .i64 o.i1, .int .i64 o.i2, .int .i64 o.made, .string o.key, .int .i64 o.a, .int .i64 o.b, .bool o.yes]] w fun e w' => e = .returned (.bool true) ∧ ∃ F', isPair w' gp F' nt ∧ Keeps F F' w w' ∧ ∀ k, F' k → F k := by
  obtain ⟨x, r, vt, told, FP, FR, N, sp, P, htl, h⟩ := h
  rw [hkd]
  have HB := hid ((Below.refl w.heap.size w).alloc (Nat.le_refl _) (.cells #[.int .i64 9, .int .i64 o.r, .int .i64 o.c, .int .i64 o.d, .int .i64 o.i1, .int .i64 o.i2, .int .i64 o.made, .string o.key, .int .i64 o.a, .int .i64 o.b, .bool o.yes] 87))
  have HX0 := hid (blk_new w (.cells #[.int .i64 9, .int .i64 o.r, .int .i64 o.c, .int .i64 o.d, .int .i64 o.i1, .int .i64 o.i2, .int .i64 o.made, .string o.key, .int .i64 o.a, .int .i64 o.b, .bool o.yes] 87))
  have HG0 := hid (blk_keep h.blk HB.out)
  have HC := hid (fun W (hb : Below w.heap.size w W) => pair_show h hb (hpow.keep hb) o.c)
  have HNF := hid (show ∀ k, w.heap.size ≤ k → ¬ F k from fun k hk hF => by have := h.lt k hF; omega)
  have hgl := h.lt _ h.fg
  have HGW := hid h.blk
  clear h
  go_enter Tryz.func69, Tryz.ntmps69
  go_wp2_with fail
  go_region_held3 (fun W => W.cell? ⟨gp, 0, none⟩ = some (.pointer (some ⟨x, 0, none⟩)) ∧ W.cell? ⟨gp, 1, none⟩ = some (.pointer (some ⟨r, 0, none⟩)) ∧ W.cell? ⟨w.heap.size, 0, none⟩ = some (.int .i64 9) ∧ W.cell? ⟨w.heap.size, 2, none⟩ = some (.int .i64 o.c) ∧ W.cell? ⟨w.heap.size, 4, none⟩ = some (.int .i64 o.i1) ∧ W.cell? ⟨w.heap.size, 5, none⟩ = some (.int .i64 o.i2) ∧ W.cell? ⟨w.heap.size, 7, none⟩ = some (.string o.key) ∧ W.cell? ⟨w.heap.size, 8, none⟩ = some (.int .i64 o.a) ∧ W.cell? ⟨w.heap.size, 9, none⟩ = some (.int .i64 o.b) ∧ W.cell? ⟨w.heap.size, 10, none⟩ = some (.bool o.yes)) (first | exact opS HG0.out HX0.out | exact opS HG1.out HX1.out)
    (first | (go_at_call 28; refine (HC.out _ HB.out.drew).mono ?_; rintro e w1 ⟨s, m, rfl, hg1, hk1, hs1, hr1⟩; have HG1 := hid (hg1.trans HGW.out); have HX1 := hid ((hk1 w.heap.size (blk_lt HX0.out) (HNF.out _ (Nat.le_refl _))).trans HX0.out); have HR1 := hid hr1; clear hg1 hk1 hr1))
  go_wp2_with fail
  go_region_held3 (fun W => W.cell? ⟨gp, 0, none⟩ = some (.pointer (some ⟨x, 0, none⟩)) ∧ W.cell? ⟨gp, 1, none⟩ = some (.pointer (some ⟨r, 0, none⟩)) ∧ W.cell? ⟨w.heap.size, 0, none⟩ = some (.int .i64 9) ∧ W.cell? ⟨w.heap.size, 2, none⟩ = some (.int .i64 o.c) ∧ W.cell? ⟨w.heap.size, 4, none⟩ = some (.int .i64 o.i1) ∧ W.cell? ⟨w.heap.size, 5, none⟩ = some (.int .i64 o.i2) ∧ W.cell? ⟨w.heap.size, 7, none⟩ = some (.string o.key) ∧ W.cell? ⟨w.heap.size, 8, none⟩ = some (.int .i64 o.a) ∧ W.cell? ⟨w.heap.size, 9, none⟩ = some (.int .i64 o.b) ∧ W.cell? ⟨w.heap.size, 10, none⟩ = some (.bool o.yes)) (first | exact opS HG1.out HX1.out | exact opS HG2.out HX2.out)
    (first | (go_at_call 103; refine (HR1.out _ ((Below.refl _ w1).drew)).mono ?_; rintro e w2 ⟨rfl, ⟨F', hp2, hk2, hs2⟩, hnw⟩; have HG2 := hid hp2.blk; have HX2 := hid ((hnw w.heap.size (Nat.le_refl _) (blk_lt HX1.out)).trans HX1.out); have HP2 := hid hp2; have HK2 := hid hk2; have HS2 := hid hs2; clear hp2 hk2 hnw hs2))
  go_wp2
  go_ret
  exact ⟨rfl, F', ⟨x, r, vt, told, FP, FR, N, sp, P, htl, HP2.out⟩, HK2.out, HS2.out⟩

set_option maxRecDepth 1000000 in
set_option maxHeartbeats 8000000 in
theorem shows_elements {w : World} {gp : Nat} {F : Nat → Prop} {nt : Nat} (h : isPair w gp F nt) {gy : Nat} (o : LOp) (hkd : o.kind = 10) {vp va vb vc : Value} {la : List Nat} (hy : w.heap[gy]? = some (.cells #[vp, va, vb, vc] 84 (0, 0))) (hyF : ¬ F gy) (hal : la.length < 2000000000000) (ha : w.ownsRow 0 138 1 va la.length (la.flatMap nameC)) (haF : ∀ k, (va).ownBlock = some k → ¬ F k) :
    Calls Tryz.prog 69 #[.pointer (some ⟨gy, 0, none⟩), .pointer (some ⟨gp, 0, none⟩), .agg #[.int .i64 o.kind, .int .i64 o.r, .int .i64 o.c, .int .i64 o.d, .int .i64 o.i1, .int .i64 o.i2, .int .i64 o.made, .string o.key, .int .i64 o.a, .int .i64 o.b, .bool o.yes]] w fun e w' => e = .returned (.bool true) ∧ ∃ wm v n F', isPair wm gp F' nt ∧ Keeps F F' w wm ∧ (∀ k, F' k → F k) ∧ (∀ k, v.ownBlock = some k → w.heap.size ≤ k) ∧ wm.heap[gy]? = w.heap[gy]? ∧ Noted 36 65 138 2 #[.int .i64 (-7070), .int .i64 la.length] wm gy v va la n (fun x => #[vp, x, vb, vc]) w' := by
  obtain ⟨x, r, vt, told, FP, FR, N, sp, P, htl, h⟩ := h
  rw [hkd]
  have HB := hid ((Below.refl w.heap.size w).alloc (Nat.le_refl _) (.cells #[.int .i64 10, .int .i64 o.r, .int .i64 o.c, .int .i64 o.d, .int .i64 o.i1, .int .i64 o.i2, .int .i64 o.made, .string o.key, .int .i64 o.a, .int .i64 o.b, .bool o.yes] 87))
  have HX0 := hid (blk_new w (.cells #[.int .i64 10, .int .i64 o.r, .int .i64 o.c, .int .i64 o.d, .int .i64 o.i1, .int .i64 o.i2, .int .i64 o.made, .string o.key, .int .i64 o.a, .int .i64 o.b, .bool o.yes] 87))
  have HG0 := hid (blk_keep h.blk HB.out)
  have HC := hid (fun W (hb : Below w.heap.size w W) => pair_elements h hb o.c o.i1 o.i2)
  have HNF := hid (show ∀ k, w.heap.size ≤ k → ¬ F k from fun k hk hF => by have := h.lt k hF; omega)
  have hgl := h.lt _ h.fg
  have HGW := hid h.blk
  have HY := hid hy
  have HYF := hid hyF
  have HA := hid ha
  have HAF := hid haF
  have hyl := blk_lt hy
  clear h hy hyF ha haF
  go_enter Tryz.func69, Tryz.ntmps69
  go_wp2_with fail
  go_region_held3 (fun W => W.cell? ⟨gp, 0, none⟩ = some (.pointer (some ⟨x, 0, none⟩)) ∧ W.cell? ⟨gp, 1, none⟩ = some (.pointer (some ⟨r, 0, none⟩)) ∧ W.cell? ⟨w.heap.size, 0, none⟩ = some (.int .i64 10) ∧ W.cell? ⟨w.heap.size, 2, none⟩ = some (.int .i64 o.c) ∧ W.cell? ⟨w.heap.size, 4, none⟩ = some (.int .i64 o.i1) ∧ W.cell? ⟨w.heap.size, 5, none⟩ = some (.int .i64 o.i2) ∧ W.cell? ⟨w.heap.size, 7, none⟩ = some (.string o.key) ∧ W.cell? ⟨w.heap.size, 8, none⟩ = some (.int .i64 o.a) ∧ W.cell? ⟨w.heap.size, 9, none⟩ = some (.int .i64 o.b) ∧ W.cell? ⟨w.heap.size, 10, none⟩ = some (.bool o.yes)) (first | exact opS HG0.out HX0.out | exact opS HG1.out HX1.out)
    (first | (go_at_call 29; refine (HC.out _ HB.out.drew).mono ?_; rintro e w1 ⟨v, m, l, rfl, hv1, hg1, hk1, hs1, hr1⟩; have HG1 := hid (hg1.trans HGW.out); have HX1 := hid ((hk1 w.heap.size (blk_lt HX0.out) (HNF.out _ (Nat.le_refl _))).trans HX0.out); have HR1 := hid hr1; have HV1 := hid (owns_mono hv1 (show w.heap.size ≤ _ by first | omega | (simp; done) | (simp; omega))); clear hg1 hk1 hr1 hv1; obtain ⟨av, cv, rfl, hvc, hvm, hvf⟩ := owns_form HV1.out; clear hvc hvm hvf))
  go_wp2_with fail
  go_region_held3 (fun W => W.cell? ⟨gp, 0, none⟩ = some (.pointer (some ⟨x, 0, none⟩)) ∧ W.cell? ⟨gp, 1, none⟩ = some (.pointer (some ⟨r, 0, none⟩)) ∧ W.cell? ⟨w.heap.size, 0, none⟩ = some (.int .i64 10) ∧ W.cell? ⟨w.heap.size, 2, none⟩ = some (.int .i64 o.c) ∧ W.cell? ⟨w.heap.size, 4, none⟩ = some (.int .i64 o.i1) ∧ W.cell? ⟨w.heap.size, 5, none⟩ = some (.int .i64 o.i2) ∧ W.cell? ⟨w.heap.size, 7, none⟩ = some (.string o.key) ∧ W.cell? ⟨w.heap.size, 8, none⟩ = some (.int .i64 o.a) ∧ W.cell? ⟨w.heap.size, 9, none⟩ = some (.int .i64 o.b) ∧ W.cell? ⟨w.heap.size, 10, none⟩ = some (.bool o.yes)) (first | exact opS HG1.out HX1.out | exact opS HG2.out HX2.out)
    (first | (go_at_call 104; refine (HR1.out _ ((Below.refl _ w1).drew)).mono ?_; rintro e w2 ⟨⟨v2, rfl, hv2, hle⟩, ⟨F', hp2, hk2, hs2⟩, hnw⟩; have HG2 := hid hp2.blk; have HX2 := hid ((hnw w.heap.size (Nat.le_refl _) (blk_lt HX1.out)).trans HX1.out); have HP2 := hid hp2; have HK2 := hid hk2; have HS2 := hid hs2; have HV2 := hid hv2; have HVW := hid (row_blk HV1.out (fun q hq => hnw q (World.ownsRow.lt HV1.out q hq).1 (World.ownsRow.lt HV1.out q hq).2)); clear hp2 hk2 hnw hs2 hv2; obtain ⟨a2, c2, rfl, hvc2, hvm2, hvf2⟩ := owns_form HV2.out; clear hvc2 hvm2 hvf2))
  have HSI := hid (sameIds_q (owns_mono HVW.out (Nat.zero_le _)) HV2.out)
  have HY2 := hid ((HK2.out.other gy hyl HYF.out).trans HY.out)
  have HA2 := hid (row_blk HA.out fun q hq => HK2.out.other q (World.ownsRow.lt HA.out q hq).2 (HAF.out q hq))
  have HID := hid (fun W3 (hb3 : Below w2.heap.size w2 W3) => ids_q (blk_keep HY2.out hb3) hal (show l.length < 2000000000000 by omega) (owns_keep HA2.out hb3) ⟨_, owns_keep (owns_mono HVW.out (Nat.zero_le _)) hb3⟩)
  go_wp2_with (first
    | (go_at_call 105; refine HSI.out.mono ?_; rintro e w3 ⟨rfl, hb3⟩; have HB3 := hid hb3; clear hb3)
    | (go_at_call 106; refine (HID.out w3 HB3.out).mono ?_; rintro e w4 ⟨rfl, hn4⟩; have HN4 := hid hn4; clear hn4))
  go_ret
  exact ⟨rfl, w3, _, _, F', ⟨x, r, vt, told, FP, FR, N, sp, P, htl, HP2.out.keep HB3.out⟩, HK2.out.after HB3.out, HS2.out, fun k hk => (World.ownsRow.lt HVW.out k hk).1, (HB3.out.block gy (blk_lt HY2.out)).trans (HY2.out.trans HY.out.symm), HN4.out⟩

set_option maxRecDepth 1000000 in
set_option maxHeartbeats 8000000 in
theorem shows_values {w : World} {gp : Nat} {F : Nat → Prop} {nt : Nat} (h : isPair w gp F nt) {gy : Nat} (o : LOp) (hkd : o.kind = 11) {vp va vb vc : Value} {la : List Nat} (hy : w.heap[gy]? = some (.cells #[vp, va, vb, vc] 84 (0, 0))) (hyF : ¬ F gy) (hal : la.length < 2000000000000) (ha : w.ownsRow 0 140 1 vb la.length (la.flatMap nameC)) (haF : ∀ k, (vb).ownBlock = some k → ¬ F k) (hks : o.key.size ≤ maxLen) :
    Calls Tryz.prog 69 #[.pointer (some ⟨gy, 0, none⟩), .pointer (some ⟨gp, 0, none⟩), .agg #[.int .i64 o.kind, .int .i64 o.r, .int .i64 o.c, .int .i64 o.d, .int .i64 o.i1, .int .i64 o.i2, .int .i64 o.made, .string o.key, .int .i64 o.a, .int .i64 o.b, .bool o.yes]] w fun e w' => e = .returned (.bool true) ∧ ∃ wm v n F', isPair wm gp F' nt ∧ Keeps F F' w wm ∧ (∀ k, F' k → F k) ∧ (∀ k, v.ownBlock = some k → w.heap.size ≤ k) ∧ wm.heap[gy]? = w.heap[gy]? ∧ Noted 57 53 140 3 #[.int .i64 (-7070 - (la.length : Int)), .int .i64 0, .int .i64 0] wm gy v vb la n (fun x => #[vp, va, x, vc]) w' := by
  obtain ⟨x, r, vt, told, FP, FR, N, sp, P, htl, h⟩ := h
  rw [hkd]
  have HB := hid ((Below.refl w.heap.size w).alloc (Nat.le_refl _) (.cells #[.int .i64 11, .int .i64 o.r, .int .i64 o.c, .int .i64 o.d, .int .i64 o.i1, .int .i64 o.i2, .int .i64 o.made, .string o.key, .int .i64 o.a, .int .i64 o.b, .bool o.yes] 87))
  have HX0 := hid (blk_new w (.cells #[.int .i64 11, .int .i64 o.r, .int .i64 o.c, .int .i64 o.d, .int .i64 o.i1, .int .i64 o.i2, .int .i64 o.made, .string o.key, .int .i64 o.a, .int .i64 o.b, .bool o.yes] 87))
  have HG0 := hid (blk_keep h.blk HB.out)
  have HC := hid (fun W (hb : Below w.heap.size w W) => pair_values h hb o.c o.i1 o.i2 o.key hks)
  have HNF := hid (show ∀ k, w.heap.size ≤ k → ¬ F k from fun k hk hF => by have := h.lt k hF; omega)
  have hgl := h.lt _ h.fg
  have HGW := hid h.blk
  have HY := hid hy
  have HYF := hid hyF
  have HA := hid ha
  have HAF := hid haF
  have hyl := blk_lt hy
  clear h hy hyF ha haF
  go_enter Tryz.func69, Tryz.ntmps69
  go_wp2_with fail
  go_region_held3 (fun W => W.cell? ⟨gp, 0, none⟩ = some (.pointer (some ⟨x, 0, none⟩)) ∧ W.cell? ⟨gp, 1, none⟩ = some (.pointer (some ⟨r, 0, none⟩)) ∧ W.cell? ⟨w.heap.size, 0, none⟩ = some (.int .i64 11) ∧ W.cell? ⟨w.heap.size, 2, none⟩ = some (.int .i64 o.c) ∧ W.cell? ⟨w.heap.size, 4, none⟩ = some (.int .i64 o.i1) ∧ W.cell? ⟨w.heap.size, 5, none⟩ = some (.int .i64 o.i2) ∧ W.cell? ⟨w.heap.size, 7, none⟩ = some (.string o.key) ∧ W.cell? ⟨w.heap.size, 8, none⟩ = some (.int .i64 o.a) ∧ W.cell? ⟨w.heap.size, 9, none⟩ = some (.int .i64 o.b) ∧ W.cell? ⟨w.heap.size, 10, none⟩ = some (.bool o.yes)) (first | exact opS HG0.out HX0.out | exact opS HG1.out HX1.out)
    (first | (go_at_call 24; refine (HC.out _ HB.out.drew).mono ?_; rintro e w1 ⟨v, m, l, rfl, hv1, hg1, hk1, hs1, hr1⟩; have HG1 := hid (hg1.trans HGW.out); have HX1 := hid ((hk1 w.heap.size (blk_lt HX0.out) (HNF.out _ (Nat.le_refl _))).trans HX0.out); have HR1 := hid hr1; have HV1 := hid (owns_mono hv1 (show w.heap.size ≤ _ by first | omega | (simp; done) | (simp; omega))); clear hg1 hk1 hr1 hv1; obtain ⟨av, cv, rfl, hvc, hvm, hvf⟩ := owns_form HV1.out; clear hvc hvm hvf))
  go_wp2_with fail
  go_region_held3 (fun W => W.cell? ⟨gp, 0, none⟩ = some (.pointer (some ⟨x, 0, none⟩)) ∧ W.cell? ⟨gp, 1, none⟩ = some (.pointer (some ⟨r, 0, none⟩)) ∧ W.cell? ⟨w.heap.size, 0, none⟩ = some (.int .i64 11) ∧ W.cell? ⟨w.heap.size, 2, none⟩ = some (.int .i64 o.c) ∧ W.cell? ⟨w.heap.size, 4, none⟩ = some (.int .i64 o.i1) ∧ W.cell? ⟨w.heap.size, 5, none⟩ = some (.int .i64 o.i2) ∧ W.cell? ⟨w.heap.size, 7, none⟩ = some (.string o.key) ∧ W.cell? ⟨w.heap.size, 8, none⟩ = some (.int .i64 o.a) ∧ W.cell? ⟨w.heap.size, 9, none⟩ = some (.int .i64 o.b) ∧ W.cell? ⟨w.heap.size, 10, none⟩ = some (.bool o.yes)) (first | exact opS HG1.out HX1.out | exact opS HG2.out HX2.out)
    (first | (go_at_call 107; refine (HR1.out _ ((Below.refl _ w1).drew)).mono ?_; rintro e w2 ⟨⟨v2, rfl, hv2, hle⟩, ⟨F', hp2, hk2, hs2⟩, hnw⟩; have HG2 := hid hp2.blk; have HX2 := hid ((hnw w.heap.size (Nat.le_refl _) (blk_lt HX1.out)).trans HX1.out); have HP2 := hid hp2; have HK2 := hid hk2; have HS2 := hid hs2; have HV2 := hid hv2; have HVW := hid (row_blk HV1.out (fun q hq => hnw q (World.ownsRow.lt HV1.out q hq).1 (World.ownsRow.lt HV1.out q hq).2)); clear hp2 hk2 hnw hs2 hv2; obtain ⟨a2, c2, rfl, hvc2, hvm2, hvf2⟩ := owns_form HV2.out; clear hvc2 hvm2 hvf2))
  have HSI := hid (sameValues_q (owns_mono HVW.out (Nat.zero_le _)) HV2.out)
  have HY2 := hid ((HK2.out.other gy hyl HYF.out).trans HY.out)
  have HA2 := hid (row_blk HA.out fun q hq => HK2.out.other q (World.ownsRow.lt HA.out q hq).2 (HAF.out q hq))
  have HID := hid (fun W3 (hb3 : Below w2.heap.size w2 W3) => values_q (blk_keep HY2.out hb3) hal (show l.length < 2000000000000 by omega) (owns_keep HA2.out hb3) ⟨_, owns_keep (owns_mono HVW.out (Nat.zero_le _)) hb3⟩)
  go_wp2_with (first
    | (go_at_call 108; refine HSI.out.mono ?_; rintro e w3 ⟨rfl, hb3⟩; have HB3 := hid hb3; clear hb3)
    | (go_at_call 109; refine (HID.out w3 HB3.out).mono ?_; rintro e w4 ⟨rfl, hn4⟩; have HN4 := hid hn4; clear hn4))
  go_ret
  exact ⟨rfl, w3, _, _, F', ⟨x, r, vt, told, FP, FR, N, sp, P, htl, HP2.out.keep HB3.out⟩, HK2.out.after HB3.out, HS2.out, fun k hk => (World.ownsRow.lt HVW.out k hk).1, (HB3.out.block gy (blk_lt HY2.out)).trans (HY2.out.trans HY.out.symm), HN4.out⟩
end

end Go.Proofs.YtnkpogjiiohapaaGreatDoor

/-! PLawF: The law: writes. -/
namespace Go.Proofs.YtnkpogjiiohapaaGreatDoor
open Go.RowKit
attribute [local go_sem ↓] Go.wp_at_zero Go.wp_at_succ

section
set_option maxRecDepth 1000000 in
set_option maxHeartbeats 8000000 in
theorem writes_nest {w : World} {gp : Nat} {F : Nat → Prop} {nt : Nat} (h : isPair w gp F nt) (o : LOp) (hk : LOk o) (hkd : o.kind = 3) (hnt : nt < 2000000000000) :
    Calls Tryz.prog 68 #[.pointer (some ⟨gp, 0, none⟩), .agg #[.int .i64 o.kind, .int .i64 o.r, .int .i64 o.c, .int .i64 o.d, .int .i64 o.i1, .int .i64 o.i2, .int .i64 o.made, .string o.key, .int .i64 o.a, .int .i64 o.b, .bool o.yes]] w fun e w' => e = .returned (.bool true) ∧ Stepped w gp F (nt + 1) w' := by
  obtain ⟨x, r, vt, told, FP, FR, N, sp, P, htl, h⟩ := h
  rw [hkd]
  have HB := hid ((Below.refl w.heap.size w).alloc (Nat.le_refl _) (.cells #[.int .i64 3, .int .i64 o.r, .int .i64 o.c, .int .i64 o.d, .int .i64 o.i1, .int .i64 o.i2, .int .i64 o.made, .string o.key, .int .i64 o.a, .int .i64 o.b, .bool o.yes] 87))
  have HX0 := hid (blk_new w (.cells #[.int .i64 3, .int .i64 o.r, .int .i64 o.c, .int .i64 o.d, .int .i64 o.i1, .int .i64 o.i2, .int .i64 o.made, .string o.key, .int .i64 o.a, .int .i64 o.b, .bool o.yes] 87))
  have HG0 := hid (blk_keep h.blk HB.out)
  have HC := hid (fun W (hb : Below w.heap.size w W) => pair_nest h hb o.c o.i1 o.i2 o.key hk.key o.yes)
  have HF := hid h.lt
  have HFG := hid h.fg
  have HNF := hid (show ∀ k, w.heap.size ≤ k → ¬ F k from fun k hk hF => by have := h.lt k hF; omega)
  have hgl := h.lt _ h.fg
  have HGW := hid h.blk
  clear h hk
  go_enter Tryz.func68, Tryz.ntmps68
  go_wp2_with fail
  go_cut [7, 8] (fun p q wc => ∃ ga i1 i2 m, p = .pointer (some ⟨ga, 0, none⟩) ∧ q = .int .i64 m ∧ NMid w gp F x r vt told N sp 95 #[.pointer (some ⟨r, 0, none⟩), .int .i64 o.c, .agg #[.int .i64 o.i1, .int .i64 o.i2], .string o.key, .bool o.yes] (.cells #[.int .i64 3, .int .i64 o.r, .int .i64 o.c, .int .i64 o.d, .int .i64 o.i1, .int .i64 o.i2, .int .i64 o.made, .string o.key, .int .i64 o.a, .int .i64 o.b, .bool o.yes] 87) ga i1 i2 m wc)
  case first =>
    go_region_held3 (fun W => W.cell? ⟨gp, 0, none⟩ = some (.pointer (some ⟨x, 0, none⟩)) ∧ W.cell? ⟨gp, 1, none⟩ = some (.pointer (some ⟨r, 0, none⟩)) ∧ W.cell? ⟨w.heap.size, 0, none⟩ = some (.int .i64 3) ∧ W.cell? ⟨w.heap.size, 2, none⟩ = some (.int .i64 o.c) ∧ W.cell? ⟨w.heap.size, 4, none⟩ = some (.int .i64 o.i1) ∧ W.cell? ⟨w.heap.size, 5, none⟩ = some (.int .i64 o.i2) ∧ W.cell? ⟨w.heap.size, 7, none⟩ = some (.string o.key) ∧ W.cell? ⟨w.heap.size, 8, none⟩ = some (.int .i64 o.a) ∧ W.cell? ⟨w.heap.size, 9, none⟩ = some (.int .i64 o.b) ∧ W.cell? ⟨w.heap.size, 10, none⟩ = some (.bool o.yes)) (first | exact opS HG1.out HX1.out | exact opS ((setCell_other (by omega)).trans ((setCell_other (by omega)).trans HG1.out)) ((setCell_other (by omega)).trans ((setCell_other (by omega)).trans HX1.out)) | exact opS ((alloc_ne (by omega)).trans HG1.out) ((alloc_ne (by omega)).trans HX1.out) | exact opS HG0.out HX0.out | exact opS ((alloc_ne (by simp; omega)).trans HG0.out) ((alloc_ne (by simp)).trans HX0.out))
      (first | (go_at_call 38; refine (HC.out _ (by go_grown)).mono ?_; rintro e w1 ⟨i1, i2, m, rfl, hduo⟩; have HD := hid hduo; have HG1 := hid (hduo.1.trans HGW.out); have HX1 := hid (show w1.heap[w.heap.size]? = some (.cells #[.int .i64 3, .int .i64 o.r, .int .i64 o.c, .int .i64 o.d, .int .i64 o.i1, .int .i64 o.i2, .int .i64 o.made, .string o.key, .int .i64 o.a, .int .i64 o.b, .bool o.yes] 87 (0, 0)) from by (rw [hduo.2.1 w.heap.size (by first | (simp; done) | (simp; omega)) (HNF.out _ (Nat.le_refl _))]; first | exact HX0.out | exact (alloc_ne (by simp)).trans HX0.out)); have hz1 := hduo.2.2.1; (try simp at hz1); (try (have HA1 := hid (show w1.heap[w.heap.size + 1]? = some (.cells #[.int .i64 0, .int .i64 0] 36 (0, 0)) from by (rw [hduo.2.1 (w.heap.size + 1) (by simp) (HNF.out _ (by omega))]; exact blk_at (by simp))); have z0 := (blk2 HA1.out).1; have z1 := (blk2 HA1.out).2; have zf := blk_fz HA1.out)); clear hduo))
    all_goals (go_wp2_with fail; go_meet)
    all_goals first
      | exact ⟨_, i1, i2, m, rfl, rfl, nmid_a HF.out HFG.out HD.out⟩
      | exact ⟨_, i1, i2, m, rfl, rfl, nmid_b HF.out HFG.out HD.out⟩
  case rest =>
    obtain ⟨ga, i1, i2, m, rfl, rfl, hn⟩ := hcut
    have HG1 := hid (hn.g.trans HGW.out)
    have HX1 := hid hn.b
    have HN := hid hn
    have hgal := blk_lt hn.a
    have hwl := blk_lt hn.b
    clear hn
    go_wp2_with fail
    go_cut [9, 10] (fun p q we => ∃ gb, p = .pointer (some ⟨gb, 0, none⟩) ∧ q = .int .i64 m ∧ NEnd w gp F x r vt told N sp ga gb i1 i2 we)
    case first =>
      go_region_held3 (fun W => W.cell? ⟨gp, 0, none⟩ = some (.pointer (some ⟨x, 0, none⟩)) ∧ W.cell? ⟨gp, 1, none⟩ = some (.pointer (some ⟨r, 0, none⟩)) ∧ W.cell? ⟨w.heap.size, 0, none⟩ = some (.int .i64 3) ∧ W.cell? ⟨w.heap.size, 2, none⟩ = some (.int .i64 o.c) ∧ W.cell? ⟨w.heap.size, 4, none⟩ = some (.int .i64 o.i1) ∧ W.cell? ⟨w.heap.size, 5, none⟩ = some (.int .i64 o.i2) ∧ W.cell? ⟨w.heap.size, 7, none⟩ = some (.string o.key) ∧ W.cell? ⟨w.heap.size, 8, none⟩ = some (.int .i64 o.a) ∧ W.cell? ⟨w.heap.size, 9, none⟩ = some (.int .i64 o.b) ∧ W.cell? ⟨w.heap.size, 10, none⟩ = some (.bool o.yes)) (first | exact opS HG2.out HX2.out | exact opS ((setCell_other (by omega)).trans ((setCell_other (by omega)).trans HG2.out)) ((setCell_other (by omega)).trans ((setCell_other (by omega)).trans HX2.out)) | exact opS ((alloc_ne (by omega)).trans HG2.out) ((alloc_ne (by omega)).trans HX2.out) | exact opS HG1.out HX1.out | exact opS ((alloc_ne (by omega)).trans HG1.out) ((alloc_ne (by omega)).trans HX1.out))
        (first | (go_at_call 95; refine (HN.out.next _ (by go_grown)).mono ?_; rintro e w2 ⟨rfl, hex, hga, hbx, hnw⟩; have HE := hid hex; have HX2 := hid hbx; have HG2 := hid (show w2.heap[gp]? = some (.cells #[.pointer (some ⟨x, 0, none⟩), .pointer (some ⟨r, 0, none⟩), vt] 135 (0, 0)) from by (obtain ⟨F', FP', FR', P', hp, _⟩ := hex; exact hp.blk)); have HGA := hid hga; have HNW := hid hnw; have hz2 := blk_lt HG2.out; have hz3 := blk_lt HX2.out; (try (have HA1 := hid (show w2.heap[wc.heap.size]? = some (.cells #[.int .i64 0, .int .i64 0] 36 (0, 0)) from by (rw [hnw wc.heap.size (Nat.le_refl _) (by simp)]; exact blk_at (by simp))); have z0 := (blk2 HA1.out).1; have z1 := (blk2 HA1.out).2; have zf := blk_fz HA1.out)); clear hex hga hbx hnw))
      all_goals (go_wp2_with fail; go_meet)
      all_goals first
        | exact ⟨_, rfl, rfl, nend_a (by omega) hgal HE.out HGA.out HNW.out⟩
        | exact ⟨_, rfl, rfl, nend_b HE.out HGA.out⟩
    case rest =>
      obtain ⟨gb, rfl, rfl, he⟩ := hcut
      obtain ⟨a0, a1⟩ := blk2 he.a
      obtain ⟨b0, b1⟩ := blk2 he.b
      obtain ⟨F', FP', FR', P', hp, hk⟩ := he.pair
      clear he HN HG1 HX1 HC HB HX0 HG0 HGW HNF HF HFG
      by_cases hm : m = 0
      · subst hm
        have HT := hid (tells_ok hp i1 i2 (by omega))
        have HK := hid hk; clear hk hp
        go_wp2_with (first | (go_at_call 96; refine HT.out.mono ?_; rintro e w3 ⟨rfl, F3, vt3, hp3, hk3⟩; have HP3 := hid hp3; have HK3 := hid (HK.out.trans hk3); clear hp3 hk3))
        go_ret
        exact ⟨rfl, F3, ⟨x, r, vt3, told ++ [(i1, i2)], FP', FR', N, sp, P', by simp; omega, HP3.out⟩, HK3.out⟩
      · have HT := hid (fun W => tells_err W gp i1 i2 m hm)
        have HK := hid hk; have HP := hid hp; clear hk hp
        go_wp2_with (first | (go_at_call 96; refine (HT.out _).mono ?_; rintro e w3 ⟨rfl, hb3⟩; have HP3 := hid (HP.out.keep hb3); have HK3 := hid (HK.out.after hb3); clear hb3))
        go_ret
        exact ⟨rfl, F', ⟨x, r, vt, told, FP', FR', N, sp, P', by omega, HP3.out⟩, HK3.out⟩
end

end Go.Proofs.YtnkpogjiiohapaaGreatDoor

/-! PLawG: The law: writes. -/
namespace Go.Proofs.YtnkpogjiiohapaaGreatDoor
open Go.RowKit
attribute [local go_sem ↓] Go.wp_at_zero Go.wp_at_succ

section
set_option maxRecDepth 1000000 in
set_option maxHeartbeats 8000000 in
theorem writes_insert {w : World} {gp : Nat} {F : Nat → Prop} {nt : Nat} (h : isPair w gp F nt) (o : LOp) (hk : LOk o) (hkd : o.kind = 5) (hnt : nt < 2000000000000) :
    Calls Tryz.prog 68 #[.pointer (some ⟨gp, 0, none⟩), .agg #[.int .i64 o.kind, .int .i64 o.r, .int .i64 o.c, .int .i64 o.d, .int .i64 o.i1, .int .i64 o.i2, .int .i64 o.made, .string o.key, .int .i64 o.a, .int .i64 o.b, .bool o.yes]] w fun e w' => e = .returned (.bool true) ∧ Stepped w gp F (nt + 1) w' := by
  obtain ⟨x, r, vt, told, FP, FR, N, sp, P, htl, h⟩ := h
  rw [hkd]
  have HB := hid ((Below.refl w.heap.size w).alloc (Nat.le_refl _) (.cells #[.int .i64 5, .int .i64 o.r, .int .i64 o.c, .int .i64 o.d, .int .i64 o.i1, .int .i64 o.i2, .int .i64 o.made, .string o.key, .int .i64 o.a, .int .i64 o.b, .bool o.yes] 87))
  have HX0 := hid (blk_new w (.cells #[.int .i64 5, .int .i64 o.r, .int .i64 o.c, .int .i64 o.d, .int .i64 o.i1, .int .i64 o.i2, .int .i64 o.made, .string o.key, .int .i64 o.a, .int .i64 o.b, .bool o.yes] 87))
  have HG0 := hid (blk_keep h.blk HB.out)
  have HC := hid (fun W (hb : Below w.heap.size w W) => pair_insert h hb o.c o.i1 o.i2 o.a o.b hk.b)
  have HF := hid h.lt
  have HFG := hid h.fg
  have HNF := hid (show ∀ k, w.heap.size ≤ k → ¬ F k from fun k hk hF => by have := h.lt k hF; omega)
  have hgl := h.lt _ h.fg
  have HGW := hid h.blk
  clear h hk
  go_enter Tryz.func68, Tryz.ntmps68
  go_wp2_with fail
  go_cut [13, 14] (fun p q wc => ∃ ga i1 i2 m, p = .pointer (some ⟨ga, 0, none⟩) ∧ q = .int .i64 m ∧ NMid w gp F x r vt told N sp 98 #[.pointer (some ⟨r, 0, none⟩), .int .i64 o.c, .agg #[.int .i64 o.i1, .int .i64 o.i2], .int .i64 o.a, .int .i64 o.b] (.cells #[.int .i64 5, .int .i64 o.r, .int .i64 o.c, .int .i64 o.d, .int .i64 o.i1, .int .i64 o.i2, .int .i64 o.made, .string o.key, .int .i64 o.a, .int .i64 o.b, .bool o.yes] 87) ga i1 i2 m wc)
  case first =>
    go_region_held3 (fun W => W.cell? ⟨gp, 0, none⟩ = some (.pointer (some ⟨x, 0, none⟩)) ∧ W.cell? ⟨gp, 1, none⟩ = some (.pointer (some ⟨r, 0, none⟩)) ∧ W.cell? ⟨w.heap.size, 0, none⟩ = some (.int .i64 5) ∧ W.cell? ⟨w.heap.size, 2, none⟩ = some (.int .i64 o.c) ∧ W.cell? ⟨w.heap.size, 4, none⟩ = some (.int .i64 o.i1) ∧ W.cell? ⟨w.heap.size, 5, none⟩ = some (.int .i64 o.i2) ∧ W.cell? ⟨w.heap.size, 7, none⟩ = some (.string o.key) ∧ W.cell? ⟨w.heap.size, 8, none⟩ = some (.int .i64 o.a) ∧ W.cell? ⟨w.heap.size, 9, none⟩ = some (.int .i64 o.b) ∧ W.cell? ⟨w.heap.size, 10, none⟩ = some (.bool o.yes)) (first | exact opS HG1.out HX1.out | exact opS ((setCell_other (by omega)).trans ((setCell_other (by omega)).trans HG1.out)) ((setCell_other (by omega)).trans ((setCell_other (by omega)).trans HX1.out)) | exact opS ((alloc_ne (by omega)).trans HG1.out) ((alloc_ne (by omega)).trans HX1.out) | exact opS HG0.out HX0.out | exact opS ((alloc_ne (by simp; omega)).trans HG0.out) ((alloc_ne (by simp)).trans HX0.out))
      (first | (go_at_call 32; refine (HC.out _ (by go_grown)).mono ?_; rintro e w1 ⟨i1, i2, m, rfl, hduo⟩; have HD := hid hduo; have HG1 := hid (hduo.1.trans HGW.out); have HX1 := hid (show w1.heap[w.heap.size]? = some (.cells #[.int .i64 5, .int .i64 o.r, .int .i64 o.c, .int .i64 o.d, .int .i64 o.i1, .int .i64 o.i2, .int .i64 o.made, .string o.key, .int .i64 o.a, .int .i64 o.b, .bool o.yes] 87 (0, 0)) from by (rw [hduo.2.1 w.heap.size (by first | (simp; done) | (simp; omega)) (HNF.out _ (Nat.le_refl _))]; first | exact HX0.out | exact (alloc_ne (by simp)).trans HX0.out)); have hz1 := hduo.2.2.1; (try simp at hz1); (try (have HA1 := hid (show w1.heap[w.heap.size + 1]? = some (.cells #[.int .i64 0, .int .i64 0] 36 (0, 0)) from by (rw [hduo.2.1 (w.heap.size + 1) (by simp) (HNF.out _ (by omega))]; exact blk_at (by simp))); have z0 := (blk2 HA1.out).1; have z1 := (blk2 HA1.out).2; have zf := blk_fz HA1.out)); clear hduo))
    all_goals (go_wp2_with fail; go_meet)
    all_goals first
      | exact ⟨_, i1, i2, m, rfl, rfl, nmid_a HF.out HFG.out HD.out⟩
      | exact ⟨_, i1, i2, m, rfl, rfl, nmid_b HF.out HFG.out HD.out⟩
  case rest =>
    obtain ⟨ga, i1, i2, m, rfl, rfl, hn⟩ := hcut
    have HG1 := hid (hn.g.trans HGW.out)
    have HX1 := hid hn.b
    have HN := hid hn
    have hgal := blk_lt hn.a
    have hwl := blk_lt hn.b
    clear hn
    go_wp2_with fail
    go_cut [15, 16] (fun p q we => ∃ gb, p = .pointer (some ⟨gb, 0, none⟩) ∧ q = .int .i64 m ∧ NEnd w gp F x r vt told N sp ga gb i1 i2 we)
    case first =>
      go_region_held3 (fun W => W.cell? ⟨gp, 0, none⟩ = some (.pointer (some ⟨x, 0, none⟩)) ∧ W.cell? ⟨gp, 1, none⟩ = some (.pointer (some ⟨r, 0, none⟩)) ∧ W.cell? ⟨w.heap.size, 0, none⟩ = some (.int .i64 5) ∧ W.cell? ⟨w.heap.size, 2, none⟩ = some (.int .i64 o.c) ∧ W.cell? ⟨w.heap.size, 4, none⟩ = some (.int .i64 o.i1) ∧ W.cell? ⟨w.heap.size, 5, none⟩ = some (.int .i64 o.i2) ∧ W.cell? ⟨w.heap.size, 7, none⟩ = some (.string o.key) ∧ W.cell? ⟨w.heap.size, 8, none⟩ = some (.int .i64 o.a) ∧ W.cell? ⟨w.heap.size, 9, none⟩ = some (.int .i64 o.b) ∧ W.cell? ⟨w.heap.size, 10, none⟩ = some (.bool o.yes)) (first | exact opS HG2.out HX2.out | exact opS ((setCell_other (by omega)).trans ((setCell_other (by omega)).trans HG2.out)) ((setCell_other (by omega)).trans ((setCell_other (by omega)).trans HX2.out)) | exact opS ((alloc_ne (by omega)).trans HG2.out) ((alloc_ne (by omega)).trans HX2.out) | exact opS HG1.out HX1.out | exact opS ((alloc_ne (by omega)).trans HG1.out) ((alloc_ne (by omega)).trans HX1.out))
        (first | (go_at_call 98; refine (HN.out.next _ (by go_grown)).mono ?_; rintro e w2 ⟨rfl, hex, hga, hbx, hnw⟩; have HE := hid hex; have HX2 := hid hbx; have HG2 := hid (show w2.heap[gp]? = some (.cells #[.pointer (some ⟨x, 0, none⟩), .pointer (some ⟨r, 0, none⟩), vt] 135 (0, 0)) from by (obtain ⟨F', FP', FR', P', hp, _⟩ := hex; exact hp.blk)); have HGA := hid hga; have HNW := hid hnw; have hz2 := blk_lt HG2.out; have hz3 := blk_lt HX2.out; (try (have HA1 := hid (show w2.heap[wc.heap.size]? = some (.cells #[.int .i64 0, .int .i64 0] 36 (0, 0)) from by (rw [hnw wc.heap.size (Nat.le_refl _) (by simp)]; exact blk_at (by simp))); have z0 := (blk2 HA1.out).1; have z1 := (blk2 HA1.out).2; have zf := blk_fz HA1.out)); clear hex hga hbx hnw))
      all_goals (go_wp2_with fail; go_meet)
      all_goals first
        | exact ⟨_, rfl, rfl, nend_a (by omega) hgal HE.out HGA.out HNW.out⟩
        | exact ⟨_, rfl, rfl, nend_b HE.out HGA.out⟩
    case rest =>
      obtain ⟨gb, rfl, rfl, he⟩ := hcut
      obtain ⟨a0, a1⟩ := blk2 he.a
      obtain ⟨b0, b1⟩ := blk2 he.b
      obtain ⟨F', FP', FR', P', hp, hk⟩ := he.pair
      clear he HN HG1 HX1 HC HB HX0 HG0 HGW HNF HF HFG
      by_cases hm : m = 0
      · subst hm
        have HT := hid (tells_ok hp i1 i2 (by omega))
        have HK := hid hk; clear hk hp
        go_wp2_with (first | (go_at_call 96; refine HT.out.mono ?_; rintro e w3 ⟨rfl, F3, vt3, hp3, hk3⟩; have HP3 := hid hp3; have HK3 := hid (HK.out.trans hk3); clear hp3 hk3))
        go_ret
        exact ⟨rfl, F3, ⟨x, r, vt3, told ++ [(i1, i2)], FP', FR', N, sp, P', by simp; omega, HP3.out⟩, HK3.out⟩
      · have HT := hid (fun W => tells_err W gp i1 i2 m hm)
        have HK := hid hk; have HP := hid hp; clear hk hp
        go_wp2_with (first | (go_at_call 96; refine (HT.out _).mono ?_; rintro e w3 ⟨rfl, hb3⟩; have HP3 := hid (HP.out.keep hb3); have HK3 := hid (HK.out.after hb3); clear hb3))
        go_ret
        exact ⟨rfl, F', ⟨x, r, vt, told, FP', FR', N, sp, P', by omega, HP3.out⟩, HK3.out⟩
end

end Go.Proofs.YtnkpogjiiohapaaGreatDoor

/-! PLawH: The law: writes. -/
namespace Go.Proofs.YtnkpogjiiohapaaGreatDoor
open Go.RowKit
attribute [local go_sem ↓] Go.wp_at_zero Go.wp_at_succ

section
set_option maxRecDepth 1000000 in
set_option maxHeartbeats 8000000 in
theorem writes_nestAt {w : World} {gp : Nat} {F : Nat → Prop} {nt : Nat} (h : isPair w gp F nt) (o : LOp) (hkd : o.kind = 6) (hnt : nt < 2000000000000) :
    Calls Tryz.prog 68 #[.pointer (some ⟨gp, 0, none⟩), .agg #[.int .i64 o.kind, .int .i64 o.r, .int .i64 o.c, .int .i64 o.d, .int .i64 o.i1, .int .i64 o.i2, .int .i64 o.made, .string o.key, .int .i64 o.a, .int .i64 o.b, .bool o.yes]] w fun e w' => e = .returned (.bool true) ∧ Stepped w gp F (nt + 1) w' := by
  obtain ⟨x, r, vt, told, FP, FR, N, sp, P, htl, h⟩ := h
  rw [hkd]
  have HB := hid ((Below.refl w.heap.size w).alloc (Nat.le_refl _) (.cells #[.int .i64 6, .int .i64 o.r, .int .i64 o.c, .int .i64 o.d, .int .i64 o.i1, .int .i64 o.i2, .int .i64 o.made, .string o.key, .int .i64 o.a, .int .i64 o.b, .bool o.yes] 87))
  have HX0 := hid (blk_new w (.cells #[.int .i64 6, .int .i64 o.r, .int .i64 o.c, .int .i64 o.d, .int .i64 o.i1, .int .i64 o.i2, .int .i64 o.made, .string o.key, .int .i64 o.a, .int .i64 o.b, .bool o.yes] 87))
  have HG0 := hid (blk_keep h.blk HB.out)
  have HC := hid (fun W (hb : Below w.heap.size w W) => pair_nestAt h hb o.c o.i1 o.i2 o.a o.yes)
  have HF := hid h.lt
  have HFG := hid h.fg
  have HNF := hid (show ∀ k, w.heap.size ≤ k → ¬ F k from fun k hk hF => by have := h.lt k hF; omega)
  have hgl := h.lt _ h.fg
  have HGW := hid h.blk
  clear h
  go_enter Tryz.func68, Tryz.ntmps68
  go_wp2_with fail
  go_cut [17, 18] (fun p q wc => ∃ ga i1 i2 m, p = .pointer (some ⟨ga, 0, none⟩) ∧ q = .int .i64 m ∧ NMid w gp F x r vt told N sp 100 #[.pointer (some ⟨r, 0, none⟩), .int .i64 o.c, .agg #[.int .i64 o.i1, .int .i64 o.i2], .int .i64 o.a, .bool o.yes] (.cells #[.int .i64 6, .int .i64 o.r, .int .i64 o.c, .int .i64 o.d, .int .i64 o.i1, .int .i64 o.i2, .int .i64 o.made, .string o.key, .int .i64 o.a, .int .i64 o.b, .bool o.yes] 87) ga i1 i2 m wc)
  case first =>
    go_region_held3 (fun W => W.cell? ⟨gp, 0, none⟩ = some (.pointer (some ⟨x, 0, none⟩)) ∧ W.cell? ⟨gp, 1, none⟩ = some (.pointer (some ⟨r, 0, none⟩)) ∧ W.cell? ⟨w.heap.size, 0, none⟩ = some (.int .i64 6) ∧ W.cell? ⟨w.heap.size, 2, none⟩ = some (.int .i64 o.c) ∧ W.cell? ⟨w.heap.size, 4, none⟩ = some (.int .i64 o.i1) ∧ W.cell? ⟨w.heap.size, 5, none⟩ = some (.int .i64 o.i2) ∧ W.cell? ⟨w.heap.size, 7, none⟩ = some (.string o.key) ∧ W.cell? ⟨w.heap.size, 8, none⟩ = some (.int .i64 o.a) ∧ W.cell? ⟨w.heap.size, 9, none⟩ = some (.int .i64 o.b) ∧ W.cell? ⟨w.heap.size, 10, none⟩ = some (.bool o.yes)) (first | exact opS HG1.out HX1.out | exact opS ((setCell_other (by omega)).trans ((setCell_other (by omega)).trans HG1.out)) ((setCell_other (by omega)).trans ((setCell_other (by omega)).trans HX1.out)) | exact opS ((alloc_ne (by omega)).trans HG1.out) ((alloc_ne (by omega)).trans HX1.out) | exact opS HG0.out HX0.out | exact opS ((alloc_ne (by simp; omega)).trans HG0.out) ((alloc_ne (by simp)).trans HX0.out))
      (first | (go_at_call 99; refine (HC.out _ (by go_grown)).mono ?_; rintro e w1 ⟨i1, i2, m, rfl, hduo⟩; have HD := hid hduo; have HG1 := hid (hduo.1.trans HGW.out); have HX1 := hid (show w1.heap[w.heap.size]? = some (.cells #[.int .i64 6, .int .i64 o.r, .int .i64 o.c, .int .i64 o.d, .int .i64 o.i1, .int .i64 o.i2, .int .i64 o.made, .string o.key, .int .i64 o.a, .int .i64 o.b, .bool o.yes] 87 (0, 0)) from by (rw [hduo.2.1 w.heap.size (by first | (simp; done) | (simp; omega)) (HNF.out _ (Nat.le_refl _))]; first | exact HX0.out | exact (alloc_ne (by simp)).trans HX0.out)); have hz1 := hduo.2.2.1; (try simp at hz1); (try (have HA1 := hid (show w1.heap[w.heap.size + 1]? = some (.cells #[.int .i64 0, .int .i64 0] 36 (0, 0)) from by (rw [hduo.2.1 (w.heap.size + 1) (by simp) (HNF.out _ (by omega))]; exact blk_at (by simp))); have z0 := (blk2 HA1.out).1; have z1 := (blk2 HA1.out).2; have zf := blk_fz HA1.out)); clear hduo))
    all_goals (go_wp2_with fail; go_meet)
    all_goals first
      | exact ⟨_, i1, i2, m, rfl, rfl, nmid_a HF.out HFG.out HD.out⟩
      | exact ⟨_, i1, i2, m, rfl, rfl, nmid_b HF.out HFG.out HD.out⟩
  case rest =>
    obtain ⟨ga, i1, i2, m, rfl, rfl, hn⟩ := hcut
    have HG1 := hid (hn.g.trans HGW.out)
    have HX1 := hid hn.b
    have HN := hid hn
    have hgal := blk_lt hn.a
    have hwl := blk_lt hn.b
    clear hn
    go_wp2_with fail
    go_cut [19, 20] (fun p q we => ∃ gb, p = .pointer (some ⟨gb, 0, none⟩) ∧ q = .int .i64 m ∧ NEnd w gp F x r vt told N sp ga gb i1 i2 we)
    case first =>
      go_region_held3 (fun W => W.cell? ⟨gp, 0, none⟩ = some (.pointer (some ⟨x, 0, none⟩)) ∧ W.cell? ⟨gp, 1, none⟩ = some (.pointer (some ⟨r, 0, none⟩)) ∧ W.cell? ⟨w.heap.size, 0, none⟩ = some (.int .i64 6) ∧ W.cell? ⟨w.heap.size, 2, none⟩ = some (.int .i64 o.c) ∧ W.cell? ⟨w.heap.size, 4, none⟩ = some (.int .i64 o.i1) ∧ W.cell? ⟨w.heap.size, 5, none⟩ = some (.int .i64 o.i2) ∧ W.cell? ⟨w.heap.size, 7, none⟩ = some (.string o.key) ∧ W.cell? ⟨w.heap.size, 8, none⟩ = some (.int .i64 o.a) ∧ W.cell? ⟨w.heap.size, 9, none⟩ = some (.int .i64 o.b) ∧ W.cell? ⟨w.heap.size, 10, none⟩ = some (.bool o.yes)) (first | exact opS HG2.out HX2.out | exact opS ((setCell_other (by omega)).trans ((setCell_other (by omega)).trans HG2.out)) ((setCell_other (by omega)).trans ((setCell_other (by omega)).trans HX2.out)) | exact opS ((alloc_ne (by omega)).trans HG2.out) ((alloc_ne (by omega)).trans HX2.out) | exact opS HG1.out HX1.out | exact opS ((alloc_ne (by omega)).trans HG1.out) ((alloc_ne (by omega)).trans HX1.out))
        (first | (go_at_call 100; refine (HN.out.next _ (by go_grown)).mono ?_; rintro e w2 ⟨rfl, hex, hga, hbx, hnw⟩; have HE := hid hex; have HX2 := hid hbx; have HG2 := hid (show w2.heap[gp]? = some (.cells #[.pointer (some ⟨x, 0, none⟩), .pointer (some ⟨r, 0, none⟩), vt] 135 (0, 0)) from by (obtain ⟨F', FP', FR', P', hp, _⟩ := hex; exact hp.blk)); have HGA := hid hga; have HNW := hid hnw; have hz2 := blk_lt HG2.out; have hz3 := blk_lt HX2.out; (try (have HA1 := hid (show w2.heap[wc.heap.size]? = some (.cells #[.int .i64 0, .int .i64 0] 36 (0, 0)) from by (rw [hnw wc.heap.size (Nat.le_refl _) (by simp)]; exact blk_at (by simp))); have z0 := (blk2 HA1.out).1; have z1 := (blk2 HA1.out).2; have zf := blk_fz HA1.out)); clear hex hga hbx hnw))
      all_goals (go_wp2_with fail; go_meet)
      all_goals first
        | exact ⟨_, rfl, rfl, nend_a (by omega) hgal HE.out HGA.out HNW.out⟩
        | exact ⟨_, rfl, rfl, nend_b HE.out HGA.out⟩
    case rest =>
      obtain ⟨gb, rfl, rfl, he⟩ := hcut
      obtain ⟨a0, a1⟩ := blk2 he.a
      obtain ⟨b0, b1⟩ := blk2 he.b
      obtain ⟨F', FP', FR', P', hp, hk⟩ := he.pair
      clear he HN HG1 HX1 HC HB HX0 HG0 HGW HNF HF HFG
      by_cases hm : m = 0
      · subst hm
        have HT := hid (tells_ok hp i1 i2 (by omega))
        have HK := hid hk; clear hk hp
        go_wp2_with (first | (go_at_call 96; refine HT.out.mono ?_; rintro e w3 ⟨rfl, F3, vt3, hp3, hk3⟩; have HP3 := hid hp3; have HK3 := hid (HK.out.trans hk3); clear hp3 hk3))
        go_ret
        exact ⟨rfl, F3, ⟨x, r, vt3, told ++ [(i1, i2)], FP', FR', N, sp, P', by simp; omega, HP3.out⟩, HK3.out⟩
      · have HT := hid (fun W => tells_err W gp i1 i2 m hm)
        have HK := hid hk; have HP := hid hp; clear hk hp
        go_wp2_with (first | (go_at_call 96; refine (HT.out _).mono ?_; rintro e w3 ⟨rfl, hb3⟩; have HP3 := hid (HP.out.keep hb3); have HK3 := hid (HK.out.after hb3); clear hb3))
        go_ret
        exact ⟨rfl, F', ⟨x, r, vt, told, FP', FR', N, sp, P', by omega, HP3.out⟩, HK3.out⟩
end

end Go.Proofs.YtnkpogjiiohapaaGreatDoor
