/- Our own text (UnClaimA). -/
import Derived.Deep.CutBlock
import Derived.Deep.DeepCutAuto
import Derived.Deep.Slices
import Derived.ReadsIn
import Derived.Test.YtnkpogjiiohapaaGreatDoorB49
import Derived.Test.YtnkpogjiiohapaaGreatDoorA41
import Derived.Test.YtnkpogjiiohapaaGreatDoorRows
import Derived.ProofKit
import Derived.OpenShut
import Derived.Deep.DeepHandedRow
import Derived.Lib.LaidTab
import Derived.SizedLaws
set_option linter.unusedSimpArgs false
set_option linter.unusedVariables false

/-! ULawK: quirekeep: Unseen. -/
namespace Go.Proofs.YtnkpogjiiohapaaGreatDoor
open Go.RowKit
attribute [local go_sem ↓] Go.wp_at_zero Go.wp_at_succ

/-- Numbers, as they lie. -/
def isNums (w : World) (a : Option Addr) (n : Nat) : Prop := ∀ i, i < n → ∃ g o z, a = some ⟨g, o, none⟩ ∧ intOk z ∧ w.cell? ⟨g, o + i, none⟩ = some (.int .i64 z)
/-- Two rooms in which the same was done. -/
def TwoS (B : Nat) (w0 w : World) (N ta ra spa tb rb spb : Nat) (ls : PId) : Prop := ∃ Ma sa Mb sb, TwoM B w N ta ra spa tb rb spb ls Ma sa Mb sb ∧ Sim N Ma Mb sa sb ∧ Below B w0 w
/-- One of them is a step ahead. -/
def HalfS (p : Stp) (B : Nat) (w0 w : World) (N ta ra spa tb rb spb : Nat) (ls : PId) : Prop := ∃ Ma sa Mb sb M1 s1, RoomOk N Ma sa ∧ Sim N Ma Mb sa sb ∧ DoesX p N ls Ma sa M1 s1 ∧ TwoM B w N ta ra spa tb rb spb ls M1 s1 Mb sb ∧ Below B w0 w
section
theorem TwoS.le {B : Nat} {w0 w : World} {N ta ra spa tb rb spb : Nat} {ls : PId} (h : TwoS B w0 w N ta ra spa tb rb spb ls) : B ≤ w.heap.size := by
  obtain ⟨Ma, sa, Mb, sb, h1, _⟩ := h
  obtain ⟨Z, hq, hp⟩ := h1.one
  obtain ⟨Fa, Ia, xa, Fb, Ib, xb, g1, g2, g3, g4⟩ := h1
  rcases Nat.eq_zero_or_pos B with h0 | h0
  · omega
  · have := g1.zlt (B - 1) (.inl (by omega))
    omega
theorem TwoS.keep {B : Nat} {w0 w : World} {N ta ra spa tb rb spb : Nat} {ls : PId} (h : TwoS B w0 w N ta ra spa tb rb spb ls) {w' : World} (hb : Below w.heap.size w w') : TwoS B w0 w' N ta ra spa tb rb spb ls := by
  have hl := h.le
  obtain ⟨Ma, sa, Mb, sb, h1, h2, h3⟩ := h
  exact ⟨Ma, sa, Mb, sb, h1.keep hb, h2, h3.trans (hb.mono hl)⟩
theorem TwoS.does1 {B : Nat} {w0 w : World} {N ta ra spa tb rb spb : Nat} {ls : PId} (h : TwoS B w0 w N ta ra spa tb rb spb ls) (h2 : 2 ≤ N) (p : Stp) (hp : p.ok) : Calls Tryz.prog 15 #[.pointer (some ⟨ta, 0, none⟩), .agg #[.int .i64 p.k, .int .i64 p.c, .int .i64 p.d, .int .i64 p.a, .int .i64 p.n]] w fun e w' => (∃ v, e = .returned v) ∧ HalfS p B w0 w' N ta ra spa tb rb spb ls := by
  obtain ⟨Ma, sa, Mb, sb, h1, h3, h4⟩ := h
  obtain ⟨Z, hq, hback⟩ := h1.one
  refine (does_x hq h2 p hp).mono ?_
  rintro e w' ⟨he, ⟨M1, s1, hd, hq1⟩, hz⟩
  obtain ⟨g1, g2⟩ := hback w' M1 s1 hq1 hz
  exact ⟨he, Ma, sa, Mb, sb, M1, s1, hq.i.ok, h3, hd, g1, h4.trans g2⟩
theorem HalfS.does2 {B : Nat} {w0 w : World} {N ta ra spa tb rb spb : Nat} {ls : PId} {p : Stp} (h : HalfS p B w0 w N ta ra spa tb rb spb ls) (h2 : 2 ≤ N) (hp : p.ok) : Calls Tryz.prog 15 #[.pointer (some ⟨tb, 0, none⟩), .agg #[.int .i64 p.k, .int .i64 p.c, .int .i64 p.d, .int .i64 p.a, .int .i64 p.n]] w fun e w' => (∃ v, e = .returned v) ∧ TwoS B w0 w' N ta ra spa tb rb spb ls := by
  obtain ⟨Ma, sa, Mb, sb, M1, s1, hok, h3, hd1, h1, h4⟩ := h
  obtain ⟨Z, hq, hback⟩ := h1.two
  refine (does_x hq h2 p hp).mono ?_
  rintro e w' ⟨he, ⟨M2, s2, hd, hq1⟩, hz⟩
  obtain ⟨g1, g2⟩ := hback w' M2 s2 hq1 hz
  exact ⟨he, M1, s1, M2, s2, g1, Sim.does h2 h3 hok hq.i.ok hd1 hd, h4.trans g2⟩
theorem HalfS.bel {B : Nat} {w0 w : World} {N ta ra spa tb rb spb : Nat} {ls : PId} {p : Stp} (h : HalfS p B w0 w N ta ra spa tb rb spb ls) : Below B w0 w := by
  obtain ⟨Ma, sa, Mb, sb, M1, s1, hok, h3, hd1, h1, h4⟩ := h
  exact h4
theorem TwoS.bel {B : Nat} {w0 w : World} {N ta ra spa tb rb spb : Nat} {ls : PId} (h : TwoS B w0 w N ta ra spa tb rb spb ls) : Below B w0 w := by
  obtain ⟨Ma, sa, Mb, sb, h1, h2, h3⟩ := h
  exact h3
theorem TwoS.tabs {B : Nat} {w0 w : World} {N ta ra spa tb rb spb : Nat} {ls : PId} (h : TwoS B w0 w N ta ra spa tb rb spb ls) : isTab w ta N ra ls ∧ isTab w tb N rb ls := by
  obtain ⟨Ma, sa, Mb, sb, h1, h2, h3⟩ := h
  exact ⟨h1.tab1, h1.tab2⟩
theorem TwoS.trim {B : Nat} {w0 w : World} {N ta ra spa tb rb spb : Nat} {ls : PId} (h : TwoS B w0 w N ta ra spa tb rb spb ls) {c : Nat} (hc : c < N) : Calls Tryz.prog 21 #[.pointer (some ⟨rb, 0, none⟩), .int .i64 c] w fun e w' => (∃ n : Int, e = .returned (.tuple #[.int .i64 n, .int .i64 0])) ∧ TwoS B w0 w' N ta ra spa tb rb spb ls := by
  obtain ⟨Ma, sa, Mb, sb, h1, h3, h4⟩ := h
  obtain ⟨Z, hq, hback⟩ := h1.two
  obtain ⟨F, I, x, hr⟩ := hq.i
  refine (gTrim hr.d hc).mono ?_
  rintro e w' ⟨st, _, rfl, hto⟩
  have hi := hr.to hto hr.nice
  obtain ⟨g1, g2⟩ := hback w' Mb _ ⟨hi.1, hq.l.went (Went.same (M := Mb) (ch := none) (s' := trimS sb c (leadN st (sb.kept c))) rfl rfl)⟩ hi.2
  exact ⟨⟨_, rfl⟩, Ma, sa, Mb, _, g1, ⟨h3.made, h3.has, h3.gt, h3.early, h3.ms⟩, h4.trans g2⟩
/-- What both show, and have heard. -/
def SeenS (w : World) (N ra rb c : Nat) (T : ByteArray) (H : List Int) : Prop := H.length = N ∧
  (∀ W, Below w.heap.size w W → Pow W → Calls Tryz.prog 28 #[.pointer (some ⟨ra, 0, none⟩), .int .i64 c] W fun e w' => e = .returned (.tuple #[.string T, .int .i64 0]) ∧ Below W.heap.size W w') ∧
  (∀ W, Below w.heap.size w W → Pow W → Calls Tryz.prog 28 #[.pointer (some ⟨rb, 0, none⟩), .int .i64 c] W fun e w' => e = .returned (.tuple #[.string T, .int .i64 0]) ∧ Below W.heap.size W w') ∧
  (∀ W, Below w.heap.size w W → Calls Tryz.prog 25 #[.pointer (some ⟨ra, 0, none⟩), .int .i64 c] W fun e w' => ∃ g cap, e = .returned (.tuple #[.slice (some ⟨g, 0, none⟩) N cap, .int .i64 0]) ∧ ownInts W.heap.size w' (.slice (some ⟨g, 0, none⟩) N cap) H ∧ Below W.heap.size W w') ∧
  (∀ W, Below w.heap.size w W → Calls Tryz.prog 25 #[.pointer (some ⟨rb, 0, none⟩), .int .i64 c] W fun e w' => ∃ g cap, e = .returned (.tuple #[.slice (some ⟨g, 0, none⟩) N cap, .int .i64 0]) ∧ ownInts W.heap.size w' (.slice (some ⟨g, 0, none⟩) N cap) H ∧ Below W.heap.size W w')
theorem TwoS.seen {B : Nat} {w0 w : World} {N ta ra spa tb rb spb : Nat} {ls : PId} (h : TwoS B w0 w N ta ra spa tb rb spb ls) {c : Nat} (hc : c < N) : ∃ T H, SeenS w N ra rb c T H := by
  obtain ⟨Ma, sa, Mb, sb, h1, h3, h4⟩ := h
  have hR := h3.R h1.ok1 h1.ok2 hc
  have hH := h3.hasRow hc
  obtain ⟨Za, hqa, _⟩ := h1.one
  obtain ⟨Zb, hqb, _⟩ := h1.two
  refine ⟨textG (ROf (sa.ops c)) 4 (0, 0), hasL N (sa.has c), hasL_len .., fun W hb hp => (hqa.keep hb).shows hc hp, fun W hb hp => ?_, fun W hb => ?_, fun W hb => ?_⟩
  · rw [hR]
    exact (hqb.keep hb).shows hc hp
  · refine ((hqa.keep hb).heard hc).mono ?_
    rintro e w' ⟨g, cap, rfl, hu, hb'⟩
    rw [hasL_len] at hu
    exact ⟨g, cap, rfl, hu, hb'⟩
  · refine ((hqb.keep hb).heard hc).mono ?_
    rintro e w' ⟨g, cap, rfl, hu, hb'⟩
    rw [hasL_len, ← hH] at hu
    exact ⟨g, cap, rfl, hu, hb'⟩
end

end Go.Proofs.YtnkpogjiiohapaaGreatDoor

/-! ULawM: quirekeep: Unseen, for all arguments. -/
namespace Go.Proofs.YtnkpogjiiohapaaGreatDoor
open Go.RowKit
attribute [local go_sem ↓] Go.wp_at_zero Go.wp_at_succ

theorem cel3 {W : World} {tb N r : Nat} {ls : PId} (h : isTab W tb N r ls) {A : Addr} {v : Value} (hz : W.cell? A = some v) : W.cell? ⟨tb, 0, none⟩ = some (.int .i64 N) ∧ W.cell? ⟨tb, 1, none⟩ = some (.pointer (some ⟨r, 0, none⟩)) ∧ W.cell? A = some v := ⟨(h.cells).1, (h.cells).2.1, hz⟩
theorem rem2 (n : Int) : -9223372036854775808 ≤ n.tmod 2 ∧ n.tmod 2 < 9223372036854775808 := by
  have h1 := Int.tmod_lt_of_pos n (show (0 : Int) < 2 by omega)
  have h2 : -2 < n.tmod 2 := by
    by_cases h : 0 ≤ n
    · have := Int.tmod_nonneg 2 h
      omega
    · have h3 := Int.neg_tmod (-n) 2
      rw [Int.neg_neg] at h3
      have h4 := Int.tmod_lt_of_pos (-n) (show (0 : Int) < 2 by omega)
      omega
  omega

set_option maxRecDepth 1000000 in
set_option maxHeartbeats 8000000 in
theorem unseenLaw_g {w : World} (hp : Pow w) (raw one other : Int) (i0 : intOk raw) (i1 : intOk one) (i2 : intOk other) {a at' aw : Option Addr} {n ca nt ct nw cw : Nat} (hn : n ≤ 4000000000000) (hs : isSteps w a n) (ht : isNums w at' nt) (hw : isNums w aw nw) :
    Calls Tryz.prog 12 #[.int .i64 raw, .int .i64 one, .int .i64 other, .slice a n ca, .slice at' nt ct, .slice aw nw cw] w fun e w' => e = .returned (.bool true) ∧ Below w.heap.size w w' := by
  have HL1 := hid (laid_x hp i0 i1)
  have HL2 := hid (fun W (hb : Below w.heap.size w W) => laid_x (hp.keep hb) i0 i2)
  have HS := hid hs; have HPW := hid hp; have HTR := hid ht; have HWH := hid hw
  clear hs hp ht hw i0 i1 i2
  obtain ⟨q, hq⟩ : ∃ q : Nat, q = min n 150 := ⟨_, rfl⟩
  have hqn : q ≤ n ∧ q ≤ 150 := by omega
  have hmin : min (n : Int) 150 = (q : Int) := by omega
  clear hq
  have hrl := pickN_lt raw (show 0 < 3 by omega)
  go_enter Tryz.func12, Tryz.ntmps12
  go_wp2_with fail
  refine HL1.out.mono ?_
  rintro e w1 ⟨hb1, ta, ra, spa, t, v, t', v', sa, rfl, hta, hia, hsa⟩
  have HA := hid (And.intro hia hsa); have HB1 := hid hb1; clear hia hsa hb1
  go_wp2_with fail
  refine (HL2.out w1 HB1.out).mono ?_
  rintro e w2 ⟨hb2, tb, rb, spb, u, x, u', x', sb, rfl, htb, hib, hsb⟩
  have HTS := hid (show TwoS w.heap.size w w2 (2 + pickN raw 3) ta ra spa tb rb spb (1, 0) from ⟨_, sa, _, sb, TwoM.start HB1.out.size HA.out.1 (laid_has HA.out.2) hb2 hib (laid_has hsb) htb, laid_sim (by omega) HA.out.2 HA.out.1.ok hsb hib.ok, HB1.out.trans (hb2.mono HB1.out.size)⟩)
  clear hib hsb hb2 hta htb HA HB1 HL1 HL2
  obtain ⟨N, hN⟩ : ∃ N, N = 2 + pickN raw 3 := ⟨_, rfl⟩
  have h2 : 2 ≤ N := by omega
  have hN4 : N ≤ 5 := by omega
  rw [← hN] at HTS
  clear hN hrl
  go_wp2_with fail
  go_loopw [14, 18] (fun ok i wr => ∃ k : Nat, k ≤ q + 1 ∧ ok = .bool true ∧ i = .int .i64 k ∧ TwoS w.heap.size w wr N ta ra spa tb rb spb (1, 0)) (fun _ i _ => q + 1 - (intOf i).toNat)
  case atStart => exact ⟨0, Nat.zero_le _, rfl, rfl, HTS.out⟩
  case round =>
    obtain ⟨k, hk, rfl, rfl, hts⟩ := hrel
    have HT := hid hts; clear hts
    by_cases hle : k ≤ q
    · have hle' : (k : Int) ≤ (q : Int) := by omega
      have hk0 : (0 : Int) ≤ (k : Int) := Int.natCast_nonneg _
      go_upto_if 61 with fail
      go_cut [] (fun wc => TwoS w.heap.size w wc N ta ra spa tb rb spb (1, 0))
      case first =>
       as_aux_lemma =>
        by_cases hlt : k < q
        · have hlt' : (k : Int) < (q : Int) := by omega
          obtain ⟨g, off, p, rfl, hpo, c0, c1, c2, c3, c4⟩ := HS.out k (by omega)
          have hk1 : (k : Int) < (n : Int) := by omega
          have HC := hid (And.intro c0 (And.intro c1 (And.intro c2 (And.intro c3 c4))))
          have HD1 := hid (HT.out.does1 h2 p hpo)
          have HPO := hid hpo; clear hpo
          replace c0 := keep HT.out.bel c0
          replace c1 := keep HT.out.bel c1
          replace c2 := keep HT.out.bel c2
          replace c3 := keep HT.out.bel c3
          replace c4 := keep HT.out.bel c4
          go_wp2_with fail
          refine HD1.out.mono ?_
          rintro e w3 ⟨⟨ev, rfl⟩, hh⟩
          have HH := hid hh; clear hh c0 c1 c2 c3 c4
          obtain ⟨c0, c1, c2, c3, c4⟩ := HC.out
          replace c0 := keep HH.out.bel c0
          replace c1 := keep HH.out.bel c1
          replace c2 := keep HH.out.bel c2
          replace c3 := keep HH.out.bel c3
          replace c4 := keep HH.out.bel c4
          have HD2 := hid (HH.out.does2 h2 HPO.out)
          go_wp2_with fail
          refine HD2.out.mono ?_
          rintro e w4 ⟨⟨ev', rfl⟩, hh⟩
          have HH4 := hid hh; clear hh c0 c1 c2 c3 c4
          go_wp2_with fail
          go_meet
          exact HH4.out
        · have hlt' : ¬ (k : Int) < (q : Int) := by omega
          go_wp2_with fail
          go_meet
          exact HT.out
      case rest =>
       as_aux_lemma =>
        have HT3 := hid hcut; clear hcut HT
        go_upto_region 11 with fail
        go_cut [85] (fun c wx => ∃ b : Bool, c = .bool b ∧ (b = true → k < nt) ∧ wx = wc)
        case first =>
         as_aux_lemma =>
          by_cases hkt : k < nt
          · obtain ⟨gt, ot, z, rfl, hz, hcz⟩ := HTR.out k hkt
            replace hcz := keep HT3.out.bel hcz
            have hkt' : (k : Int) < (nt : Int) := by omega
            have hw2 : IntKind.i64.wrap (z.tmod 2) = z.tmod 2 := Go.IntWalk.i64_in _ (by have := rem2 z; omega)
            go_wp2_with fail
            go_meet
            exact ⟨_, rfl, fun _ => hkt, rfl⟩
          · have hkt' : ¬ (k : Int) < (nt : Int) := by omega
            go_wp2_with fail
            go_meet
            exact ⟨false, rfl, fun h => (by cases h), rfl⟩
        case rest =>
         as_aux_lemma =>
          obtain ⟨b, rfl, hb, rfl⟩ := hcut
          go_upto_if 85 with fail
          go_cut [14] (fun ok wd => ok = .bool true ∧ TwoS w.heap.size w wd N ta ra spa tb rb spb (1, 0))
          case first =>
           as_aux_lemma =>
            cases b
            · go_wp2_with fail
              go_meet
              exact ⟨rfl, HT3.out⟩
            · obtain ⟨gt, ot, z, rfl, hz, hcz⟩ := HTR.out k (hb rfl)
              have hkt' : (k : Int) < (nt : Int) := by have := hb rfl; omega
              have HCZ := hid hcz
              replace hcz := keep HT3.out.bel hcz
              have HZ3 := hid hcz
              have HPK := hid (fun W => pick_g z hz N (by omega) (by omega) W)
              have hpc := pickN_lt z (show 0 < N by omega)
              have HTB := hid HT3.out.tabs.2
              have htl := blk_lt HTB.out
              have hgl := World.block_lt_of_cell? _ _ hcz
              simp only at hgl
              clear hz
              go_wp2_with fail
              go_region_held3 (fun W => W.cell? ⟨tb, 0, none⟩ = some (.int .i64 N) ∧ W.cell? ⟨tb, 1, none⟩ = some (.pointer (some ⟨rb, 0, none⟩)) ∧ W.cell? ⟨gt, ot + k, none⟩ = some (.int .i64 z)) (first | exact cel3 HT6.out.tabs.2 (keep HT6.out.bel HCZ.out) | exact cel3 HT5.out.tabs.2 HZ5.out | exact cel3 HTB.out HZ3.out)
                (first
                  | (go_at_call 20; refine (HPK.out _).mono ?_; rintro e w5 ⟨rfl, hb5⟩; have hb5' := Hid.out (below_drew_left hb5); have HT5 := hid (HT3.out.keep hb5'); have HZ5 := hid (keep hb5' HZ3.out); clear hb5 hb5'; have HTM := hid (fun W (hb : Below w5.heap.size w5 W) => (HT5.out.keep hb).trim hpc))
                  | (go_at_call 21; refine (HTM.out _ (by first | exact Below.refl _ _ | exact (Below.refl _ _).drew)).mono ?_; rintro e w6 ⟨⟨tn, rfl⟩, hts6⟩; have HT6 := hid hts6; clear hts6))
              all_goals (
                go_wp2_with fail
                go_meet
                exact ⟨rfl, HT6.out⟩)
          case rest =>
           as_aux_lemma =>
            obtain ⟨rfl, hts⟩ := hcut
            have HT4 := hid hts; clear hts HT3 hb
            have HLK := hid (looks_g (cap := cw) k fun hi => by
              obtain ⟨g, o, z, e, _, hz⟩ := HWH.out k hi
              exact ⟨g, o, z, e, keep HT4.out.bel hz⟩)
            go_wp2_with fail
            refine HLK.out.mono ?_
            rintro e w5 ⟨⟨yn, rfl⟩, hb5⟩
            have HT5 := hid (HT4.out.keep hb5); clear hb5 HT4 HLK
            go_wp2_with fail
            go_loopw [14, 22] (fun ok c wq => ∃ j : Nat, j ≤ N ∧ ok = .bool true ∧ c = .int .i64 j ∧ TwoS w.heap.size w wq N ta ra spa tb rb spb (1, 0)) (fun _ c _ => N - (intOf c).toNat)
            case atStart => exact ⟨0, Nat.zero_le _, rfl, rfl, HT5.out⟩
            case round =>
              obtain ⟨j, hj, rfl, rfl, htj⟩ := hrel
              have HTJ := hid htj; clear htj HT5
              obtain ⟨ta0, ta1, _, _⟩ := HTJ.out.tabs.1.cells
              have hal := blk_lt HTJ.out.tabs.1
              have hgo : (yn = true ∨ (yn = false ∧ k = q)) ∨ (yn = false ∧ ¬ k = q) := by
                cases yn
                · by_cases hkq : k = q
                  · exact .inl (.inr ⟨rfl, hkq⟩)
                  · exact .inr ⟨rfl, hkq⟩
                · exact .inl (.inl rfl)
              rcases hgo with (rfl | ⟨rfl, rfl⟩) | ⟨rfl, hkq⟩
              case inr =>
                have hkq' : ¬ (k : Int) = (q : Int) := by omega
                go_wp2
                go_roundw
                case rel => exact ⟨k + 1, by omega, rfl, by go_num, HTJ.out⟩
                case measure => first | (simp [intOf]; omega) | simp [intOf]
              all_goals (
                by_cases hjl : j < N
                · have hjl' : (j : Int) < (N : Int) := by omega
                  obtain ⟨T, H, hsn⟩ := HTJ.out.seen hjl
                  have HSN := hid hsn; clear hsn
                  go_wp2_with fail
                  refine (HSN.out.2.1 _ (Below.refl _ _) (HPW.out.keep HTJ.out.bel)).mono ?_
                  rintro e w6 ⟨rfl, hb6⟩
                  have HB6 := hid hb6; have HT6 := hid (HTJ.out.keep hb6); clear hb6 ta0 ta1 hal
                  obtain ⟨_, tb1, _, _⟩ := HT6.out.tabs.2.cells
                  have hbl := blk_lt HT6.out.tabs.2
                  go_wp2_with fail
                  refine (HSN.out.2.2.1 _ HB6.out (HPW.out.keep HT6.out.bel)).mono ?_
                  rintro e w7 ⟨rfl, hb7⟩
                  have HB7 := hid (HB6.out.trans (hb7.mono HB6.out.size)); have HT7 := hid (HT6.out.keep hb7); clear hb7 tb1 hbl
                  obtain ⟨_, ta1, _, _⟩ := HT7.out.tabs.1.cells
                  have hal := blk_lt HT7.out.tabs.1
                  go_wp2_with fail
                  refine (HSN.out.2.2.2.1 _ HB7.out).mono ?_
                  rintro e w8 ⟨ga, cpa, rfl, hua, hb8⟩
                  have HUA := hid hua; have HB8 := hid (HB7.out.trans (hb8.mono HB7.out.size)); have HT8 := hid (HT7.out.keep hb8); clear hb8 ta1 hal hua
                  obtain ⟨_, tb1, _, _⟩ := HT8.out.tabs.2.cells
                  have hbl := blk_lt HT8.out.tabs.2
                  go_wp2_with fail
                  refine (HSN.out.2.2.2.2 _ HB8.out).mono ?_
                  rintro e w9 ⟨gb, cpb, rfl, hub, hb9⟩
                  have hHl := HSN.out.1
                  have HSI := hid (sameInts_g (owns_keep HUA.out hb9) hub rfl (by rw [hHl]; omega) (by rw [hHl]; omega))
                  have HT9 := hid (HT8.out.keep hb9); clear hb9 tb1 hbl hub hHl
                  go_wp2_with fail
                  refine HSI.out.mono ?_
                  rintro e w10 ⟨rfl, hb10⟩
                  have HT10 := hid (HT9.out.keep hb10); clear hb10
                  have hdt : decide (H = H) = true := decide_eq_true rfl
                  go_wp2
                  go_roundw
                  case rel => exact ⟨j + 1, by omega, rfl, by go_num, HT10.out⟩
                  case measure => first | (simp [intOf]; omega) | simp [intOf]
                · have hjl' : ¬ (j : Int) < (N : Int) := by omega
                  go_wp2
                  go_roundw
                  case rel => exact ⟨k + 1, by omega, rfl, by go_num, HTJ.out⟩
                  case measure => first | (simp [intOf]; omega) | simp [intOf])
    · have hle' : ¬ (k : Int) ≤ (q : Int) := by omega
      go_wp2
      go_ret
      exact ⟨rfl, HT.out.bel⟩

end Go.Proofs.YtnkpogjiiohapaaGreatDoor

/-! QArgA: The arguments of quirekeep's laws, as the form reads them. -/
namespace Go.Proofs.YtnkpogjiiohapaaGreatDoor
open Go.RowKit Go.ChangeShapes Go.WideShapes Go.Deep

section
/-- A number: read without the memory. -/
theorem trodI {H : Type} {enc : TypeId × Value → H} {P : Program} {w w' : World} {base : Nat} {sp sp' : Nat → Bool} {held : Bool} {t : TypeId} (ht : P.underlying t = some (.int .i64)) (n : Nat) (cs : List Value) : DataW.trod enc P w base sp held n t cs = DataW.trod enc P w' base sp' held n t cs := by
  cases n with
  | zero => rfl
  | succ n =>
    unfold DataW.trod
    rw [ht]
    match cs with
    | [] => rfl
    | [c] => cases c <;> rfl
    | c :: _ :: _ => cases c <;> rfl
theorem trodS {H : Type} {enc : TypeId × Value → H} {P : Program} {w w' : World} {base : Nat} {sp sp' : Nat → Bool} {held : Bool} {t : TypeId} {fs : Array Field} (ht : P.underlying t = some (.struct fs)) (hf : ∀ f ∈ fs.toList, ∀ n cs, DataW.trod enc P w base sp held n f.type cs = DataW.trod enc P w' base sp' held n f.type cs) (n : Nat) (cs : List Value) : DataW.trod enc P w base sp held n t cs = DataW.trod enc P w' base sp' held n t cs := by
  cases n with
  | zero => rfl
  | succ n =>
    unfold DataW.trod
    rw [ht]
    have e : (fs.toList.mapM fun f => DataW.trod enc P w base sp held n f.type ((cs.drop f.offset).take (P.cellsOf f.type))) = fs.toList.mapM fun f => DataW.trod enc P w' base sp' held n f.type ((cs.drop f.offset).take (P.cellsOf f.type)) := mapM_congr_mem fun f hm => hf f hm _ _
    split <;> simp_all
theorem trodI_val {H : Type} {enc : TypeId × Value → H} {P : Program} {w : World} {base : Nat} {sp : Nat → Bool} {held : Bool} {t : TypeId} {n : Nat} {cs : List Value} {x : DataW H × List MemPlace} (ht : P.underlying t = some (.int .i64)) (h : DataW.trod enc P w base sp held n t cs = some x) : ∃ k, cs = [.int .i64 k] ∧ intOk k := by
  obtain ⟨k, h1, _, h3⟩ := DataW.trod_int ht h
  refine ⟨k, h1, ?_⟩
  simp [Lit.wf] at h3
  exact h3
end

section
theorem cellsStp : Tryz.prog.cellsOf 32 = 5 := by kernel_rfl
theorem cellsI : Tryz.prog.cellsOf 3 = 1 := by kernel_rfl
def stpC (p : Stp) : List Value := [.int .i64 p.k, .int .i64 p.c, .int .i64 p.d, .int .i64 p.a, .int .i64 p.n]
set_option maxRecDepth 100000 in
/-- A step, read. -/
theorem trod_stp {H : Type} {enc : TypeId × Value → H} {w : World} {base : Nat} {sp : Nat → Bool} {held : Bool} {n : Nat} {cs : List Value} {x : DataW H × List MemPlace} (h : DataW.trod enc Tryz.prog w base sp held n 32 cs = some x) : ∃ p : Stp, cs = stpC p ∧ p.ok := by
  obtain ⟨xs, m, rfl, rfl, hl, hlen, hf⟩ := DataW.trod_struct Tryz.underlying32 h
  rw [cellsStp] at hl
  match xs, hlen with
  | [y0, y1, y2, y3, y4], _ =>
    match cs, hl with
    | [c0, c1, c2, c3, c4], _ =>
      have f0 : DataW.trod enc Tryz.prog w base sp held m 3 [c0] = some y0 := by simpa [cellsI] using hf 0 _ rfl
      have f1 : DataW.trod enc Tryz.prog w base sp held m 3 [c1] = some y1 := by simpa [cellsI] using hf 1 _ rfl
      have f2 : DataW.trod enc Tryz.prog w base sp held m 3 [c2] = some y2 := by simpa [cellsI] using hf 2 _ rfl
      have f3 : DataW.trod enc Tryz.prog w base sp held m 3 [c3] = some y3 := by simpa [cellsI] using hf 3 _ rfl
      have f4 : DataW.trod enc Tryz.prog w base sp held m 3 [c4] = some y4 := by simpa [cellsI] using hf 4 _ rfl
      obtain ⟨k0, e0, h0⟩ := trodI_val Tryz.underlying3 f0
      obtain ⟨k1, e1, h1⟩ := trodI_val Tryz.underlying3 f1
      obtain ⟨k2, e2, h2⟩ := trodI_val Tryz.underlying3 f2
      obtain ⟨k3, e3, h3⟩ := trodI_val Tryz.underlying3 f3
      obtain ⟨k4, e4, h4⟩ := trodI_val Tryz.underlying3 f4
      simp only [List.cons.injEq, and_true] at e0 e1 e2 e3 e4
      subst e0 e1 e2 e3 e4
      exact ⟨⟨k0, k1, k2, k3, k4⟩, rfl, ⟨h0, h1, h2, h3, h4⟩⟩
set_option maxRecDepth 100000 in
theorem trod_stp_same {H : Type} {enc : TypeId × Value → H} {w : World} {base : Nat} {sp : Nat → Bool} {held : Bool} (w' : World) (sp' : Nat → Bool) (n : Nat) (cs : List Value) : DataW.trod enc Tryz.prog w base sp held n 32 cs = DataW.trod enc Tryz.prog w' base sp' held n 32 cs := by
  have hi : ∀ n cs, DataW.trod enc Tryz.prog w base sp held n 3 cs = DataW.trod enc Tryz.prog w' base sp' held n 3 cs := trodI Tryz.underlying3
  refine trodS Tryz.underlying32 (fun f hf => ?_) n cs
  simp only [List.mem_cons, List.not_mem_nil, or_false] at hf
  rcases hf with rfl | rfl | rfl | rfl | rfl <;> exact hi
end

/-- From 'for every i there is one' to one function. -/
theorem oneFor {α : Type} (d : α) {n : Nat} {p : Nat → α → Prop} (h : ∀ i, i < n → ∃ x, p i x) : ∃ f : Nat → α, ∀ i, i < n → p i (f i) := by
  have h1 : ∀ i, ∃ x, i < n → p i x := fun i => by
    by_cases hi : i < n
    · obtain ⟨x, hx⟩ := h i hi
      exact ⟨x, fun _ => hx⟩
    · exact ⟨d, fun h' => absurd h' hi⟩
  exact ⟨fun i => Classical.choose (h1 i), fun i => Classical.choose_spec (h1 i)⟩

/-- A slice's elements, as they lie. -/
def isRows (w : World) (sa : Option Addr) (n k : Nat) (Q : List Value → Prop) : Prop := ∀ i, i < n → ∃ g off cs, sa = some ⟨g, off, none⟩ ∧ Q cs ∧ ∀ j u, cs[j]? = some u → w.cell? ⟨g, off + i * k + j, none⟩ = some u
set_option maxRecDepth 100000 in
/-- A slice of plain elements, opened; and it reads as it did wherever nothing old has turned. -/
theorem open_rows {H : Type} {enc : TypeId × Value → H} {W : World} {tS tE : TypeId} {k : Nat} (hu : Tryz.prog.underlying tS = some (.slice tE)) (hk : Tryz.prog.cellsOf tE = k) (hk0 : 0 < k) {Q : List Value → Prop}
    (hread : ∀ n cs x, DataW.trod enc Tryz.prog W 0 (fun _ => true) true n tE cs = some x → Q cs)
    (hsame : ∀ (W' : World) (sp : Nat → Bool) n cs, DataW.trod enc Tryz.prog W' 0 sp true n tE cs = DataW.trod enc Tryz.prog W 0 (fun _ => true) true n tE cs)
    {v : Value} {d : DataW H} {ps : List MemPlace} (h : DataW.Trod enc Tryz.prog W 0 (fun _ => true) true tS v d ps) (hlt : ∀ p ∈ ps, p.block < W.heap.size) (hv : ∃ a n c, v = .slice a n c) :
    ∃ (sa : Option Addr) (n cap : Nat), v = .slice sa n cap ∧ isRows W sa n k Q ∧ (d = .nil ∧ n = 0 ∨ ∃ elems spare, d = .slice elems spare ∧ elems.length = n) ∧
      ∀ W', Below W.heap.size W W' → ∀ sp : Nat → Bool, (∀ p ∈ ps, sp p.block = true) → DataW.Trod enc Tryz.prog W' 0 sp true tS v d ps := by
  obtain ⟨fuel, h⟩ := h
  obtain ⟨va, vn, vc, rfl⟩ := hv
  rcases open_slice hu h with ⟨hc, hx⟩ | ⟨a, len, cap, m, n, D, Pl, hc, hb, hl, hm, hmm, hx, hall⟩
  · simp [Value.cells] at hc
    obtain ⟨rfl, rfl, rfl⟩ := hc
    simp only [Prod.mk.injEq] at hx
    obtain ⟨rfl, rfl⟩ := hx
    refine ⟨none, 0, 0, rfl, (fun i hi => (by cases hi)), .inl ⟨rfl, rfl⟩, (fun W' _ sp _ => ⟨1, ?_⟩)⟩
    simp [Value.cells, DataW.trod, hu]
  · simp [Value.cells] at hc
    obtain ⟨rfl, rfl, rfl⟩ := hc
    simp only [if_true] at hmm
    subst hmm
    simp only [Prod.mk.injEq] at hx
    obtain ⟨rfl, rfl⟩ := hx
    rw [hk] at hall
    obtain ⟨O, hO⟩ := oneFor (α := List Value) [] (p := fun i cs => Q cs ∧ W.cells? 0 (a.add (i * k)) k = some cs ∧ DataW.trod enc Tryz.prog W 0 (fun _ => true) true n tE cs = some (D i, Pl i)) (fun i hi => by
      obtain ⟨cs, h1, h2⟩ := hall i hi
      exact ⟨cs, hread _ _ _ h2, h1, h2⟩)
    refine ⟨some a, vn, m, rfl, fun i hi => ?_, .inr ⟨_, _, rfl, by simp⟩, fun W' hbel sp hsp => ?_⟩
    · obtain ⟨_, hcl, h1⟩ := World.cells?_some (hO i (by omega)).2.1
      have hs : a.spot = none := by
        obtain ⟨_, hc0, h1'⟩ := World.cells?_some (hO 0 (by omega)).2.1
        have h2 := h1' 0 hk0
        rw [List.getElem?_eq_getElem (by omega)] at h2
        have := World.cell?_spot h2
        simpa [Addr.add] using this
      obtain ⟨g, off, spot⟩ := a
      subst hs
      refine ⟨g, off, O i, rfl, (hO i (by omega)).1, fun j u hu' => ?_⟩
      have hj : j < k := by
        have := (List.getElem?_eq_some_iff.1 hu').1
        omega
      have h2 := h1 j hj
      rw [add_add, add_plain, ← Nat.add_assoc] at h2
      rw [h2]
      exact hu'
    · have hcarry : ∀ i, i < m → ∃ cs n, W'.cells? 0 (a.add (i * Tryz.prog.cellsOf tE)) (Tryz.prog.cellsOf tE) = some cs ∧ DataW.trod enc Tryz.prog W' 0 sp true n tE cs = some (D i, Pl i) := fun i hi => by
        refine ⟨_, n, World.cells?_carry (w := W) (by rw [hk]; exact (hO i hi).2.1) fun p hp => hbel.same ?_, (hsame W' sp n _).trans (hO i hi).2.2⟩
        have hpb : p.block = a.block := by
          simp only [MemPlace.row, List.mem_map] at hp
          obtain ⟨j, _, rfl⟩ := hp
          simp [MemPlace.block, Addr.add]; split <;> rfl
        rw [hpb]
        refine hlt (.cell a.block (a.off + 0)) (List.mem_append_left _ ?_)
        simp only [MemPlace.row, List.mem_map, List.mem_range]
        exact ⟨0, by rw [hk]; exact Nat.mul_pos (by omega) hk0, rfl⟩
      by_cases h0 : m = 0
      · subst h0
        obtain rfl : vn = 0 := by omega
        cases hs : sp a.block with
        | false =>
          have := shut_slice (enc := enc) (w := W') (held := true) (a := a) (spare := sp) (base := 0) hu (Nat.zero_le _) (Nat.le_refl 0) hm hs D Pl (fun i hi => by omega)
          simpa using this
        | true => exact shut_slice_whole (enc := enc) (w := W') (held := true) (a := a) (spare := sp) (base := 0) hu (Nat.zero_le _) (Nat.le_refl 0) hm hs D Pl hcarry
      · refine shut_slice_whole (enc := enc) (w := W') (held := true) (a := a) (spare := sp) (base := 0) hu (Nat.zero_le _) hl hm (hsp (.cell a.block (a.off + 0)) (List.mem_append_left _ ?_)) D Pl hcarry
        simp only [MemPlace.row, List.mem_map, List.mem_range]
        exact ⟨0, by rw [hk]; exact Nat.mul_pos (by omega) hk0, rfl⟩

/-- The steps, opened. -/
theorem open_steps {H : Type} {enc : TypeId × Value → H} {W : World} {v : Value} {d : DataW H} {ps : List MemPlace} (h : DataW.Trod enc Tryz.prog W 0 (fun _ => true) true 26 v d ps) (hlt : ∀ p ∈ ps, p.block < W.heap.size) (hv : ∃ a n c, v = .slice a n c) :
    ∃ (sa : Option Addr) (n cap : Nat), v = .slice sa n cap ∧ isSteps W sa n ∧ (d = .nil ∧ n = 0 ∨ ∃ elems spare, d = .slice elems spare ∧ elems.length = n) ∧
      ∀ W', Below W.heap.size W W' → ∀ sp : Nat → Bool, (∀ p ∈ ps, sp p.block = true) → DataW.Trod enc Tryz.prog W' 0 sp true 26 v d ps := by
  obtain ⟨sa, n, cap, h1, h2, h3, h4⟩ := open_rows (Q := fun cs => ∃ p : Stp, cs = stpC p ∧ p.ok) Tryz.underlying26 cellsStp (by omega) (fun n cs x hx => trod_stp hx) (fun W' sp n cs => trod_stp_same _ _ n cs) h hlt hv
  refine ⟨sa, n, cap, h1, fun i hi => ?_, h3, h4⟩
  obtain ⟨g, off, cs, e, ⟨p, rfl, hp⟩, hc⟩ := h2 i hi
  exact ⟨g, off, p, e, hp, hc 0 _ rfl, hc 1 _ rfl, hc 2 _ rfl, hc 3 _ rfl, hc 4 _ rfl⟩
/-- Numbers, opened. -/
theorem open_nums {H : Type} {enc : TypeId × Value → H} {W : World} {v : Value} {d : DataW H} {ps : List MemPlace} (h : DataW.Trod enc Tryz.prog W 0 (fun _ => true) true 24 v d ps) (hlt : ∀ p ∈ ps, p.block < W.heap.size) (hv : ∃ a n c, v = .slice a n c) :
    ∃ (sa : Option Addr) (n cap : Nat), v = .slice sa n cap ∧ (∀ i, i < n → ∃ g o z, sa = some ⟨g, o, none⟩ ∧ W.cell? ⟨g, o + i, none⟩ = some (.int .i64 z)) ∧ (d = .nil ∧ n = 0 ∨ ∃ elems spare, d = .slice elems spare ∧ elems.length = n) ∧
      ∀ W', Below W.heap.size W W' → ∀ sp : Nat → Bool, (∀ p ∈ ps, sp p.block = true) → DataW.Trod enc Tryz.prog W' 0 sp true 24 v d ps := by
  obtain ⟨sa, n, cap, h1, h2, h3, h4⟩ := open_rows (Q := fun cs => ∃ z, cs = [Value.int .i64 z]) Tryz.underlying24 cellsI (by omega) (fun n cs x hx => by obtain ⟨z, hz, _⟩ := trodI_val Tryz.underlying3 hx; exact ⟨z, hz⟩) (fun W' sp n cs => trodI Tryz.underlying3 n cs) h hlt hv
  refine ⟨sa, n, cap, h1, fun i hi => ?_, h3, h4⟩
  obtain ⟨g, off, cs, e, ⟨z, rfl⟩, hc⟩ := h2 i hi
  refine ⟨g, off, z, e, ?_⟩
  have := hc 0 _ rfl
  rw [Nat.mul_one] at this
  exact this

end Go.Proofs.YtnkpogjiiohapaaGreatDoor

/-! UArgA: quirekeep: numbers, opened, each an int. -/
namespace Go.Proofs.YtnkpogjiiohapaaGreatDoor
open Go.ChangeShapes Go.WideShapes Go.ChangeAt Go.RowKit

theorem open_ints {H : Type} {enc : TypeId × Value → H} {W : World} {v : Value} {d : DataW H} {ps : List MemPlace} (h : DataW.Trod enc Tryz.prog W 0 (fun _ => true) true 24 v d ps) (hlt : ∀ p ∈ ps, p.block < W.heap.size) (hv : ∃ a n c, v = .slice a n c) :
    ∃ (sa : Option Addr) (n cap : Nat), v = .slice sa n cap ∧ isNums W sa n ∧ (d = .nil ∧ n = 0 ∨ ∃ elems spare, d = .slice elems spare ∧ elems.length = n) ∧
      ∀ W', Below W.heap.size W W' → ∀ sp : Nat → Bool, (∀ p ∈ ps, sp p.block = true) → DataW.Trod enc Tryz.prog W' 0 sp true 24 v d ps := by
  obtain ⟨sa, n, cap, h1, h2, h3, h4⟩ := open_rows (Q := fun cs => ∃ z, cs = [Value.int .i64 z] ∧ intOk z) Tryz.underlying24 cellsI (by omega) (fun n cs x hx => trodI_val Tryz.underlying3 hx) (fun W' sp n cs => trodI Tryz.underlying3 n cs) h hlt hv
  refine ⟨sa, n, cap, h1, fun i hi => ?_, h3, h4⟩
  obtain ⟨g, off, cs, e, ⟨z, rfl, hz⟩, hc⟩ := h2 i hi
  refine ⟨g, off, z, e, hz, ?_⟩
  have := hc 0 _ rfl
  rw [Nat.mul_one] at this
  exact this

end Go.Proofs.YtnkpogjiiohapaaGreatDoor

/-! QClaimA: What the claims of quirekeep's laws share. -/
namespace Go.Proofs.YtnkpogjiiohapaaGreatDoor
open Go.ChangeShapes Go.WideShapes Go.ChangeAt Go.RowKit

theorem post_below {H : Type} {enc : TypeId × Value → H} {P : Program} {f : Func} {s : ChangeSpec} {apart fresh handsOn again : Bool} {W W' : World} {args : Array Value} {v : Value} {ds gs : List (DataW H)} {before pa pv : List MemPlace}
    (hW : DataW.Whole enc P f.params.toList s.vars apart W args.toList ds gs before)
    (hres : ∀ (b : Nat) (sp : Nat → Bool) (hd : Bool), DataW.TrodAll enc P W' b sp hd f.resultTypes.toList (v.resultList f.resultTypes.size) (s.fn H (ds ++ gs)).results [])
    (hargs : ∀ sp : Nat → Bool, (∀ p ∈ before, sp p.block = true) → DataW.TrodAll enc P W' 0 sp true f.params.toList args.toList (s.fn H (ds ++ gs)).args pa)
    (hvars : ∀ sp : Nat → Bool, (∀ p ∈ before, sp p.block = true) → DataW.TrodVars enc P W' sp s.vars (s.fn H (ds ++ gs)).vars pv)
    (hps : before = pa ++ pv) (hb : Below W.heap.size W W')
    (hok : ∀ (j : Nat) (t : TypeId) (r : Value), f.resultTypes[j]? = some t → (v.resultList f.resultTypes.size)[j]? = some r → Value.okWide P W' .any 0 t r) :
    s.post enc P f apart fresh handsOn again W args v W' := by
  have hold : ∀ p ∈ before, (fun b => decide (b < W.heap.size)) p.block = true := fun p hp => by simpa using hW.lt p hp
  have hlt := hW.lt
  refine ⟨ds, gs, before, [], pa, pv, hW, hres _ _ _, hargs _ hold, hvars _ hold, World.keptBut_mono (fun p hp => ⟨hp, ?_⟩) (hb.frame _), fun _ => ?_⟩
  · rw [hps, List.mem_append] at hp
    exact Or.inr hp
  · obtain ⟨_, _, _, _, _, hz, hn⟩ := hW
    refine ⟨hok, _, _, ([] ++ pa) ++ pv, ⟨[] ++ pa, pv, trodAll_append (hargs _ (fun _ _ => rfl)) (hres _ _ _), hvars _ (fun _ _ => rfl), rfl, ?_, ?_⟩, ?_⟩
    · intro b off hp
      have hm : MemPlace.cell b off ∈ before := by rw [hps]; simpa using hp
      rw [hb.frozen (hlt _ hm)]
      exact hz b off hm
    · intro ha
      have := hn ha
      rw [hps] at this
      simpa using this
    · intro p hp _
      rw [hps]
      simpa using hp

theorem w_own : ownKnob Tryz.prog.godebug = none := by kernel_rfl
theorem g_pow : Tryz.prog.globalNamed "internal/strconv.uint64pow10" = some 1 := by kernel_rfl
theorem g_powT : (Tryz.prog.globals[1]?).map (·.type) = some 354 := by kernel_rfl
theorem cells_pow : Tryz.prog.cellsOf 354 = 20 := by kernel_rfl
theorem cells_u64 : Tryz.prog.cellsOf 315 = 1 := by kernel_rfl
theorem laid_tail {P : Program} {n : String} {d : DataW Unit} {r : List (String × DataW Unit)} {w : World} (h : laidMet P ((n, d) :: r) w) : laidMet P r w := by
  obtain ⟨ps, ⟨g, t, cs, fuel, p, q, _, _, _, _, h5, rfl⟩, hnd, hall⟩ := h
  exact ⟨q, h5, (List.nodup_append.1 hnd).2.1, fun b off hm => hall b off (List.mem_append_right _ hm)⟩

theorem bytes_stp : Tryz.prog.bytesOf 32 = 40 := by kernel_rfl

/-- The tables of math/bits. -/
def bits32 : List Int := [0, 1, 28, 2, 29, 14, 24, 3, 30, 22, 20, 15, 25, 17, 4, 8, 31, 27, 13, 23, 21, 19, 16, 7, 26, 12, 18, 6, 11, 5, 10, 9]
def bits64 : List Int := [0, 1, 56, 2, 57, 49, 28, 3, 61, 58, 42, 50, 38, 29, 17, 4, 62, 47, 59, 36, 45, 43, 51, 22, 53, 39, 33, 30, 24, 18, 12, 5, 63, 55, 48, 27, 60, 41, 37, 16, 46, 35, 44, 21, 52, 32, 23, 11, 54, 26, 40, 15, 34, 20, 31, 10, 25, 14, 19, 9, 13, 8, 7, 6]
/-- A table laid into its block. -/
def layTab (k : IntKind) (zs : List Int) : Obj → Obj
  | .cells _ t frozen => .cells (zs.map fun z => Value.int k z).toArray t frozen
  | o => o
def layAll (w : World) : World := { w with heap := ((w.heap.modify 1 (layTab .u64 Lib.pow10Tab)).modify 2 (layTab .u8 bits32)).modify 3 (layTab .u8 bits64) }

end Go.Proofs.YtnkpogjiiohapaaGreatDoor

/-! UnClaimA: The law Unseen: it answers true, and its arguments read afterwards as they read before. The three tables that the translation lists (math/bits.deBruijn32tab, deBruijn64tab, internal/strconv.uint64pow10) lie as the program's text lays them. -/
namespace Go.Proofs.YtnkpogjiiohapaaGreatDoor
open Go.ChangeShapes Go.WideShapes Go.ChangeAt Go.RowKit

/-- What the row's list gives: the table of powers. -/
theorem pow_of {W : World} (h : laidMetH Tryz.prog Rows.unseenRow.laid W) : Pow W := by
  have h1 : laidMet Tryz.prog Rows.unseenRow.laid W := h
  exact Lib.tabIs_of_head (rest := []) g_pow g_powT Tryz.underlying354 Tryz.underlying315 cells_u64 cells_pow (laid_tail (laid_tail h1))

set_option maxRecDepth 100000 in
/-- For all arguments and every world that holds the tables. -/
theorem contract (H : Type) (enc : TypeId × Value → H) (W : World) (base : Nat) (args : Array Value) (ds gs : List (DataW H)) (before : List MemPlace)
    (hval : ∀ (j : Nat) t v, Tryz.f12.params[j]? = some t → args[j]? = some v → Value.okWide Tryz.prog W .any base t v)
    (hW : DataW.Whole enc Tryz.prog Tryz.f12.params.toList Rows.unseenSpec.vars false W args.toList ds gs before) (hk : (DataW.weightsEach Tryz.prog (Tryz.f12.params.toList ++ (OpenSpec.ofChange Rows.unseenSpec).bare.plain.varTypes Tryz.prog) (ds ++ gs)).all (· ≤ reachBytes) = true) (hL : laidMetH Tryz.prog Rows.unseenRow.laid W) :
    Calls Tryz.prog 12 args W fun e W' => ∃ v, e = .returned v ∧ Rows.unseenSpec.post enc Tryz.prog Tryz.f12 false true false false W args v W' := by
  have hW' := hW
  have hlt := hW.lt
  obtain ⟨p, q, hA0, hV, rfl, hfz, hnd⟩ := hW
  have hA : DataW.TrodAll enc Tryz.prog W 0 (fun _ => true) true Tryz.f12.params.toList args.toList ds p := hA0
  rw [Tryz.params12] at hA hval hk
  obtain ⟨v0, vs0, d0, ds0, p0, q0, hargs, rfl, rfl, h0, r0⟩ := trodAll_cons hA
  obtain ⟨v1, vs1, d1, ds1, p1, q1, rfl, rfl, rfl, h1, r1⟩ := trodAll_cons r0
  obtain ⟨v2, vs2, d2, ds2, p2, q2, rfl, rfl, rfl, h2, r2⟩ := trodAll_cons r1
  obtain ⟨v3, vs3, d3, ds3, p3, q3, rfl, rfl, rfl, h3, r3⟩ := trodAll_cons r2
  obtain ⟨v4, vs4, d4, ds4, p4, q4, rfl, rfl, rfl, h4, r4⟩ := trodAll_cons r3
  obtain ⟨v5, vs5, d5, ds5, p5, q5, rfl, rfl, rfl, h5, r5⟩ := trodAll_cons r4
  obtain ⟨rfl, rfl, rfl⟩ := trodAll_nil r5
  obtain rfl : args = #[v0, v1, v2, v3, v4, v5] := by cases args; simp_all
  obtain ⟨rfl, rfl⟩ := trodVars_none hV
  clear hA0
  obtain ⟨z0, rfl, rfl, rfl, wf0⟩ := open_int Tryz.underlying3 (hval 0 _ v0 rfl rfl) h0
  obtain ⟨z1, rfl, rfl, rfl, wf1⟩ := open_int Tryz.underlying3 (hval 1 _ v1 rfl rfl) h1
  obtain ⟨z2, rfl, rfl, rfl, wf2⟩ := open_int Tryz.underlying3 (hval 2 _ v2 rfl rfl) h2
  simp only [List.append_nil, List.nil_append] at hW' hk hlt
  obtain ⟨a3, n3, c3, rfl, hs3, hd3, hag3⟩ := open_steps h3 (fun p hp => hlt p (List.mem_append_left _ hp)) (okWide_slice Tryz.underlying26 (hval 3 _ v3 rfl rfl))
  have hlen3 : n3 ≤ 4000000000000 := by
    rcases hd3 with ⟨_, rfl⟩ | ⟨elems, spare, rfl, hl⟩
    · simp
    · have := sized_slice hk (j := 3) rfl rfl Tryz.underlying26
      rw [bytes_stp] at this
      unfold reachBytes at this
      omega
  obtain ⟨a4, n4, c4, rfl, hs4, hd4, hag4⟩ := open_ints h4 (fun p hp => hlt p (List.mem_append_right _ (List.mem_append_left _ hp))) (okWide_slice Tryz.underlying24 (hval 4 _ v4 rfl rfl))
  obtain ⟨a5, n5, c5, rfl, hs5, hd5, hag5⟩ := open_ints h5 (fun p hp => hlt p (List.mem_append_right _ (List.mem_append_right _ hp))) (okWide_slice Tryz.underlying24 (hval 5 _ v5 rfl rfl))
  have i0 : intOk z0 := by simp [Lit.wf] at wf0; exact wf0
  have i1 : intOk z1 := by simp [Lit.wf] at wf1; exact wf1
  have i2 : intOk z2 := by simp [Lit.wf] at wf2; exact wf2
  refine (unseenLaw_g (pow_of hL) z0 z1 z2 i0 i1 i2 hlen3 hs3 hs4 hs5).mono fun e W' hh => ?_
  obtain ⟨rfl, hb⟩ := hh
  exact ⟨_, rfl, post_below (pa := ([] ++ ([] ++ ([] ++ (p3 ++ (p4 ++ (p5 ++ []))))))) (pv := []) hW' (fun _ _ _ => trodAll_cons_mk (shut_bool Tryz.underlying4 _) trodAll_mk0) (fun sp hsp =>
      trodAll_cons_mk (shut_int Tryz.underlying3 wf0) (trodAll_cons_mk (shut_int Tryz.underlying3 wf1) (trodAll_cons_mk (shut_int Tryz.underlying3 wf2) (trodAll_cons_mk (hag3 W' hb sp fun p hp => hsp p (List.mem_append_left _ hp)) (trodAll_cons_mk (hag4 W' hb sp fun p hp => hsp p (List.mem_append_right _ (List.mem_append_left _ hp))) (trodAll_cons_mk (hag5 W' hb sp fun p hp => hsp p (List.mem_append_right _ (List.mem_append_right _ hp))) (trodAll_mk0))))))) (fun _ _ => rfl) (by simp) hb (ok_one (by kernel_rfl) rfl (okWide_bool_mk Tryz.underlying4 _))⟩

end Go.Proofs.YtnkpogjiiohapaaGreatDoor
