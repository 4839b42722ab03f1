/- Our own text (LLawE). -/
import Derived.Deep.CutBlock
import Derived.Deep.DeepCutAuto
import Derived.Test.YtnkpogjiiohapaaGreatDoorB44
set_option linter.unusedSimpArgs false
set_option linter.unusedVariables false

/-! LLawE: quirekeep: Landed, where its room is laid. -/
namespace Go.Proofs.YtnkpogjiiohapaaGreatDoor
open Go.RowKit
attribute [local go_sem ↓] Go.wp_at_zero Go.wp_at_succ

set_option maxRecDepth 1000000 in
set_option maxHeartbeats 16000000 in
theorem landedLaw_g {w : World} (raw spc : Int) {a : Option Addr} {n ca : Nat} {b : Option Addr} {m cb : Nat} (hn : n ≤ 4000000000000) (hm : m ≤ 4000000000000) (hs : isSteps w a n) (ht : isSteps w b m) (hl : Calls Tryz.prog 14 #[.int .i64 raw, .int .i64 spc] w fun e w' => LaidD w e w') :
    Calls Tryz.prog 11 #[.int .i64 raw, .int .i64 spc, .slice a n ca, .slice b m cb] w fun e w' => e = .returned (.bool true) ∧ Below w.heap.size w w' := by
  have HL := hid hl; have HS := hid hs; have HTS := hid ht
  clear hl hs ht
  go_enter Tryz.func11, Tryz.ntmps11
  go_wp2_with fail
  refine HL.out.mono ?_
  rintro e w1 ⟨hb1, tb, r, N, sp, ls, rfl, h2, M0, s0', hq⟩
  have HB1 := hid hb1; have HQ1 := hid (show hasL' w.heap.size tb w1 r N sp ls from ⟨_, M0, s0', hq, fun k hk => .inl hk⟩)
  have hN4 := hq.i.hN
  clear hb1 hq
  go_upto_block 0 with fail
  go_cut [11] (fun i wc => hasL' w.heap.size tb wc r N sp ls ∧ Below w.heap.size w wc)
  case first =>
    go_wp2_with fail
    go_loopw [11] (fun i wr => ∃ k : Nat, k ≤ n ∧ k ≤ 150 ∧ i = .int .i64 k ∧ hasL' w.heap.size tb wr r N sp ls ∧ Below w.heap.size w wr) (fun i _ => 150 - (intOf i).toNat)
    case atStart => exact ⟨0, Nat.zero_le _, Nat.zero_le _, rfl, HQ1.out, HB1.out⟩
    case round =>
      obtain ⟨k, hkn, hk8, rfl, hinv, hbw⟩ := hrel
      have HI := hid hinv; have HB := hid hbw; clear hinv hbw
      by_cases hlt : k < n ∧ k < 150
      · obtain ⟨hlt1, hlt2⟩ := hlt
        have hi1 : (k : Int) < (n : Int) := by omega
        have hi2 : (k : Int) < 150 := by omega
        have hk0 : (0 : Int) ≤ (k : Int) := Int.natCast_nonneg _
        obtain ⟨g, off, p, rfl, hpo, c0, c1, c2, c3, c4⟩ := HS.out k hlt1
        replace c0 := keep HB.out c0
        replace c1 := keep HB.out c1
        replace c2 := keep HB.out c2
        replace c3 := keep HB.out c3
        replace c4 := keep HB.out c4
        obtain ⟨Z, M, s, hi⟩ := HI.out
        have HD := hid (does_g hi.q h2 p hpo)
        have HZ := hid hi.z0
        clear hpo hi
        go_wp2_with fail
        refine HD.out.mono ?_
        rintro e w2 ⟨⟨ev, rfl⟩, ⟨M2, s2, hw2, hq2⟩, hz2⟩
        have HI2 := hid (show hasL' w.heap.size tb w2 r N sp ls from ⟨Z, M2, s2, hq2, HZ.out⟩)
        have HB2 := hid (HB.out.trans (hz2.below HZ.out)); clear hw2 hq2 hz2
        go_wp2
        go_roundw
        case rel => exact ⟨k + 1, by omega, by omega, by go_num, HI2.out, HB2.out⟩
        case measure => simp [intOf]; omega
      · by_cases hx : (k : Int) < (n : Int)
        · have hy : ¬ (k : Int) < 150 := by omega
          go_wp2
          go_meet
          exact ⟨HI.out, HB.out⟩
        · go_wp2
          go_meet
          exact ⟨HI.out, HB.out⟩
  case rest =>
    obtain ⟨hq0, hb0⟩ := hcut
    have HQ0 := hid hq0; have HB0 := hid hb0; clear hq0 hb0
    go_wp2_with fail
    go_loopw [10, 12] (fun ok i wr => ∃ k : Nat, k ≤ m ∧ k ≤ 60 ∧ ok = .bool true ∧ i = .int .i64 k ∧ hasL' w.heap.size tb wr r N sp ls ∧ Below w.heap.size w wr) (fun _ i _ => 60 - (intOf i).toNat)
    case atStart => exact ⟨0, Nat.zero_le _, Nat.zero_le _, rfl, rfl, HQ0.out, HB0.out⟩
    case round =>
      obtain ⟨j, hjm, hj6, rfl, rfl, hinv, hbw⟩ := hrel
      have HI2 := hid hinv; have HB2 := hid hbw; clear hinv hbw
      by_cases hjl : j < m ∧ j < 60
      · obtain ⟨hj1, hj2⟩ := hjl
        have hi1 : (j : Int) < (m : Int) := by omega
        have hi2 : (j : Int) < 60 := by omega
        have hj0 : (0 : Int) ≤ (j : Int) := Int.natCast_nonneg _
        obtain ⟨g, off, p', rfl, hpo, d0, d1, d2, d3, d4⟩ := HTS.out j hj1
        have HC := hid (And.intro d0 (And.intro d1 (And.intro d3 d4)))
        clear d0 d1 d2 d3 d4
        obtain ⟨Z, M, s, hi⟩ := HI2.out
        have HH := hid hi; have HPO := hid hpo
        have HP1 := hid (fun W => pick_g p'.c hpo.2.1 N (by omega) (by omega) W)
        have HPA := hid (fun W (l : Nat) (hl : l ≤ 300) => (show Calls Tryz.prog 20 #[.int .i64 p'.a, .int .i64 ((l : Int) + 1)] W _ from pick_g p'.a hpo.2.2.2.1 (l + 1) (by omega) (by omega) W))
        have HPK := hid (fun W => (show Calls Tryz.prog 20 #[.int .i64 p'.k, .int .i64 4] W _ from pick_g p'.k hpo.1 4 (by omega) (by omega) W))
        have hcN := pickN_lt p'.c (show 0 < N by omega)
        have hkl := pickN_lt p'.k (show 0 < 4 by omega)
        have HT2 := hid hi.q.i.tab
        have HC2 := hid (keep HB2.out HC.out.2.1)
        clear hpo hi
        go_wp2_with fail
        go_region_held3 (fun W => W.cell? ⟨g, off + j * 5 + 1, none⟩ = some (.int .i64 p'.c) ∧ W.cell? ⟨tb, 0, none⟩ = some (.int .i64 N)) (first | exact ⟨HC3.out, (HT3.out.cells).1⟩ | exact ⟨HC2.out, (HT2.out.cells).1⟩)
          (first
            | (go_at_call 20; refine (HP1.out _).mono ?_; rintro e w3 ⟨rfl, hb3⟩; have hb3' := Hid.out (below_drew_left hb3); have HT3 := hid (HT2.out.keep hb3'); have HC3 := hid (keep hb3' HC2.out); have HB3 := hid hb3'; clear hb3 hb3'))
        all_goals (
          have HE := hid (fun W (hb : Below w3.heap.size w3 W) => ((HH.out.keep HB3.out).keep hb).q.elsP hcN)
          go_wp2_with fail
          go_region_held3 (fun W => W.cell? ⟨tb, 1, none⟩ = some (.pointer (some ⟨r, 0, none⟩)) ∧ W.cell? ⟨tb, 2, none⟩ = some (.int .i64 ls.1) ∧ W.cell? ⟨tb, 3, none⟩ = some (.int .i64 ls.2)) (first | exact (HT4.out.cells).2 | exact (HT3.out.cells).2)
            (first
              | (go_at_call 29; refine (HE.out _ (Below.refl _ _).drew).mono ?_; rintro e w4 ⟨hb4, ua, uc, L, rfl, hua, hLe, hL3⟩; have hb4' := Hid.out (below_drew_left hb4); have HT4 := hid (HT3.out.keep hb4'); have HUA := hid hua; have HLE := hid hLe; have HB4 := hid hb4'; clear hb4 hb4' hua hLe))
          all_goals (
            have HI4 := hid ((HH.out.keep HB3.out).keep HB4.out)
            have HB24 := hid (HB2.out.trans ((HB3.out.trans (HB4.out.mono HB3.out.size)).mono HB2.out.size))
            go_wp2_with fail
            refine (own_gP (ownIds.at HUA.out) (by omega)).mono ?_
            rintro e w5 ⟨ba, bc, rfl, hbf, hb5⟩
            have HBF5 := hid hbf; have HB5 := hid hb5; clear hbf hb5
            have d3 := keep (HB24.out.trans (HB5.out.mono HB24.out.size)) HC.out.2.2.1
            have hwr : IntKind.i64.wrap ((L.length : Int) + 1) = (L.length : Int) + 1 := Go.IntWalk.i64_in _ (by omega)
            go_wp2_with fail
            refine (HPA.out _ L.length hL3).mono ?_
            rintro e w6 ⟨rfl, hb6⟩
            have HB6 := hid (HB5.out.trans (hb6.mono HB5.out.size)); have HB56 := hid hb6; clear hb6 d3 hwr
            have hil := pickN_lt p'.a (show 0 < L.length + 1 by omega)
            obtain ⟨i, hie⟩ : ∃ i, i = pickN p'.a (L.length + 1) := ⟨_, rfl⟩
            rw [← hie] at hil ⊢
            clear hie
            have d0 := keep (HB24.out.trans (HB6.out.mono HB24.out.size)) HC.out.1
            go_wp2_with fail
            refine (HPK.out _).mono ?_
            rintro e w7 ⟨rfl, hb7⟩
            have HB7 := hid (HB6.out.trans (hb7.mono HB6.out.size)); have HB57 := hid (HB56.out.trans (hb7.mono HB56.out.size)); clear hb7 d0
            have HI7 := hid (HI4.out.more HB7.out)
            have HBF7 := hid (owns_mono (owns_keep HBF5.out HB57.out) (Nat.zero_le _))
            have HBW7 := hid (HB24.out.trans (HB7.out.mono HB24.out.size))
            have HT7 := hid HI7.out.q.i.tab
            have hiL : i ≤ L.length := by omega
            have HIN := hid (fun W (hb : Below w7.heap.size w7 W) => (HI7.out.more hb).q.insertR hcN HLE.out i hiL p'.n HPO.out.2.2.2.2)
            have HSA := hid (fun W (hb : Below w7.heap.size w7 W) => (HI7.out.more hb).q.setAtR hcN HLE.out i hiL p'.n HPO.out.2.2.2.2)
            have HCA := hid (fun W (hb : Below w7.heap.size w7 W) => (HI7.out.more hb).q.cutAtR hcN HLE.out i hiL)
            have HZB := hid (show ∀ k, (Value.slice ba L.length bc).ownBlock = some k → Z k ∨ (w4.heap.size ≤ k ∧ k < w7.heap.size) from fun k hk => .inr (World.ownsRow.lt (owns_keep HBF5.out HB57.out) k hk))
            have hk : pickN p'.k 4 = 0 ∨ pickN p'.k 4 = 1 ∨ pickN p'.k 4 = 2 ∨ pickN p'.k 4 = 3 := by omega
            clear hkl HPA HPK HP1 HE HUA HT2 HT3 HT4 HC2 HC3 HB3 HB4 HB5 HB6 HB56 HBF5
            go_upto_block 4 with fail
            go_cut [16] from 52 to 268 (fun bf wc => ∃ va vc LX, bf = .slice va (List.length (α := PId) LX) vc ∧ WroteL w.heap.size tb r N sp ls (pickN p'.c N) LX (.slice va (List.length (α := PId) LX) vc) LX w wc)
            case first =>
              have d4 := keep HBW7.out HC.out.2.2.2
              rcases hk with hk | hk | hk | hk
              · as_aux_lemma =>
                rw [hk]
                clear hk HSA HCA
                go_wp2_with fail
                go_cut [18, 19] (fun p q we => ∃ (gb : Nat) (ia ib f : Int), p = .pointer (some ⟨gb, 0, none⟩) ∧ q = .int .i64 f ∧ InsX w.heap.size tb r N sp ls (pickN p'.c N) L i (.slice ba L.length bc) w gb ia ib f we)
                case first =>
                 as_aux_lemma =>
                  have htl7 := blk_lt HT7.out
                  have hgl7 := World.block_lt_of_cell? _ _ d4
                  simp only at hgl7
                  go_region_held3 (fun W => W.cell? ⟨tb, 1, none⟩ = some (.pointer (some ⟨r, 0, none⟩)) ∧ W.cell? ⟨tb, 2, none⟩ = some (.int .i64 ls.1) ∧ W.cell? ⟨tb, 3, none⟩ = some (.int .i64 ls.2) ∧ W.cell? ⟨g, off + j * 5 + 4, none⟩ = some (.int .i64 p'.n)) (first | exact cel4 HT8.out HD8.out | exact cel4 (cel4_al HT8.out HD8.out _).1 (cel4_al HT8.out HD8.out _).2 | exact cel4 (cel4_set HT8.out HD8.out (by omega) (by omega) _ _).1 (cel4_set HT8.out HD8.out (by omega) (by omega) _ _).2 | exact cel4 (cel4_set (cel4_set HT8.out HD8.out (by omega) (by omega) _ _).1 (cel4_set HT8.out HD8.out (by omega) (by omega) _ _).2 (by omega) (by omega) _ _).1 (cel4_set (cel4_set HT8.out HD8.out (by omega) (by omega) _ _).1 (cel4_set HT8.out HD8.out (by omega) (by omega) _ _).2 (by omega) (by omega) _ _).2 | exact cel4 HT7.out d4 | exact cel4 (HT7.out.keep (Below.refl _ _).drew) (keep (Below.refl _ _).drew d4) | exact cel4 (cel4_al HT7.out d4 _).1 (cel4_al HT7.out d4 _).2 | exact cel4 (HT7.out.keep ((Below.refl _ _).alloc (Nat.le_refl _) _).drew) (keep ((Below.refl _ _).alloc (Nat.le_refl _) _).drew d4))
                    (first
                      | (go_at_call 32; refine (HIN.out _ (by first | exact (Below.refl _ _).drew | exact ((Below.refl _ _).alloc (Nat.le_refl _) _).drew)).mono ?_; rintro e w8 ⟨ia, ib, f, rfl, hin⟩; have HT8 := hid (insTab hin); have HD8 := hid (keep (insBel hin HI7.out.z0 (by first | exact HBW7.out.drew | exact (HBW7.out.alloc HBW7.out.size _).drew)) HC.out.2.2.2); (try (have HA8 := hid (boxKept hin); have z0 := (blk2 HA8.out).1; have z1 := (blk2 HA8.out).2; have zf := blk_fz HA8.out; have zl := blk_lt HA8.out)); have HR := hid hin; clear hin))
                  all_goals (go_wp2_with fail; go_meet)
                  all_goals first
                    | exact ⟨_, ia, ib, f, rfl, rfl, insX_a HI7.out HBF7.out HZB.out HBW7.out (Nat.le_refl _) HR.out⟩
                    | exact ⟨_, ia, ib, f, rfl, rfl, insX_b HI7.out HBF7.out HZB.out HBW7.out (Nat.le_refl _) HR.out⟩
                case rest =>
                 as_aux_lemma =>
                  obtain ⟨gb, ia, ib, f, rfl, rfl, hX⟩ := hcut
                  clear HIN d4 HI7 HT7 HBF7 HZB HBW7
                  obtain ⟨z0, z1, hR⟩ := hX
                  rcases hR with ⟨rfl, hW⟩ | ⟨rfl, hW⟩
                  · have HWL := hid hW; clear hW
                    have hiI : (i : Int) ≤ (L.length : Int) := by omega
                    have hi0 : (0 : Int) ≤ (i : Int) := Int.natCast_nonneg _
                    have HIA := hid (ownIds.at HWL.out.2.1)
                    obtain ⟨ga, rfl⟩ | ⟨rfl, rfl, rfl⟩ : (∃ ga, ba = some ⟨ga, 0, none⟩) ∨ (ba = none ∧ L = [] ∧ bc = 0) := by
                      rcases HIA.out with ⟨e, hl⟩ | ⟨ga, cap, e, _⟩
                      · injection e with e1 _ e3; exact .inr ⟨e1, hl, e3⟩
                      · injection e with e1 _ _; exact .inl ⟨ga, e1⟩
                    · have hvo := HWL.out.2.1
                      obtain ⟨hbc, hbm⟩ := ids_cap hvo
                      unfold maxLen at hbm
                      have hbI : (i : Int) ≤ (bc : Int) := by omega
                      have hLb : (L.length : Int) ≤ (bc : Int) := by omega
                      have HS1 := hid (src_take HIA.out hiL)
                      clear hvo
                      go_wp2_with (first
                        | (at_builtin; refine app_many idC 2 16 65 36 (.agg #[.int .i64 0, .int .i64 0]) (by kernel_rfl) Tryz.underlying65 rfl (by omega) (fun _ => rfl) rfl (.tmp 173) (.tmp 176) rfl wc.heap.size (.slice none 0 0) [] (L.take i) rfl ?h1 (.slice (some ⟨ga, 0, none⟩) i bc) rfl HS1.out (ids_wf _) ?h3 ?h4 ?h5 ?_; (case h1 => exact World.ownsRow_nil _ _ _ _); (case h3 => simp only [List.length_append, List.length_take, List.length_drop, List.length_cons, List.length_nil]; omega); (case h4 => simp only [List.length_append, List.length_take, List.length_drop, List.length_cons, List.length_nil, maxLen]; omega); (case h5 => exact Nat.le_refl _); intro v1 w9 ho1 hg1; have HO1 := hid (show ownIds wc.heap.size w9 v1 (L.take i) from by unfold ownIds; simpa using ho1); have HB9 := hid (show Below wc.heap.size wc w9 from ⟨hg1.os, hg1.tape, hg1.output, hg1.size, fun k hk => hg1.block k hk (by simp [Value.ownBlock])⟩); clear ho1 hg1; have y0 := keep HB9.out z0; have y1 := keep HB9.out z1; have hgl9 : gb < w9.heap.size := World.block_lt_of_cell? _ _ y0; have HAL := hid ((Below.refl w9.heap.size w9).alloc (Nat.le_refl _) (.cells #[.int .i64 ia, .int .i64 ib] 36)); have HO1' := hid (show ownIds wc.heap.size (w9.alloc (.cells #[.int .i64 ia, .int .i64 ib] 36)) v1 (L.take i) from owns_keep HO1.out HAL.out); have HB9' := hid (show Below wc.heap.size wc (w9.alloc (.cells #[.int .i64 ia, .int .i64 ib] 36)) from HB9.out.alloc HB9.out.size _); have HBL := hid (blk2 (blk_new w9 (.cells #[.int .i64 ia, .int .i64 ib] 36))))
                        | (at_builtin; refine app_id rfl (.tmp 178) (.tmp 180) rfl wc.heap.size v1 (L.take i) rfl HO1'.out w9.heap.size 1 ia ib rfl HBL.out.1 HBL.out.2 ?h1 ?h2 ?_; (case h1 => simp only [List.length_append, List.length_take, List.length_drop, List.length_cons, List.length_nil]; omega); (case h2 => exact HB9'.out.size); intro v2 w10 ho2 hg2; have HO2 := hid ho2; have HB10 := hid (show Below wc.heap.size wc w10 from HB9'.out.grown hg2 HB9'.out.size (fun k e => (World.ownsRow.lt HO1'.out k e).1)); clear ho2 hg2; have HS3 := hid (show srcIs w10 idC (.slice (if bc = i then some ⟨ga, 0, none⟩ else some ⟨ga, i * 2, none⟩) (L.length - i) (bc - i)) (L.drop i) from src_drop (HIA.out.keep HB10.out) hiL hbc))
                        | (at_builtin; refine app_many idC 2 16 65 36 (.agg #[.int .i64 0, .int .i64 0]) (by kernel_rfl) Tryz.underlying65 rfl (by omega) (fun _ => rfl) rfl (.tmp 182) (.tmp 185) rfl wc.heap.size v2 (L.take i ++ [(ia, ib)]) (L.drop i) rfl ?h1 _ rfl HS3.out (ids_wf _) ?h3 ?h4 ?h5 ?_; (case h1 => exact HO2.out); (case h3 => simp only [List.length_append, List.length_take, List.length_drop, List.length_cons, List.length_nil]; omega); (case h4 => simp only [List.length_append, List.length_take, List.length_drop, List.length_cons, List.length_nil, maxLen]; omega); (case h5 => exact HB10.out.size); intro v3 w11 ho3 hg3; have HO3 := hid (show ownIds wc.heap.size w11 v3 (L.take i ++ (ia, ib) :: L.drop i) from ids_app ho3); have HB11 := hid (show Below wc.heap.size wc w11 from HB10.out.grown hg3 HB10.out.size (fun k e => (World.ownsRow.lt HO2.out k e).1)); clear ho3 hg3))
                      all_goals (
                        obtain ⟨a3, c3, rfl, _, _, _⟩ := owns_form HO3.out
                        go_meet
                        exact ⟨a3, c3, _, rfl, HWL.out.app HB11.out HO3.out (Nat.le_refl _)⟩)
                    · obtain rfl : i = 0 := Nat.le_zero.1 hiL
                      have HS1 := hid (show srcIs wc idC (.slice none 0 0) [] from .inl ⟨rfl, rfl⟩)
                      have hnl : (([] : List PId).length : Int) = 0 := rfl
                      go_wp2_with (first
                        | (at_builtin; refine app_many idC 2 16 65 36 (.agg #[.int .i64 0, .int .i64 0]) (by kernel_rfl) Tryz.underlying65 rfl (by omega) (fun _ => rfl) rfl (.tmp 173) (.tmp 176) rfl wc.heap.size (.slice none 0 0) [] ([]) rfl ?h1 (.slice none 0 0) rfl HS1.out (ids_wf _) ?h3 ?h4 ?h5 ?_; (case h1 => exact World.ownsRow_nil _ _ _ _); (case h3 => simp only [List.length_append, List.length_take, List.length_drop, List.length_cons, List.length_nil]; omega); (case h4 => simp only [List.length_append, List.length_take, List.length_drop, List.length_cons, List.length_nil, maxLen]; omega); (case h5 => exact Nat.le_refl _); intro v1 w9 ho1 hg1; have HO1 := hid (show ownIds wc.heap.size w9 v1 ([]) from by unfold ownIds; simpa using ho1); have HB9 := hid (show Below wc.heap.size wc w9 from ⟨hg1.os, hg1.tape, hg1.output, hg1.size, fun k hk => hg1.block k hk (by simp [Value.ownBlock])⟩); clear ho1 hg1; have y0 := keep HB9.out z0; have y1 := keep HB9.out z1; have hgl9 : gb < w9.heap.size := World.block_lt_of_cell? _ _ y0; have HAL := hid ((Below.refl w9.heap.size w9).alloc (Nat.le_refl _) (.cells #[.int .i64 ia, .int .i64 ib] 36)); have HO1' := hid (show ownIds wc.heap.size (w9.alloc (.cells #[.int .i64 ia, .int .i64 ib] 36)) v1 ([]) from owns_keep HO1.out HAL.out); have HB9' := hid (show Below wc.heap.size wc (w9.alloc (.cells #[.int .i64 ia, .int .i64 ib] 36)) from HB9.out.alloc HB9.out.size _); have HBL := hid (blk2 (blk_new w9 (.cells #[.int .i64 ia, .int .i64 ib] 36))))
                        | (at_builtin; refine app_id rfl (.tmp 178) (.tmp 180) rfl wc.heap.size v1 ([]) rfl HO1'.out w9.heap.size 1 ia ib rfl HBL.out.1 HBL.out.2 ?h1 ?h2 ?_; (case h1 => simp only [List.length_append, List.length_take, List.length_drop, List.length_cons, List.length_nil]; omega); (case h2 => exact HB9'.out.size); intro v2 w10 ho2 hg2; have HO2 := hid ho2; have HB10 := hid (show Below wc.heap.size wc w10 from HB9'.out.grown hg2 HB9'.out.size (fun k e => (World.ownsRow.lt HO1'.out k e).1)); clear ho2 hg2; have HS3 := hid (show srcIs w10 idC (.slice none 0 0) [] from .inl ⟨rfl, rfl⟩))
                        | (at_builtin; refine app_many idC 2 16 65 36 (.agg #[.int .i64 0, .int .i64 0]) (by kernel_rfl) Tryz.underlying65 rfl (by omega) (fun _ => rfl) rfl (.tmp 182) (.tmp 185) rfl wc.heap.size v2 ([] ++ [(ia, ib)]) ([]) rfl ?h1 _ rfl HS3.out (ids_wf _) ?h3 ?h4 ?h5 ?_; (case h1 => exact HO2.out); (case h3 => simp only [List.length_append, List.length_take, List.length_drop, List.length_cons, List.length_nil]; omega); (case h4 => simp only [List.length_append, List.length_take, List.length_drop, List.length_cons, List.length_nil, maxLen]; omega); (case h5 => exact HB10.out.size); intro v3 w11 ho3 hg3; have HO3 := hid (show ownIds wc.heap.size w11 v3 ([] ++ (ia, ib) :: []) from ids_app ho3); have HB11 := hid (show Below wc.heap.size wc w11 from HB10.out.grown hg3 HB10.out.size (fun k e => (World.ownsRow.lt HO2.out k e).1)); clear ho3 hg3))
                      all_goals (
                        obtain ⟨a3, c3, rfl, _, _, _⟩ := owns_form HO3.out
                        go_meet
                        exact ⟨a3, c3, _, rfl, HWL.out.app HB11.out HO3.out (Nat.le_refl _)⟩)
                  · have HWL := hid hW; clear hW
                    go_wp2_with fail
                    go_meet
                    exact ⟨ba, bc, L, rfl, HWL.out⟩
              · as_aux_lemma =>
                rw [hk]
                clear hk HSA HCA
                go_wp2_with fail
                go_cut [18, 19] (fun p q we => ∃ (gb : Nat) (ia ib f : Int), p = .pointer (some ⟨gb, 0, none⟩) ∧ q = .int .i64 f ∧ InsX w.heap.size tb r N sp ls (pickN p'.c N) L i (.slice ba L.length bc) w gb ia ib f we)
                case first =>
                 as_aux_lemma =>
                  have htl7 := blk_lt HT7.out
                  have hgl7 := World.block_lt_of_cell? _ _ d4
                  simp only at hgl7
                  go_region_held3 (fun W => W.cell? ⟨tb, 1, none⟩ = some (.pointer (some ⟨r, 0, none⟩)) ∧ W.cell? ⟨tb, 2, none⟩ = some (.int .i64 ls.1) ∧ W.cell? ⟨tb, 3, none⟩ = some (.int .i64 ls.2) ∧ W.cell? ⟨g, off + j * 5 + 4, none⟩ = some (.int .i64 p'.n)) (first | exact cel4 HT8.out HD8.out | exact cel4 (cel4_al HT8.out HD8.out _).1 (cel4_al HT8.out HD8.out _).2 | exact cel4 (cel4_set HT8.out HD8.out (by omega) (by omega) _ _).1 (cel4_set HT8.out HD8.out (by omega) (by omega) _ _).2 | exact cel4 (cel4_set (cel4_set HT8.out HD8.out (by omega) (by omega) _ _).1 (cel4_set HT8.out HD8.out (by omega) (by omega) _ _).2 (by omega) (by omega) _ _).1 (cel4_set (cel4_set HT8.out HD8.out (by omega) (by omega) _ _).1 (cel4_set HT8.out HD8.out (by omega) (by omega) _ _).2 (by omega) (by omega) _ _).2 | exact cel4 HT7.out d4 | exact cel4 (HT7.out.keep (Below.refl _ _).drew) (keep (Below.refl _ _).drew d4) | exact cel4 (cel4_al HT7.out d4 _).1 (cel4_al HT7.out d4 _).2 | exact cel4 (HT7.out.keep ((Below.refl _ _).alloc (Nat.le_refl _) _).drew) (keep ((Below.refl _ _).alloc (Nat.le_refl _) _).drew d4))
                    (first
                      | (go_at_call 32; refine (HIN.out _ (by first | exact (Below.refl _ _).drew | exact ((Below.refl _ _).alloc (Nat.le_refl _) _).drew)).mono ?_; rintro e w8 ⟨ia, ib, f, rfl, hin⟩; have HT8 := hid (insTab hin); have HD8 := hid (keep (insBel hin HI7.out.z0 (by first | exact HBW7.out.drew | exact (HBW7.out.alloc HBW7.out.size _).drew)) HC.out.2.2.2); (try (have HA8 := hid (boxKept hin); have z0 := (blk2 HA8.out).1; have z1 := (blk2 HA8.out).2; have zf := blk_fz HA8.out; have zl := blk_lt HA8.out)); have HR := hid hin; clear hin))
                  all_goals (go_wp2_with fail; go_meet)
                  all_goals first
                    | exact ⟨_, ia, ib, f, rfl, rfl, insX_a HI7.out HBF7.out HZB.out HBW7.out (Nat.le_refl _) HR.out⟩
                    | exact ⟨_, ia, ib, f, rfl, rfl, insX_b HI7.out HBF7.out HZB.out HBW7.out (Nat.le_refl _) HR.out⟩
                case rest =>
                 as_aux_lemma =>
                  obtain ⟨gb, ia, ib, f, rfl, rfl, hX⟩ := hcut
                  clear HIN d4 HI7 HT7 HBF7 HZB HBW7
                  obtain ⟨z0, z1, hR⟩ := hX
                  rcases hR with ⟨rfl, hW⟩ | ⟨rfl, hW⟩
                  · have HWL := hid hW; clear hW
                    have hiI : (i : Int) ≤ (L.length : Int) := by omega
                    have hi0 : (0 : Int) ≤ (i : Int) := Int.natCast_nonneg _
                    have HIA := hid (ownIds.at HWL.out.2.1)
                    obtain ⟨ga, rfl⟩ | ⟨rfl, rfl, rfl⟩ : (∃ ga, ba = some ⟨ga, 0, none⟩) ∨ (ba = none ∧ L = [] ∧ bc = 0) := by
                      rcases HIA.out with ⟨e, hl⟩ | ⟨ga, cap, e, _⟩
                      · injection e with e1 _ e3; exact .inr ⟨e1, hl, e3⟩
                      · injection e with e1 _ _; exact .inl ⟨ga, e1⟩
                    · have hvo := HWL.out.2.1
                      obtain ⟨hbc, hbm⟩ := ids_cap hvo
                      unfold maxLen at hbm
                      have hbI : (i : Int) ≤ (bc : Int) := by omega
                      have hLb : (L.length : Int) ≤ (bc : Int) := by omega
                      have HS1 := hid (src_take HIA.out hiL)
                      clear hvo
                      go_wp2_with (first
                        | (at_builtin; refine app_many idC 2 16 65 36 (.agg #[.int .i64 0, .int .i64 0]) (by kernel_rfl) Tryz.underlying65 rfl (by omega) (fun _ => rfl) rfl (.tmp 173) (.tmp 176) rfl wc.heap.size (.slice none 0 0) [] (L.take i) rfl ?h1 (.slice (some ⟨ga, 0, none⟩) i bc) rfl HS1.out (ids_wf _) ?h3 ?h4 ?h5 ?_; (case h1 => exact World.ownsRow_nil _ _ _ _); (case h3 => simp only [List.length_append, List.length_take, List.length_drop, List.length_cons, List.length_nil]; omega); (case h4 => simp only [List.length_append, List.length_take, List.length_drop, List.length_cons, List.length_nil, maxLen]; omega); (case h5 => exact Nat.le_refl _); intro v1 w9 ho1 hg1; have HO1 := hid (show ownIds wc.heap.size w9 v1 (L.take i) from by unfold ownIds; simpa using ho1); have HB9 := hid (show Below wc.heap.size wc w9 from ⟨hg1.os, hg1.tape, hg1.output, hg1.size, fun k hk => hg1.block k hk (by simp [Value.ownBlock])⟩); clear ho1 hg1; have y0 := keep HB9.out z0; have y1 := keep HB9.out z1; have hgl9 : gb < w9.heap.size := World.block_lt_of_cell? _ _ y0; have HAL := hid ((Below.refl w9.heap.size w9).alloc (Nat.le_refl _) (.cells #[.int .i64 ia, .int .i64 ib] 36)); have HO1' := hid (show ownIds wc.heap.size (w9.alloc (.cells #[.int .i64 ia, .int .i64 ib] 36)) v1 (L.take i) from owns_keep HO1.out HAL.out); have HB9' := hid (show Below wc.heap.size wc (w9.alloc (.cells #[.int .i64 ia, .int .i64 ib] 36)) from HB9.out.alloc HB9.out.size _); have HBL := hid (blk2 (blk_new w9 (.cells #[.int .i64 ia, .int .i64 ib] 36))))
                        | (at_builtin; refine app_id rfl (.tmp 178) (.tmp 180) rfl wc.heap.size v1 (L.take i) rfl HO1'.out w9.heap.size 1 ia ib rfl HBL.out.1 HBL.out.2 ?h1 ?h2 ?_; (case h1 => simp only [List.length_append, List.length_take, List.length_drop, List.length_cons, List.length_nil]; omega); (case h2 => exact HB9'.out.size); intro v2 w10 ho2 hg2; have HO2 := hid ho2; have HB10 := hid (show Below wc.heap.size wc w10 from HB9'.out.grown hg2 HB9'.out.size (fun k e => (World.ownsRow.lt HO1'.out k e).1)); clear ho2 hg2; have HS3 := hid (show srcIs w10 idC (.slice (if bc = i then some ⟨ga, 0, none⟩ else some ⟨ga, i * 2, none⟩) (L.length - i) (bc - i)) (L.drop i) from src_drop (HIA.out.keep HB10.out) hiL hbc))
                        | (at_builtin; refine app_many idC 2 16 65 36 (.agg #[.int .i64 0, .int .i64 0]) (by kernel_rfl) Tryz.underlying65 rfl (by omega) (fun _ => rfl) rfl (.tmp 182) (.tmp 185) rfl wc.heap.size v2 (L.take i ++ [(ia, ib)]) (L.drop i) rfl ?h1 _ rfl HS3.out (ids_wf _) ?h3 ?h4 ?h5 ?_; (case h1 => exact HO2.out); (case h3 => simp only [List.length_append, List.length_take, List.length_drop, List.length_cons, List.length_nil]; omega); (case h4 => simp only [List.length_append, List.length_take, List.length_drop, List.length_cons, List.length_nil, maxLen]; omega); (case h5 => exact HB10.out.size); intro v3 w11 ho3 hg3; have HO3 := hid (show ownIds wc.heap.size w11 v3 (L.take i ++ (ia, ib) :: L.drop i) from ids_app ho3); have HB11 := hid (show Below wc.heap.size wc w11 from HB10.out.grown hg3 HB10.out.size (fun k e => (World.ownsRow.lt HO2.out k e).1)); clear ho3 hg3))
                      all_goals (
                        obtain ⟨a3, c3, rfl, _, _, _⟩ := owns_form HO3.out
                        go_meet
                        exact ⟨a3, c3, _, rfl, HWL.out.app HB11.out HO3.out (Nat.le_refl _)⟩)
                    · obtain rfl : i = 0 := Nat.le_zero.1 hiL
                      have HS1 := hid (show srcIs wc idC (.slice none 0 0) [] from .inl ⟨rfl, rfl⟩)
                      have hnl : (([] : List PId).length : Int) = 0 := rfl
                      go_wp2_with (first
                        | (at_builtin; refine app_many idC 2 16 65 36 (.agg #[.int .i64 0, .int .i64 0]) (by kernel_rfl) Tryz.underlying65 rfl (by omega) (fun _ => rfl) rfl (.tmp 173) (.tmp 176) rfl wc.heap.size (.slice none 0 0) [] ([]) rfl ?h1 (.slice none 0 0) rfl HS1.out (ids_wf _) ?h3 ?h4 ?h5 ?_; (case h1 => exact World.ownsRow_nil _ _ _ _); (case h3 => simp only [List.length_append, List.length_take, List.length_drop, List.length_cons, List.length_nil]; omega); (case h4 => simp only [List.length_append, List.length_take, List.length_drop, List.length_cons, List.length_nil, maxLen]; omega); (case h5 => exact Nat.le_refl _); intro v1 w9 ho1 hg1; have HO1 := hid (show ownIds wc.heap.size w9 v1 ([]) from by unfold ownIds; simpa using ho1); have HB9 := hid (show Below wc.heap.size wc w9 from ⟨hg1.os, hg1.tape, hg1.output, hg1.size, fun k hk => hg1.block k hk (by simp [Value.ownBlock])⟩); clear ho1 hg1; have y0 := keep HB9.out z0; have y1 := keep HB9.out z1; have hgl9 : gb < w9.heap.size := World.block_lt_of_cell? _ _ y0; have HAL := hid ((Below.refl w9.heap.size w9).alloc (Nat.le_refl _) (.cells #[.int .i64 ia, .int .i64 ib] 36)); have HO1' := hid (show ownIds wc.heap.size (w9.alloc (.cells #[.int .i64 ia, .int .i64 ib] 36)) v1 ([]) from owns_keep HO1.out HAL.out); have HB9' := hid (show Below wc.heap.size wc (w9.alloc (.cells #[.int .i64 ia, .int .i64 ib] 36)) from HB9.out.alloc HB9.out.size _); have HBL := hid (blk2 (blk_new w9 (.cells #[.int .i64 ia, .int .i64 ib] 36))))
                        | (at_builtin; refine app_id rfl (.tmp 178) (.tmp 180) rfl wc.heap.size v1 ([]) rfl HO1'.out w9.heap.size 1 ia ib rfl HBL.out.1 HBL.out.2 ?h1 ?h2 ?_; (case h1 => simp only [List.length_append, List.length_take, List.length_drop, List.length_cons, List.length_nil]; omega); (case h2 => exact HB9'.out.size); intro v2 w10 ho2 hg2; have HO2 := hid ho2; have HB10 := hid (show Below wc.heap.size wc w10 from HB9'.out.grown hg2 HB9'.out.size (fun k e => (World.ownsRow.lt HO1'.out k e).1)); clear ho2 hg2; have HS3 := hid (show srcIs w10 idC (.slice none 0 0) [] from .inl ⟨rfl, rfl⟩))
                        | (at_builtin; refine app_many idC 2 16 65 36 (.agg #[.int .i64 0, .int .i64 0]) (by kernel_rfl) Tryz.underlying65 rfl (by omega) (fun _ => rfl) rfl (.tmp 182) (.tmp 185) rfl wc.heap.size v2 ([] ++ [(ia, ib)]) ([]) rfl ?h1 _ rfl HS3.out (ids_wf _) ?h3 ?h4 ?h5 ?_; (case h1 => exact HO2.out); (case h3 => simp only [List.length_append, List.length_take, List.length_drop, List.length_cons, List.length_nil]; omega); (case h4 => simp only [List.length_append, List.length_take, List.length_drop, List.length_cons, List.length_nil, maxLen]; omega); (case h5 => exact HB10.out.size); intro v3 w11 ho3 hg3; have HO3 := hid (show ownIds wc.heap.size w11 v3 ([] ++ (ia, ib) :: []) from ids_app ho3); have HB11 := hid (show Below wc.heap.size wc w11 from HB10.out.grown hg3 HB10.out.size (fun k e => (World.ownsRow.lt HO2.out k e).1)); clear ho3 hg3))
                      all_goals (
                        obtain ⟨a3, c3, rfl, _, _, _⟩ := owns_form HO3.out
                        go_meet
                        exact ⟨a3, c3, _, rfl, HWL.out.app HB11.out HO3.out (Nat.le_refl _)⟩)
                  · have HWL := hid hW; clear hW
                    go_wp2_with fail
                    go_meet
                    exact ⟨ba, bc, L, rfl, HWL.out⟩
              · as_aux_lemma =>
                rw [hk]
                clear hk
                go_wp2_with fail
                go_region_held3 (fun W => W.cell? ⟨tb, 1, none⟩ = some (.pointer (some ⟨r, 0, none⟩)) ∧ W.cell? ⟨tb, 2, none⟩ = some (.int .i64 ls.1) ∧ W.cell? ⟨tb, 3, none⟩ = some (.int .i64 ls.2) ∧ W.cell? ⟨g, off + j * 5 + 4, none⟩ = some (.int .i64 p'.n)) (first | exact ⟨(HT8.out.cells).2.1, (HT8.out.cells).2.2.1, (HT8.out.cells).2.2.2, HD8.out⟩ | exact ⟨(HT7.out.cells).2.1, (HT7.out.cells).2.2.1, (HT7.out.cells).2.2.2, d4⟩)
                  (first
                    | (go_at_call 33; refine (HSA.out _ (Below.refl _ _).drew).mono ?_; rintro e w8 ⟨f, rfl, hin⟩; have HWL := hid (set_wrote HI7.out HBF7.out HZB.out HBW7.out hin.2); have HT8 := hid HWL.out.tab; have HD8 := hid (keep HWL.out.2.2 HC.out.2.2.2); have HR := hid hin.1; clear hin))
                all_goals (
                  clear HIN HSA HCA d4 HT8 HD8 HI7 HT7 HBF7 HZB HBW7
                  rcases HR.out with ⟨hlt7, rfl⟩ | ⟨hlt7, rfl⟩ | ⟨hlt7, rfl⟩
                  · have hc1 : (i : Int) < (L.length : Int) := by omega
                    have hc2 : ¬ (i : Int) = (L.length : Int) := by omega
                    go_wp2_with fail
                    go_meet
                    exact ⟨ba, bc, L, rfl, HWL.out⟩
                  · have hc1 : (i : Int) < (L.length : Int) := by omega
                    have hc2 : ¬ (i : Int) = (L.length : Int) := by omega
                    go_wp2_with fail
                    go_meet
                    exact ⟨ba, bc, L, rfl, HWL.out⟩
                  · subst hlt7
                    go_wp2_with fail
                    go_meet
                    exact ⟨ba, bc, L, rfl, HWL.out⟩)
              · as_aux_lemma =>
                rw [hk]
                clear hk d4
                go_wp2_with fail
                go_region_held3 (fun W => W.cell? ⟨tb, 1, none⟩ = some (.pointer (some ⟨r, 0, none⟩)) ∧ W.cell? ⟨tb, 2, none⟩ = some (.int .i64 ls.1) ∧ W.cell? ⟨tb, 3, none⟩ = some (.int .i64 ls.2)) (first | exact (HT8.out.cells).2 | exact (HT7.out.cells).2)
                  (first
                    | (go_at_call 34; refine (HCA.out _ (Below.refl _ _).drew).mono ?_; rintro e w8 ⟨f, rfl, hin⟩; have HT8 := hid (show isTab w8 tb N r ls from (by obtain ⟨LX, hx⟩ := cut_some hin; exact (set_wrote HI7.out HBF7.out HZB.out HBW7.out hx).tab)); have HR := hid hin; clear hin))
                all_goals (
                  clear HIN HSA HCA HT8
                  rcases HR.out with ⟨hlt7, rfl, htl⟩ | ⟨hlt7, rfl, htl⟩ | ⟨hlt7, hff, htl⟩
                  all_goals have HWL := hid (set_wrote HI7.out HBF7.out HZB.out HBW7.out htl)
                  all_goals clear htl HI7 HT7 HBF7 HZB HBW7 HR
                  · as_aux_lemma =>
                    have hc1 : (i : Int) < (L.length : Int) := by omega
                    have hi0 : (0 : Int) ≤ (i : Int) := Int.natCast_nonneg _
                    obtain ⟨wc, hwc⟩ : ∃ wc, wc = w8 := ⟨_, rfl⟩
                    subst hwc
                    have HIA := hid (ownIds.at HWL.out.2.1)
                    obtain ⟨ga, rfl, hq1, hq2⟩ := HIA.out.atI hlt7
                    clear hq1 hq2
                    obtain ⟨hbc, hbm⟩ := ids_cap HWL.out.2.1
                    unfold maxLen at hbm
                    obtain ⟨i1, hi1⟩ : ∃ i1, i1 = i + 1 := ⟨_, rfl⟩
                    have hwr : IntKind.i64.wrap ((i : Int) + 1) = (i1 : Int) := by rw [Go.IntWalk.i64_in _ (by omega)]; omega
                    have h10 : (0 : Int) ≤ (i1 : Int) := Int.natCast_nonneg _
                    have h1L : (i1 : Int) ≤ (L.length : Int) := by omega
                    have hbI : (i : Int) ≤ (bc : Int) := by omega
                    have hLb : (L.length : Int) ≤ (bc : Int) := by omega
                    have hiL1 : i1 ≤ L.length := by omega
                    have HS1 := hid (src_take HIA.out hiL)
                    have HLX := hid (show L.take i ++ L.drop (i + 1) = L.take i ++ L.drop i1 by rw [hi1])
                    clear hi1 hlt7
                    go_wp2_with (first
                      | (at_builtin; refine app_many idC 2 16 65 36 (.agg #[.int .i64 0, .int .i64 0]) (by kernel_rfl) Tryz.underlying65 rfl (by omega) (fun _ => rfl) rfl (.tmp 126) (.tmp 129) rfl wc.heap.size (.slice none 0 0) [] (L.take i) rfl ?h1 (.slice (some ⟨ga, 0, none⟩) i bc) rfl HS1.out (ids_wf _) ?h3 ?h4 ?h5 ?_; (case h1 => exact World.ownsRow_nil _ _ _ _); (case h3 => simp only [List.length_append, List.length_take, List.length_drop, List.length_cons, List.length_nil]; omega); (case h4 => simp only [List.length_append, List.length_take, List.length_drop, List.length_cons, List.length_nil, maxLen]; omega); (case h5 => exact Nat.le_refl _); intro v1 w9 ho1 hg1; have HO1 := hid (show ownIds wc.heap.size w9 v1 (L.take i) from by unfold ownIds; simpa using ho1); have HB9 := hid (show Below wc.heap.size wc w9 from ⟨hg1.os, hg1.tape, hg1.output, hg1.size, fun k hk => hg1.block k hk (by simp [Value.ownBlock])⟩); clear ho1 hg1; have HS3 := hid (show srcIs w9 idC (.slice (if bc = i1 then some ⟨ga, 0, none⟩ else some ⟨ga, i1 * 2, none⟩) (L.length - i1) (bc - i1)) (L.drop i1) from src_drop (HIA.out.keep HB9.out) hiL1 hbc))
                      | (at_builtin; refine app_many idC 2 16 65 36 (.agg #[.int .i64 0, .int .i64 0]) (by kernel_rfl) Tryz.underlying65 rfl (by omega) (fun _ => rfl) rfl (.tmp 131) (.tmp 135) rfl wc.heap.size v1 (L.take i) (L.drop i1) rfl ?h1 _ rfl HS3.out (ids_wf _) ?h3 ?h4 ?h5 ?_; (case h1 => exact HO1.out); (case h3 => simp only [List.length_append, List.length_take, List.length_drop, List.length_cons, List.length_nil]; omega); (case h4 => simp only [List.length_append, List.length_take, List.length_drop, List.length_cons, List.length_nil, maxLen]; omega); (case h5 => exact HB9.out.size); intro v3 w11 ho3 hg3; have HO3 := hid (show ownIds wc.heap.size w11 v3 (L.take i ++ L.drop i1) from by unfold ownIds; rw [List.length_append]; exact ho3); have HB11 := hid (show Below wc.heap.size wc w11 from HB9.out.grown hg3 HB9.out.size (fun k e => (World.ownsRow.lt HO1.out k e).1)); clear ho3 hg3))
                    all_goals (
                      obtain ⟨a3, c3, rfl, _, _, _⟩ := owns_form HO3.out
                      go_meet
                      exact ⟨a3, c3, _, rfl, (HLX.out ▸ HWL.out).app HB11.out HO3.out (Nat.le_refl _)⟩)
                  · have hc1 : (i : Int) < (L.length : Int) := by omega
                    go_wp2_with fail
                    go_meet
                    exact ⟨ba, bc, L, rfl, HWL.out⟩
                  · subst hlt7
                    rcases hff with rfl | rfl
                    all_goals (
                      go_wp2_with fail
                      go_meet
                      exact ⟨ba, bc, L, rfl, HWL.out⟩))
            case rest =>
             as_aux_lemma =>
              obtain ⟨va, vc, LX, rfl, hW⟩ := hcut
              have HWL := hid hW
              clear hW HIN HSA HCA HI7 HT7 HBF7 HZB HBW7 hk
              obtain ⟨⟨Z8, M8, s8, hi8, he8⟩, hv8, hb8⟩ := HWL.out
              have HI8 := hid hi8; have HEL8 := hid he8; have HBX := hid hv8; have HBW := hid hb8
              clear hi8 he8 hv8 hb8 HWL
              have HE8 := hid (fun W (hb : Below wc.heap.size wc W) => (HI8.out.keep hb).q.elsP hcN)
              have HT8 := hid HI8.out.q.i.tab
              go_wp2_with fail
              go_region_held3 (fun W => W.cell? ⟨tb, 1, none⟩ = some (.pointer (some ⟨r, 0, none⟩)) ∧ W.cell? ⟨tb, 2, none⟩ = some (.int .i64 ls.1) ∧ W.cell? ⟨tb, 3, none⟩ = some (.int .i64 ls.2)) (first | exact (HT9.out.cells).2 | exact (HT8.out.cells).2)
                (first
                  | (go_at_call 29; refine (HE8.out _ (Below.refl _ _).drew).mono ?_; rintro e w9 ⟨hb9, xa, xc, L9, rfl, hx9, hL9, hl9⟩; have hb9' := Hid.out (below_drew_left hb9); have HT9 := hid (HT8.out.keep hb9'); have HX9 := hid hx9; have hll := Except.ok.inj (HEL8.out.symm.trans hL9); have HB9 := hid hb9'; clear hb9 hb9' hx9 hL9; subst hll))
              all_goals (
                have HA9 := hid (show idsAt w9 (.slice va LX.length vc) LX from (ownIds.at HBX.out).keep HB9.out)
                have HX9' := hid (ownIds.at HX9.out)
                have HI9 := hid (show hasL' w.heap.size tb w9 r N sp ls from ⟨_, _, _, HI8.out.keep HB9.out⟩)
                have HBW9 := hid (HBW.out.trans (HB9.out.mono HBW.out.size))
                clear HE8 HI8 HEL8 HBX HBW HX9 HT8 HT9
                go_wp2_with fail
                go_loopw [10, 26] (fun ok q wr => ∃ y : Nat, y ≤ LX.length ∧ ok = .bool true ∧ q = .int .i64 y ∧ Below w9.heap.size w9 wr) (fun _ q _ => LX.length - (intOf q).toNat)
                case atStart => exact ⟨0, Nat.zero_le _, rfl, rfl, Below.refl _ _⟩
                case round =>
                  obtain ⟨y, hy, rfl, rfl, hby⟩ := hrel
                  by_cases hyl : y < LX.length
                  · obtain ⟨g1, e1, f1, f2⟩ := HA9.out.atI hyl
                    obtain ⟨g2, e2, f3, f4⟩ := HX9'.out.atI hyl
                    subst e1 e2
                    replace f1 := keep hby f1
                    replace f2 := keep hby f2
                    replace f3 := keep hby f3
                    replace f4 := keep hby f4
                    have hy0 : (0 : Int) ≤ (y : Int) := Int.natCast_nonneg _
                    have hy1 : (y : Int) < (LX.length : Int) := by omega
                    have heq := run_idEq
                    have hqq : idEq LX[y].1 LX[y].2 LX[y].1 LX[y].2 = true := idEq_true.2 rfl
                    have HBY := hid hby; clear hby
                    go_wp2
                    go_region
                    all_goals (
                      go_wp2
                      go_roundw
                      case rel => exact ⟨y + 1, by omega, by simp [hqq], by go_num, HBY.out.drew⟩
                      case measure => simp [intOf]; omega)
                  · have hyl' : ¬ (y : Int) < (LX.length : Int) := by omega
                    have HBY := hid hby; clear hby
                    go_wp2
                    go_roundw
                    case rel => exact ⟨j + 1, by omega, by omega, rfl, by go_num, (by obtain ⟨Z', M', s', hx⟩ := HI9.out; exact ⟨Z', M', s', hx.keep HBY.out⟩), HBW9.out.trans (HBY.out.mono HBW9.out.size)⟩
                    case measure => simp [intOf]; omega)
            ))
      · by_cases h1 : j < m
        · have hi1 : (j : Int) < (m : Int) := by omega
          have hi2 : ¬ (j : Int) < 60 := by omega
          go_wp2
          go_ret
          exact ⟨rfl, HB2.out⟩
        · have hi1 : ¬ (j : Int) < (m : Int) := by omega
          go_wp2
          go_ret
          exact ⟨rfl, HB2.out⟩

end Go.Proofs.YtnkpogjiiohapaaGreatDoor
