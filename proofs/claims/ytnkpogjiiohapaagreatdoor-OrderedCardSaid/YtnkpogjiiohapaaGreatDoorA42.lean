/- Our own text (OLawF, QArgA, QClaimA). -/
import Derived.Deep.Slices
import Derived.ReadsIn
import Derived.Test.YtnkpogjiiohapaaGreatDoorRows
import Derived.ProofKit
import Derived.OpenShut
import Derived.Deep.DeepHandedRow
import Derived.Lib.LaidTab
import Derived.SizedLaws
import Derived.Test.YtnkpogjiiohapaaGreatDoorA41
import Derived.Test.YtnkpogjiiohapaaGreatDoorA40
set_option linter.unusedSimpArgs false
set_option linter.unusedVariables false

/-! OLawF: quirekeep: Ordered, where its room is laid. -/
namespace Go.Proofs.YtnkpogjiiohapaaGreatDoor
open Go.RowKit
attribute [local go_sem ↓] Go.wp_at_zero Go.wp_at_succ

theorem app_told {ops : Array Oper} {rest : List Oper} {o : Oper} {a : Act} {Q : Exit → Act → World → Prop} {w : World} (hgd : o.guard = none) (s x : Operand) (ho : o.op = .call { callee := .builtin .append, args := #[s, x], argTypes := #[64, 64] }) (v : Value) (ps : List (Value × List PId)) (hs : a.eval s = v)
    (hown : w.ownsRow 0 65 1 v ps.length (ps.flatMap slC)) (g c : Nat) (p q : Value × List PId) (hx : a.eval x = .slice (some ⟨g, 0, none⟩) 2 c) (h0 : w.cell? ⟨g, 0, none⟩ = some p.1) (h1 : w.cell? ⟨g, 1, none⟩ = some q.1) (w0 : p.1.oneCell' = true) (w1 : q.1.oneCell' = true) (hlen : ps.length ≤ 1000)
    (h : ∀ v' w', w'.ownsRow 0 65 1 v' (ps ++ [p, q]).length ((ps ++ [p, q]).flatMap slC) → w.grownBy w' v.ownBlock → newOr w v v' → wpList Tryz.prog ops Q rest (a.put o.dst v') w') : wpList Tryz.prog ops Q (o :: rest) a w := by
  refine wpList_plain hgd fun _ hK => ?_
  obtain ⟨i, hi, hz, hsz, hby⟩ := info_parts (show (Tryz.prog.info? 65).map (fun i => (i.zero, i.size, i.bytes)) = some (some (.slice none 0 0), 1, 24) by kernel_rfl)
  obtain ⟨v', w', hr, h2, h3, h4⟩ := run_app_where (P := Tryz.prog) w 0 64 o.type 65 i (.slice none 0 0) 1 24 Tryz.underlying64 hi hz hsz hby rfl (by omega) v ps.length (ps.flatMap slC) hown ⟨g, 0, none⟩ 2 c [p.1, q.1] rfl
    (fun j u hu => by
      have e : (⟨g, 0, none⟩ : Addr).add j = ⟨g, j, none⟩ := by unfold Addr.add; split <;> simp_all
      rw [e]
      match j, hu with
      | 0, hu => simp at hu; rw [← hu]; exact h0
      | 1, hu => simp at hu; rw [← hu]; exact h1) (fun u hu => by
      simp at hu
      rcases hu with rfl | rfl
      · exact w0
      · exact w1) (by unfold maxLen; omega) (by omega) (Nat.zero_le _)
  unfold Oper.wp execOp
  simp only [ho, resolve, invoke, builtin, Sem.run_bind, Sem.run_pure, Result.andThen_ok, List.map_toArray, List.map_cons, List.map_nil, hs, hx, hr]
  refine hK _ _ (h v' w' ?_ h3 h4)
  have e1 : (ps ++ [p, q]).length = ps.length + 2 := by simp
  have e2 : (ps ++ [p, q]).flatMap slC = ps.flatMap slC ++ [p.1, q.1] := by simp [slC]
  rw [e1, e2]
  exact h2
theorem ownIds.one {B : Nat} {w : World} {v : Value} {l : List PId} (h : ownIds B w v l) : v.oneCell' = true := by
  obtain ⟨a, cap, rfl, _⟩ := owns_form h
  rfl

set_option maxRecDepth 1000000 in
set_option maxHeartbeats 8000000 in
theorem orderedLaw_g {w : World} (raw spc : Int) {a : Option Addr} {n ca : Nat} (hn : n ≤ 4000000000000) (hs : isSteps w a n) (hl : Calls Tryz.prog 14 #[.int .i64 raw, .int .i64 spc] w fun e w' => LaidD w e w') :
    Calls Tryz.prog 10 #[.int .i64 raw, .int .i64 spc, .slice a n ca] w fun e w' => e = .returned (.bool true) ∧ Below w.heap.size w w' := by
  have HL := hid hl; have HS := hid hs
  clear hl hs
  go_enter Tryz.func10, Tryz.ntmps10
  go_wp2_with fail
  refine HL.out.mono ?_
  rintro e w1 ⟨hb1, tb, r, N, sp, ls, rfl, h2, M0, s0', hq⟩
  have HB1 := hid hb1; have HQ1 := hid hq; clear hb1 hq
  have hN4 := HQ1.out.i.hN
  go_wp2_with fail
  go_loopw [8, 9, 10] (fun ok told i wr => ∃ (k : Nat) (Z : Nat → Prop) (M : Nat → List MOp) (s : RoomS) (ps : List (Value × List PId)), k ≤ n ∧ k ≤ 80 ∧ ok = .bool true ∧ i = .int .i64 k ∧ OInv w.heap.size Z tb wr r N sp ls M s told ps ∧ ps.length = 2 * k ∧ Below w.heap.size w wr) (fun _ _ i _ => 80 - (intOf i).toNat)
  case atStart =>
    exact ⟨0, _, M0, s0', [], Nat.zero_le _, Nat.zero_le _, rfl, rfl, ⟨HQ1.out, ⟨World.ownsRow_nil _ _ _ _, fun g hg => (by cases hg), fun p hp => (by cases hp)⟩, fun k hk => .inl hk, fun g hg => (by cases hg), fun p hp => (by cases hp)⟩, rfl, HB1.out⟩
  case round =>
    obtain ⟨k, Z, M, s, ps, hkn, hk8, rfl, rfl, ho, hps, hbw⟩ := hrel
    obtain ⟨ta, tc, rfl, htc, htm, _⟩ := owns_form ho.t.row
    unfold maxLen at htm
    have HO := hid ho; have HB := hid hbw; have HPS := hid hps; clear ho hbw hps
    by_cases hlt : k < n ∧ k < 80
    · obtain ⟨hlt1, hlt2⟩ := hlt
      have hi1 : (k : Int) < (n : Int) := by omega
      have hi2 : (k : Int) < 80 := by omega
      have hk0 : (0 : Int) ≤ (k : Int) := Int.natCast_nonneg _
      obtain ⟨g, off, p, rfl, hpo, c0, c1, c2, c3, c4⟩ := HS.out k hlt1
      have HC := hid (And.intro c0 (And.intro c1 (And.intro c2 (And.intro c3 c4))))
      replace c0 := keep HB.out c0
      replace c1 := keep HB.out c1
      replace c2 := keep HB.out c2
      replace c3 := keep HB.out c3
      replace c4 := keep HB.out c4
      have HD := hid (does_g HO.out.q h2 p hpo)
      have HPO := hid hpo; clear hpo
      have hc := pickN_lt p.c (show 0 < N by omega)
      have hd := toN_lt p (show 0 < N by omega)
      go_wp2_with fail
      refine HD.out.mono ?_
      rintro e w2 ⟨⟨ev, rfl⟩, hst⟩
      obtain ⟨⟨M2, s2, ho2⟩, hb2⟩ := HO.out.step hst
      have HO2 := hid ho2; have HB2 := hid (HB.out.trans hb2); clear ho2 hb2 hst c0 c1 c2 c3 c4
      obtain ⟨c0, c1, c2, c3, c4⟩ := HC.out
      replace c0 := keep HB2.out c0
      replace c1 := keep HB2.out c1
      replace c2 := keep HB2.out c2
      replace c3 := keep HB2.out c3
      replace c4 := keep HB2.out c4
      have HLK := hid (link_g HO2.out.q.i.tab h2 hN4 p HPO.out)
      go_wp2_with fail
      refine HLK.out.mono ?_
      rintro e w3 ⟨rfl, hb3⟩
      have HO3 := hid (HO2.out.keep hb3); have HB3 := hid (HB2.out.trans (hb3.mono (HB2.out.size))); clear hb3 c0 c1 c2 c3 c4
      have HE1 := hid (fun W (hb : Below w3.heap.size w3 W) => (HO3.out.keep hb).q.els hc)
      have HT3 := hid HO3.out.q.i.tab
      go_wp2_with fail
      go_region_held3 (fun W => W.cell? ⟨tb, 1, none⟩ = some (.pointer (some ⟨r, 0, none⟩)) ∧ W.cell? ⟨tb, 2, none⟩ = some (.int .i64 ls.1) ∧ W.cell? ⟨tb, 3, none⟩ = some (.int .i64 ls.2)) (first | exact (HT4.out.cells).2 | exact (HT3.out.cells).2)
        (first
          | (go_at_call 29; refine (HE1.out _ (Below.refl _ _).drew).mono ?_; rintro e w4 ⟨hb4, ua, la, rfl, hua, hla, hla3⟩; have hb4' := Hid.out (below_drew_left hb4); have HT4 := hid (HT3.out.keep hb4'); have HUA := hid (And.intro hua (And.intro hla hla3)); have HB4 := hid hb4'; clear hb4 hb4' hua hla hla3))
      all_goals (
        have HE2 := hid (fun W (hb : Below w4.heap.size w4 W) => ((HO3.out.keep HB4.out).keep hb).q.els hd)
        go_wp2_with fail
        go_region_held3 (fun W => W.cell? ⟨tb, 1, none⟩ = some (.pointer (some ⟨r, 0, none⟩)) ∧ W.cell? ⟨tb, 2, none⟩ = some (.int .i64 ls.1) ∧ W.cell? ⟨tb, 3, none⟩ = some (.int .i64 ls.2)) (first | exact (HT5.out.cells).2 | exact (HT4.out.cells).2)
          (first
            | (go_at_call 29; refine (HE2.out _ (Below.refl _ _).drew).mono ?_; rintro e w5 ⟨hb5, ub, lb, rfl, hub, hlb, hlb3⟩; have hb5' := Hid.out (below_drew_left hb5); have HT5 := hid (HT4.out.keep hb5'); have HUB := hid (And.intro hub (And.intro hlb hlb3)); have HB5 := hid hb5'; clear hb5 hb5' hub hlb hlb3)))
      all_goals (
        have HO5 := hid ((HO3.out.keep HB4.out).keep HB5.out)
        have HB35 := hid (HB3.out.trans ((HB4.out.trans (HB5.out.mono HB4.out.size)).mono HB3.out.size))
        have HIA := hid (show idsAt w5 ua la from (ownIds.at HUA.out.1).keep HB5.out)
        have HIB := hid (show idsAt w5 ub lb from ownIds.at HUB.out.1)
        have hl3 := HUA.out.2.2
        have hm3 := HUB.out.2.2
        go_wp2_with fail
        refine (own_g HIA.out (by omega)).mono ?_
        rintro e w6 ⟨u1, rfl, hu1, hb6⟩
        obtain ⟨x1, y1, rfl, _, _, _⟩ := owns_form hu1
        have HU1 := hid hu1; have HB6 := hid hb6; clear hu1 hb6
        go_wp2_with fail
        refine (own_g (HIB.out.keep HB6.out) (by omega)).mono ?_
        rintro e w7 ⟨u2, rfl, hu2, hb7⟩
        obtain ⟨x2, y2, rfl, _, _, _⟩ := owns_form hu2
        have HU2 := hid hu2; have HB7 := hid hb7; clear hu2 hb7
        have HA := hid (show Below w7.heap.size w7 (w7.alloc (.cells #[.slice x1 la.length y1, .slice x2 lb.length y2] 65)) from (Below.refl _ w7).alloc (Nat.le_refl _) _)
        have HW := hid (show Below w5.heap.size w5 (w7.alloc (.cells #[.slice x1 la.length y1, .slice x2 lb.length y2] 65)) from (HB6.out.trans (HB7.out.mono HB6.out.size)).trans (HA.out.mono (Nat.le_trans HB6.out.size HB7.out.size)))
        have HU1' := hid (show ownIds w5.heap.size (w7.alloc (.cells #[.slice x1 la.length y1, .slice x2 lb.length y2] 65)) (.slice x1 la.length y1) la from owns_keep (owns_keep HU1.out HB7.out) HA.out)
        have HU2' := hid (show ownIds w5.heap.size (w7.alloc (.cells #[.slice x1 la.length y1, .slice x2 lb.length y2] 65)) (.slice x2 lb.length y2) lb from owns_keep (owns_mono HU2.out HB6.out.size) HA.out)
        have HRW := hid (owns_keep HO5.out.t.row HW.out)
        have hlen : ps.length ≤ 1000 := by have := HPS.out; omega
        have HBL := hid (blk_new w7 (.cells #[.slice x1 la.length y1, .slice x2 lb.length y2] 65))
        go_wp2_with (at_builtin; go_must (refine app_told rfl (.tmp 86) (.tmp 91) rfl (.slice ta ps.length tc) ps rfl HRW.out w7.heap.size 2 (.slice x1 la.length y1, la) (.slice x2 lb.length y2, lb) rfl ?h1 ?h2 HU1.out.one HU2.out.one hlen ?_; (case h1 => exact (blk2 HBL.out).1); (case h2 => exact (blk2 HBL.out).2); intro v1 w8 ho8 hg8 hn8; have HX := hid (HO5.out.more HW.out HU1'.out HU2'.out HUA.out.2 HUB.out.2 ho8 hg8 hn8); clear ho8 hg8 hn8))
        obtain ⟨⟨Z8, ho8⟩, hb8, hids⟩ := HX.out
        have HIA8 := hid (ownIds.at (hids _ _ _ (owns_keep (owns_keep HUA.out.1 HB5.out) HW.out)))
        have HIB8 := hid (ownIds.at (hids _ _ _ (owns_keep HUB.out.1 HW.out)))
        clear hids
        obtain ⟨t8, c8, rfl, h81, h82, _⟩ := owns_form ho8.t.row
        unfold maxLen at h82
        have HO8 := hid ho8; have HB8 := hid (HB35.out.trans hb8); clear ho8 hb8 HX
        have hlen8 : (ps ++ [(Value.slice x1 la.length y1, la), (Value.slice x2 lb.length y2, lb)]).length = 2 * (k + 1) := by simp [HPS.out]; omega
        obtain ⟨qs, hqs⟩ : ∃ qs, qs = ps ++ [(Value.slice x1 la.length y1, la), (Value.slice x2 lb.length y2, lb)] := ⟨_, rfl⟩
        rw [← hqs] at HO8 hlen8 h81 ⊢
        have HLQ := hid hlen8; clear hlen8
        clear hqs
        go_wp2_with fail
        go_loopw [8, 17] (fun ok j wr => ∃ i : Nat, i ≤ qs.length ∧ ok = .bool true ∧ j = .int .i64 i ∧ Below w8.heap.size w8 wr) (fun _ j _ => qs.length - (intOf j).toNat)
        case atStart => exact ⟨0, Nat.zero_le _, rfl, rfl, Below.refl _ _⟩
        case round =>
          obtain ⟨i, hi, rfl, rfl, hbi⟩ := hrel
          have HBI := hid hbi; clear hbi
          by_cases hil : i < qs.length
          · have hil' : (i : Int) < (qs.length : Int) := by omega
            have hi0 : (0 : Int) ≤ (i : Int) := Int.natCast_nonneg _
            obtain ⟨gt, rfl, tc0, hid0⟩ := (HO8.out.t).at hil
            have HQI := hid hid0; clear hid0
            have hsub := HO8.out.sub _ (List.getElem_mem hil)
            have HAG := hid (fun W (hb : Below w8.heap.size w8 W) => agree_g (HQI.out.keep hb) (HIA8.out.keep hb) (ordL_nd HO8.out.q.i.ok ls) hsub.1 HUA.out.2.1 (by omega) (by omega))
            have HAH := hid (fun W (hb : Below w8.heap.size w8 W) => agree_g (HQI.out.keep hb) (HIB8.out.keep hb) (ordL_nd HO8.out.q.i.ok ls) hsub.1 HUB.out.2.1 (by omega) (by omega))
            have HTC := hid tc0
            clear hsub
            replace tc0 := keep HBI.out tc0
            obtain ⟨xi, yi, zi, hvi⟩ : ∃ x y z, qs[i].1 = .slice x y z := by
              obtain ⟨x, y, e, _⟩ := owns_form (HO8.out.t.each _ (List.getElem_mem hil)).1
              exact ⟨x, _, y, e⟩
            rw [hvi] at tc0 HAG HAH HTC
            clear hvi
            go_wp2_with fail
            refine (HAG.out _ HBI.out).mono ?_
            rintro e w9 ⟨rfl, hb9⟩
            have HB9 := hid (HBI.out.trans (hb9.mono HBI.out.size)); clear hb9 tc0
            have tc0 := keep HB9.out HTC.out
            go_wp2_with fail
            refine (HAH.out _ HB9.out).mono ?_
            rintro e w10 ⟨rfl, hb10⟩
            have HB10 := hid (HB9.out.trans (hb10.mono HB9.out.size)); clear hb10 tc0
            go_wp2
            go_roundw
            case rel => exact ⟨i + 1, by omega, rfl, by go_num, HB10.out⟩
            case measure => simp [intOf]; omega
          · have hil' : ¬ (i : Int) < (qs.length : Int) := by omega
            go_wp2
            go_roundw
            case rel => exact ⟨k + 1, Z8, M2, s2, qs, by omega, by omega, rfl, by go_num, HO8.out.keep HBI.out, HLQ.out, HB8.out.trans (HBI.out.mono HB8.out.size)⟩
            case measure => simp [intOf]; omega)
    · by_cases h1 : k < n
      · have hi1 : (k : Int) < (n : Int) := by omega
        have hi2 : ¬ (k : Int) < 80 := by omega
        go_wp2
        go_ret
        exact ⟨rfl, HB.out⟩
      · have hi1 : ¬ (k : Int) < (n : Int) := by omega
        go_wp2
        go_ret
        exact ⟨rfl, HB.out⟩

end Go.Proofs.YtnkpogjiiohapaaGreatDoor

/-! QArgA: The arguments of quirekeep's laws, as the form reads them. -/
namespace Go.Proofs.YtnkpogjiiohapaaGreatDoor
open Go.RowKit Go.ChangeShapes Go.WideShapes Go.Deep

section
/-- A number: read without the memory. -/
theorem trodI {H : Type} {enc : TypeId × Value → H} {P : Program} {w w' : World} {base : Nat} {sp sp' : Nat → Bool} {held : Bool} {t : TypeId} (ht : P.underlying t = some (.int .i64)) (n : Nat) (cs : List Value) : DataW.trod enc P w base sp held n t cs = DataW.trod enc P w' base sp' held n t cs := by
  cases n with
  | zero => rfl
  | succ n =>
    unfold DataW.trod
    rw [ht]
    match cs with
    | [] => rfl
    | [c] => cases c <;> rfl
    | c :: _ :: _ => cases c <;> rfl
theorem trodS {H : Type} {enc : TypeId × Value → H} {P : Program} {w w' : World} {base : Nat} {sp sp' : Nat → Bool} {held : Bool} {t : TypeId} {fs : Array Field} (ht : P.underlying t = some (.struct fs)) (hf : ∀ f ∈ fs.toList, ∀ n cs, DataW.trod enc P w base sp held n f.type cs = DataW.trod enc P w' base sp' held n f.type cs) (n : Nat) (cs : List Value) : DataW.trod enc P w base sp held n t cs = DataW.trod enc P w' base sp' held n t cs := by
  cases n with
  | zero => rfl
  | succ n =>
    unfold DataW.trod
    rw [ht]
    have e : (fs.toList.mapM fun f => DataW.trod enc P w base sp held n f.type ((cs.drop f.offset).take (P.cellsOf f.type))) = fs.toList.mapM fun f => DataW.trod enc P w' base sp' held n f.type ((cs.drop f.offset).take (P.cellsOf f.type)) := mapM_congr_mem fun f hm => hf f hm _ _
    split <;> simp_all
theorem trodI_val {H : Type} {enc : TypeId × Value → H} {P : Program} {w : World} {base : Nat} {sp : Nat → Bool} {held : Bool} {t : TypeId} {n : Nat} {cs : List Value} {x : DataW H × List MemPlace} (ht : P.underlying t = some (.int .i64)) (h : DataW.trod enc P w base sp held n t cs = some x) : ∃ k, cs = [.int .i64 k] ∧ intOk k := by
  obtain ⟨k, h1, _, h3⟩ := DataW.trod_int ht h
  refine ⟨k, h1, ?_⟩
  simp [Lit.wf] at h3
  exact h3
end

section
theorem cellsStp : Tryz.prog.cellsOf 32 = 5 := by kernel_rfl
theorem cellsI : Tryz.prog.cellsOf 3 = 1 := by kernel_rfl
def stpC (p : Stp) : List Value := [.int .i64 p.k, .int .i64 p.c, .int .i64 p.d, .int .i64 p.a, .int .i64 p.n]
set_option maxRecDepth 100000 in
/-- A step, read. -/
theorem trod_stp {H : Type} {enc : TypeId × Value → H} {w : World} {base : Nat} {sp : Nat → Bool} {held : Bool} {n : Nat} {cs : List Value} {x : DataW H × List MemPlace} (h : DataW.trod enc Tryz.prog w base sp held n 32 cs = some x) : ∃ p : Stp, cs = stpC p ∧ p.ok := by
  obtain ⟨xs, m, rfl, rfl, hl, hlen, hf⟩ := DataW.trod_struct Tryz.underlying32 h
  rw [cellsStp] at hl
  match xs, hlen with
  | [y0, y1, y2, y3, y4], _ =>
    match cs, hl with
    | [c0, c1, c2, c3, c4], _ =>
      have f0 : DataW.trod enc Tryz.prog w base sp held m 3 [c0] = some y0 := by simpa [cellsI] using hf 0 _ rfl
      have f1 : DataW.trod enc Tryz.prog w base sp held m 3 [c1] = some y1 := by simpa [cellsI] using hf 1 _ rfl
      have f2 : DataW.trod enc Tryz.prog w base sp held m 3 [c2] = some y2 := by simpa [cellsI] using hf 2 _ rfl
      have f3 : DataW.trod enc Tryz.prog w base sp held m 3 [c3] = some y3 := by simpa [cellsI] using hf 3 _ rfl
      have f4 : DataW.trod enc Tryz.prog w base sp held m 3 [c4] = some y4 := by simpa [cellsI] using hf 4 _ rfl
      obtain ⟨k0, e0, h0⟩ := trodI_val Tryz.underlying3 f0
      obtain ⟨k1, e1, h1⟩ := trodI_val Tryz.underlying3 f1
      obtain ⟨k2, e2, h2⟩ := trodI_val Tryz.underlying3 f2
      obtain ⟨k3, e3, h3⟩ := trodI_val Tryz.underlying3 f3
      obtain ⟨k4, e4, h4⟩ := trodI_val Tryz.underlying3 f4
      simp only [List.cons.injEq, and_true] at e0 e1 e2 e3 e4
      subst e0 e1 e2 e3 e4
      exact ⟨⟨k0, k1, k2, k3, k4⟩, rfl, ⟨h0, h1, h2, h3, h4⟩⟩
set_option maxRecDepth 100000 in
theorem trod_stp_same {H : Type} {enc : TypeId × Value → H} {w : World} {base : Nat} {sp : Nat → Bool} {held : Bool} (w' : World) (sp' : Nat → Bool) (n : Nat) (cs : List Value) : DataW.trod enc Tryz.prog w base sp held n 32 cs = DataW.trod enc Tryz.prog w' base sp' held n 32 cs := by
  have hi : ∀ n cs, DataW.trod enc Tryz.prog w base sp held n 3 cs = DataW.trod enc Tryz.prog w' base sp' held n 3 cs := trodI Tryz.underlying3
  refine trodS Tryz.underlying32 (fun f hf => ?_) n cs
  simp only [List.mem_cons, List.not_mem_nil, or_false] at hf
  rcases hf with rfl | rfl | rfl | rfl | rfl <;> exact hi
end

/-- From 'for every i there is one' to one function. -/
theorem oneFor {α : Type} (d : α) {n : Nat} {p : Nat → α → Prop} (h : ∀ i, i < n → ∃ x, p i x) : ∃ f : Nat → α, ∀ i, i < n → p i (f i) := by
  have h1 : ∀ i, ∃ x, i < n → p i x := fun i => by
    by_cases hi : i < n
    · obtain ⟨x, hx⟩ := h i hi
      exact ⟨x, fun _ => hx⟩
    · exact ⟨d, fun h' => absurd h' hi⟩
  exact ⟨fun i => Classical.choose (h1 i), fun i => Classical.choose_spec (h1 i)⟩

/-- A slice's elements, as they lie. -/
def isRows (w : World) (sa : Option Addr) (n k : Nat) (Q : List Value → Prop) : Prop := ∀ i, i < n → ∃ g off cs, sa = some ⟨g, off, none⟩ ∧ Q cs ∧ ∀ j u, cs[j]? = some u → w.cell? ⟨g, off + i * k + j, none⟩ = some u
set_option maxRecDepth 100000 in
/-- A slice of plain elements, opened; and it reads as it did wherever nothing old has turned. -/
theorem open_rows {H : Type} {enc : TypeId × Value → H} {W : World} {tS tE : TypeId} {k : Nat} (hu : Tryz.prog.underlying tS = some (.slice tE)) (hk : Tryz.prog.cellsOf tE = k) (hk0 : 0 < k) {Q : List Value → Prop}
    (hread : ∀ n cs x, DataW.trod enc Tryz.prog W 0 (fun _ => true) true n tE cs = some x → Q cs)
    (hsame : ∀ (W' : World) (sp : Nat → Bool) n cs, DataW.trod enc Tryz.prog W' 0 sp true n tE cs = DataW.trod enc Tryz.prog W 0 (fun _ => true) true n tE cs)
    {v : Value} {d : DataW H} {ps : List MemPlace} (h : DataW.Trod enc Tryz.prog W 0 (fun _ => true) true tS v d ps) (hlt : ∀ p ∈ ps, p.block < W.heap.size) (hv : ∃ a n c, v = .slice a n c) :
    ∃ (sa : Option Addr) (n cap : Nat), v = .slice sa n cap ∧ isRows W sa n k Q ∧ (d = .nil ∧ n = 0 ∨ ∃ elems spare, d = .slice elems spare ∧ elems.length = n) ∧
      ∀ W', Below W.heap.size W W' → ∀ sp : Nat → Bool, (∀ p ∈ ps, sp p.block = true) → DataW.Trod enc Tryz.prog W' 0 sp true tS v d ps := by
  obtain ⟨fuel, h⟩ := h
  obtain ⟨va, vn, vc, rfl⟩ := hv
  rcases open_slice hu h with ⟨hc, hx⟩ | ⟨a, len, cap, m, n, D, Pl, hc, hb, hl, hm, hmm, hx, hall⟩
  · simp [Value.cells] at hc
    obtain ⟨rfl, rfl, rfl⟩ := hc
    simp only [Prod.mk.injEq] at hx
    obtain ⟨rfl, rfl⟩ := hx
    refine ⟨none, 0, 0, rfl, (fun i hi => (by cases hi)), .inl ⟨rfl, rfl⟩, (fun W' _ sp _ => ⟨1, ?_⟩)⟩
    simp [Value.cells, DataW.trod, hu]
  · simp [Value.cells] at hc
    obtain ⟨rfl, rfl, rfl⟩ := hc
    simp only [if_true] at hmm
    subst hmm
    simp only [Prod.mk.injEq] at hx
    obtain ⟨rfl, rfl⟩ := hx
    rw [hk] at hall
    obtain ⟨O, hO⟩ := oneFor (α := List Value) [] (p := fun i cs => Q cs ∧ W.cells? 0 (a.add (i * k)) k = some cs ∧ DataW.trod enc Tryz.prog W 0 (fun _ => true) true n tE cs = some (D i, Pl i)) (fun i hi => by
      obtain ⟨cs, h1, h2⟩ := hall i hi
      exact ⟨cs, hread _ _ _ h2, h1, h2⟩)
    refine ⟨some a, vn, m, rfl, fun i hi => ?_, .inr ⟨_, _, rfl, by simp⟩, fun W' hbel sp hsp => ?_⟩
    · obtain ⟨_, hcl, h1⟩ := World.cells?_some (hO i (by omega)).2.1
      have hs : a.spot = none := by
        obtain ⟨_, hc0, h1'⟩ := World.cells?_some (hO 0 (by omega)).2.1
        have h2 := h1' 0 hk0
        rw [List.getElem?_eq_getElem (by omega)] at h2
        have := World.cell?_spot h2
        simpa [Addr.add] using this
      obtain ⟨g, off, spot⟩ := a
      subst hs
      refine ⟨g, off, O i, rfl, (hO i (by omega)).1, fun j u hu' => ?_⟩
      have hj : j < k := by
        have := (List.getElem?_eq_some_iff.1 hu').1
        omega
      have h2 := h1 j hj
      rw [add_add, add_plain, ← Nat.add_assoc] at h2
      rw [h2]
      exact hu'
    · have hcarry : ∀ i, i < m → ∃ cs n, W'.cells? 0 (a.add (i * Tryz.prog.cellsOf tE)) (Tryz.prog.cellsOf tE) = some cs ∧ DataW.trod enc Tryz.prog W' 0 sp true n tE cs = some (D i, Pl i) := fun i hi => by
        refine ⟨_, n, World.cells?_carry (w := W) (by rw [hk]; exact (hO i hi).2.1) fun p hp => hbel.same ?_, (hsame W' sp n _).trans (hO i hi).2.2⟩
        have hpb : p.block = a.block := by
          simp only [MemPlace.row, List.mem_map] at hp
          obtain ⟨j, _, rfl⟩ := hp
          simp [MemPlace.block, Addr.add]; split <;> rfl
        rw [hpb]
        refine hlt (.cell a.block (a.off + 0)) (List.mem_append_left _ ?_)
        simp only [MemPlace.row, List.mem_map, List.mem_range]
        exact ⟨0, by rw [hk]; exact Nat.mul_pos (by omega) hk0, rfl⟩
      by_cases h0 : m = 0
      · subst h0
        obtain rfl : vn = 0 := by omega
        cases hs : sp a.block with
        | false =>
          have := shut_slice (enc := enc) (w := W') (held := true) (a := a) (spare := sp) (base := 0) hu (Nat.zero_le _) (Nat.le_refl 0) hm hs D Pl (fun i hi => by omega)
          simpa using this
        | true => exact shut_slice_whole (enc := enc) (w := W') (held := true) (a := a) (spare := sp) (base := 0) hu (Nat.zero_le _) (Nat.le_refl 0) hm hs D Pl hcarry
      · refine shut_slice_whole (enc := enc) (w := W') (held := true) (a := a) (spare := sp) (base := 0) hu (Nat.zero_le _) hl hm (hsp (.cell a.block (a.off + 0)) (List.mem_append_left _ ?_)) D Pl hcarry
        simp only [MemPlace.row, List.mem_map, List.mem_range]
        exact ⟨0, by rw [hk]; exact Nat.mul_pos (by omega) hk0, rfl⟩

/-- The steps, opened. -/
theorem open_steps {H : Type} {enc : TypeId × Value → H} {W : World} {v : Value} {d : DataW H} {ps : List MemPlace} (h : DataW.Trod enc Tryz.prog W 0 (fun _ => true) true 26 v d ps) (hlt : ∀ p ∈ ps, p.block < W.heap.size) (hv : ∃ a n c, v = .slice a n c) :
    ∃ (sa : Option Addr) (n cap : Nat), v = .slice sa n cap ∧ isSteps W sa n ∧ (d = .nil ∧ n = 0 ∨ ∃ elems spare, d = .slice elems spare ∧ elems.length = n) ∧
      ∀ W', Below W.heap.size W W' → ∀ sp : Nat → Bool, (∀ p ∈ ps, sp p.block = true) → DataW.Trod enc Tryz.prog W' 0 sp true 26 v d ps := by
  obtain ⟨sa, n, cap, h1, h2, h3, h4⟩ := open_rows (Q := fun cs => ∃ p : Stp, cs = stpC p ∧ p.ok) Tryz.underlying26 cellsStp (by omega) (fun n cs x hx => trod_stp hx) (fun W' sp n cs => trod_stp_same _ _ n cs) h hlt hv
  refine ⟨sa, n, cap, h1, fun i hi => ?_, h3, h4⟩
  obtain ⟨g, off, cs, e, ⟨p, rfl, hp⟩, hc⟩ := h2 i hi
  exact ⟨g, off, p, e, hp, hc 0 _ rfl, hc 1 _ rfl, hc 2 _ rfl, hc 3 _ rfl, hc 4 _ rfl⟩
/-- Numbers, opened. -/
theorem open_nums {H : Type} {enc : TypeId × Value → H} {W : World} {v : Value} {d : DataW H} {ps : List MemPlace} (h : DataW.Trod enc Tryz.prog W 0 (fun _ => true) true 24 v d ps) (hlt : ∀ p ∈ ps, p.block < W.heap.size) (hv : ∃ a n c, v = .slice a n c) :
    ∃ (sa : Option Addr) (n cap : Nat), v = .slice sa n cap ∧ (∀ i, i < n → ∃ g o z, sa = some ⟨g, o, none⟩ ∧ W.cell? ⟨g, o + i, none⟩ = some (.int .i64 z)) ∧ (d = .nil ∧ n = 0 ∨ ∃ elems spare, d = .slice elems spare ∧ elems.length = n) ∧
      ∀ W', Below W.heap.size W W' → ∀ sp : Nat → Bool, (∀ p ∈ ps, sp p.block = true) → DataW.Trod enc Tryz.prog W' 0 sp true 24 v d ps := by
  obtain ⟨sa, n, cap, h1, h2, h3, h4⟩ := open_rows (Q := fun cs => ∃ z, cs = [Value.int .i64 z]) Tryz.underlying24 cellsI (by omega) (fun n cs x hx => by obtain ⟨z, hz, _⟩ := trodI_val Tryz.underlying3 hx; exact ⟨z, hz⟩) (fun W' sp n cs => trodI Tryz.underlying3 n cs) h hlt hv
  refine ⟨sa, n, cap, h1, fun i hi => ?_, h3, h4⟩
  obtain ⟨g, off, cs, e, ⟨z, rfl⟩, hc⟩ := h2 i hi
  refine ⟨g, off, z, e, ?_⟩
  have := hc 0 _ rfl
  rw [Nat.mul_one] at this
  exact this

end Go.Proofs.YtnkpogjiiohapaaGreatDoor

/-! QClaimA: What the claims of quirekeep's laws share. -/
namespace Go.Proofs.YtnkpogjiiohapaaGreatDoor
open Go.ChangeShapes Go.WideShapes Go.ChangeAt Go.RowKit

theorem post_below {H : Type} {enc : TypeId × Value → H} {P : Program} {f : Func} {s : ChangeSpec} {apart fresh handsOn again : Bool} {W W' : World} {args : Array Value} {v : Value} {ds gs : List (DataW H)} {before pa pv : List MemPlace}
    (hW : DataW.Whole enc P f.params.toList s.vars apart W args.toList ds gs before)
    (hres : ∀ (b : Nat) (sp : Nat → Bool) (hd : Bool), DataW.TrodAll enc P W' b sp hd f.resultTypes.toList (v.resultList f.resultTypes.size) (s.fn H (ds ++ gs)).results [])
    (hargs : ∀ sp : Nat → Bool, (∀ p ∈ before, sp p.block = true) → DataW.TrodAll enc P W' 0 sp true f.params.toList args.toList (s.fn H (ds ++ gs)).args pa)
    (hvars : ∀ sp : Nat → Bool, (∀ p ∈ before, sp p.block = true) → DataW.TrodVars enc P W' sp s.vars (s.fn H (ds ++ gs)).vars pv)
    (hps : before = pa ++ pv) (hb : Below W.heap.size W W')
    (hok : ∀ (j : Nat) (t : TypeId) (r : Value), f.resultTypes[j]? = some t → (v.resultList f.resultTypes.size)[j]? = some r → Value.okWide P W' .any 0 t r) :
    s.post enc P f apart fresh handsOn again W args v W' := by
  have hold : ∀ p ∈ before, (fun b => decide (b < W.heap.size)) p.block = true := fun p hp => by simpa using hW.lt p hp
  have hlt := hW.lt
  refine ⟨ds, gs, before, [], pa, pv, hW, hres _ _ _, hargs _ hold, hvars _ hold, World.keptBut_mono (fun p hp => ⟨hp, ?_⟩) (hb.frame _), fun _ => ?_⟩
  · rw [hps, List.mem_append] at hp
    exact Or.inr hp
  · obtain ⟨_, _, _, _, _, hz, hn⟩ := hW
    refine ⟨hok, _, _, ([] ++ pa) ++ pv, ⟨[] ++ pa, pv, trodAll_append (hargs _ (fun _ _ => rfl)) (hres _ _ _), hvars _ (fun _ _ => rfl), rfl, ?_, ?_⟩, ?_⟩
    · intro b off hp
      have hm : MemPlace.cell b off ∈ before := by rw [hps]; simpa using hp
      rw [hb.frozen (hlt _ hm)]
      exact hz b off hm
    · intro ha
      have := hn ha
      rw [hps] at this
      simpa using this
    · intro p hp _
      rw [hps]
      simpa using hp

theorem w_own : ownKnob Tryz.prog.godebug = none := by kernel_rfl
theorem g_pow : Tryz.prog.globalNamed "internal/strconv.uint64pow10" = some 1 := by kernel_rfl
theorem g_powT : (Tryz.prog.globals[1]?).map (·.type) = some 354 := by kernel_rfl
theorem cells_pow : Tryz.prog.cellsOf 354 = 20 := by kernel_rfl
theorem cells_u64 : Tryz.prog.cellsOf 315 = 1 := by kernel_rfl
theorem laid_tail {P : Program} {n : String} {d : DataW Unit} {r : List (String × DataW Unit)} {w : World} (h : laidMet P ((n, d) :: r) w) : laidMet P r w := by
  obtain ⟨ps, ⟨g, t, cs, fuel, p, q, _, _, _, _, h5, rfl⟩, hnd, hall⟩ := h
  exact ⟨q, h5, (List.nodup_append.1 hnd).2.1, fun b off hm => hall b off (List.mem_append_right _ hm)⟩

theorem bytes_stp : Tryz.prog.bytesOf 32 = 40 := by kernel_rfl

/-- The tables of math/bits. -/
def bits32 : List Int := [0, 1, 28, 2, 29, 14, 24, 3, 30, 22, 20, 15, 25, 17, 4, 8, 31, 27, 13, 23, 21, 19, 16, 7, 26, 12, 18, 6, 11, 5, 10, 9]
def bits64 : List Int := [0, 1, 56, 2, 57, 49, 28, 3, 61, 58, 42, 50, 38, 29, 17, 4, 62, 47, 59, 36, 45, 43, 51, 22, 53, 39, 33, 30, 24, 18, 12, 5, 63, 55, 48, 27, 60, 41, 37, 16, 46, 35, 44, 21, 52, 32, 23, 11, 54, 26, 40, 15, 34, 20, 31, 10, 25, 14, 19, 9, 13, 8, 7, 6]
/-- A table laid into its block. -/
def layTab (k : IntKind) (zs : List Int) : Obj → Obj
  | .cells _ t frozen => .cells (zs.map fun z => Value.int k z).toArray t frozen
  | o => o
def layAll (w : World) : World := { w with heap := ((w.heap.modify 1 (layTab .u64 Lib.pow10Tab)).modify 2 (layTab .u8 bits32)).modify 3 (layTab .u8 bits64) }

end Go.Proofs.YtnkpogjiiohapaaGreatDoor
