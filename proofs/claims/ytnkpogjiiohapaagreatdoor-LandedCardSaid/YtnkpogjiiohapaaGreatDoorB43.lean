/- Our own text (OLawF, LLawC). -/
import Derived.Test.YtnkpogjiiohapaaGreatDoorB42
set_option linter.unusedSimpArgs false
set_option linter.unusedVariables false

/-! OLawF: quirekeep: Ordered, where its room is laid. -/
namespace Go.Proofs.YtnkpogjiiohapaaGreatDoor
open Go.RowKit
attribute [local go_sem ↓] Go.wp_at_zero Go.wp_at_succ

theorem app_told {ops : Array Oper} {rest : List Oper} {o : Oper} {a : Act} {Q : Exit → Act → World → Prop} {w : World} (hgd : o.guard = none) (s x : Operand) (ho : o.op = .call { callee := .builtin .append, args := #[s, x], argTypes := #[64, 64] }) (v : Value) (ps : List (Value × List PId)) (hs : a.eval s = v)
    (hown : w.ownsRow 0 65 1 v ps.length (ps.flatMap slC)) (g c : Nat) (p q : Value × List PId) (hx : a.eval x = .slice (some ⟨g, 0, none⟩) 2 c) (h0 : w.cell? ⟨g, 0, none⟩ = some p.1) (h1 : w.cell? ⟨g, 1, none⟩ = some q.1) (w0 : p.1.oneCell' = true) (w1 : q.1.oneCell' = true) (hlen : ps.length ≤ 1000)
    (h : ∀ v' w', w'.ownsRow 0 65 1 v' (ps ++ [p, q]).length ((ps ++ [p, q]).flatMap slC) → w.grownBy w' v.ownBlock → newOr w v v' → wpList Tryz.prog ops Q rest (a.put o.dst v') w') : wpList Tryz.prog ops Q (o :: rest) a w := by
  refine wpList_plain hgd fun _ hK => ?_
  obtain ⟨i, hi, hz, hsz, hby⟩ := info_parts (show (Tryz.prog.info? 65).map (fun i => (i.zero, i.size, i.bytes)) = some (some (.slice none 0 0), 1, 24) by kernel_rfl)
  obtain ⟨v', w', hr, h2, h3, h4⟩ := run_app_where (P := Tryz.prog) w 0 64 o.type 65 i (.slice none 0 0) 1 24 Tryz.underlying64 hi hz hsz hby rfl (by omega) v ps.length (ps.flatMap slC) hown ⟨g, 0, none⟩ 2 c [p.1, q.1] rfl
    (fun j u hu => by
      have e : (⟨g, 0, none⟩ : Addr).add j = ⟨g, j, none⟩ := by unfold Addr.add; split <;> simp_all
      rw [e]
      match j, hu with
      | 0, hu => simp at hu; rw [← hu]; exact h0
      | 1, hu => simp at hu; rw [← hu]; exact h1) (fun u hu => by
      simp at hu
      rcases hu with rfl | rfl
      · exact w0
      · exact w1) (by unfold maxLen; omega) (by omega) (Nat.zero_le _)
  unfold Oper.wp execOp
  simp only [ho, resolve, invoke, builtin, Sem.run_bind, Sem.run_pure, Result.andThen_ok, List.map_toArray, List.map_cons, List.map_nil, hs, hx, hr]
  refine hK _ _ (h v' w' ?_ h3 h4)
  have e1 : (ps ++ [p, q]).length = ps.length + 2 := by simp
  have e2 : (ps ++ [p, q]).flatMap slC = ps.flatMap slC ++ [p.1, q.1] := by simp [slC]
  rw [e1, e2]
  exact h2
theorem ownIds.one {B : Nat} {w : World} {v : Value} {l : List PId} (h : ownIds B w v l) : v.oneCell' = true := by
  obtain ⟨a, cap, rfl, _⟩ := owns_form h
  rfl

set_option maxRecDepth 1000000 in
set_option maxHeartbeats 8000000 in
theorem orderedLaw_g {w : World} (raw spc : Int) {a : Option Addr} {n ca : Nat} (hn : n ≤ 4000000000000) (hs : isSteps w a n) (hl : Calls Tryz.prog 14 #[.int .i64 raw, .int .i64 spc] w fun e w' => LaidD w e w') :
    Calls Tryz.prog 10 #[.int .i64 raw, .int .i64 spc, .slice a n ca] w fun e w' => e = .returned (.bool true) ∧ Below w.heap.size w w' := by
  have HL := hid hl; have HS := hid hs
  clear hl hs
  go_enter Tryz.func10, Tryz.ntmps10
  go_wp2_with fail
  refine HL.out.mono ?_
  rintro e w1 ⟨hb1, tb, r, N, sp, ls, rfl, h2, M0, s0', hq⟩
  have HB1 := hid hb1; have HQ1 := hid hq; clear hb1 hq
  have hN4 := HQ1.out.i.hN
  go_wp2_with fail
  go_loopw [8, 9, 10] (fun ok told i wr => ∃ (k : Nat) (Z : Nat → Prop) (M : Nat → List MOp) (s : RoomS) (ps : List (Value × List PId)), k ≤ n ∧ k ≤ 80 ∧ ok = .bool true ∧ i = .int .i64 k ∧ OInv w.heap.size Z tb wr r N sp ls M s told ps ∧ ps.length = 2 * k ∧ Below w.heap.size w wr) (fun _ _ i _ => 80 - (intOf i).toNat)
  case atStart =>
    exact ⟨0, _, M0, s0', [], Nat.zero_le _, Nat.zero_le _, rfl, rfl, ⟨HQ1.out, ⟨World.ownsRow_nil _ _ _ _, fun g hg => (by cases hg), fun p hp => (by cases hp)⟩, fun k hk => .inl hk, fun g hg => (by cases hg), fun p hp => (by cases hp)⟩, rfl, HB1.out⟩
  case round =>
    obtain ⟨k, Z, M, s, ps, hkn, hk8, rfl, rfl, ho, hps, hbw⟩ := hrel
    obtain ⟨ta, tc, rfl, htc, htm, _⟩ := owns_form ho.t.row
    unfold maxLen at htm
    have HO := hid ho; have HB := hid hbw; have HPS := hid hps; clear ho hbw hps
    by_cases hlt : k < n ∧ k < 80
    · obtain ⟨hlt1, hlt2⟩ := hlt
      have hi1 : (k : Int) < (n : Int) := by omega
      have hi2 : (k : Int) < 80 := by omega
      have hk0 : (0 : Int) ≤ (k : Int) := Int.natCast_nonneg _
      obtain ⟨g, off, p, rfl, hpo, c0, c1, c2, c3, c4⟩ := HS.out k hlt1
      have HC := hid (And.intro c0 (And.intro c1 (And.intro c2 (And.intro c3 c4))))
      replace c0 := keep HB.out c0
      replace c1 := keep HB.out c1
      replace c2 := keep HB.out c2
      replace c3 := keep HB.out c3
      replace c4 := keep HB.out c4
      have HD := hid (does_g HO.out.q h2 p hpo)
      have HPO := hid hpo; clear hpo
      have hc := pickN_lt p.c (show 0 < N by omega)
      have hd := toN_lt p (show 0 < N by omega)
      go_wp2_with fail
      refine HD.out.mono ?_
      rintro e w2 ⟨⟨ev, rfl⟩, hst⟩
      obtain ⟨⟨M2, s2, ho2⟩, hb2⟩ := HO.out.step hst
      have HO2 := hid ho2; have HB2 := hid (HB.out.trans hb2); clear ho2 hb2 hst c0 c1 c2 c3 c4
      obtain ⟨c0, c1, c2, c3, c4⟩ := HC.out
      replace c0 := keep HB2.out c0
      replace c1 := keep HB2.out c1
      replace c2 := keep HB2.out c2
      replace c3 := keep HB2.out c3
      replace c4 := keep HB2.out c4
      have HLK := hid (link_g HO2.out.q.i.tab h2 hN4 p HPO.out)
      go_wp2_with fail
      refine HLK.out.mono ?_
      rintro e w3 ⟨rfl, hb3⟩
      have HO3 := hid (HO2.out.keep hb3); have HB3 := hid (HB2.out.trans (hb3.mono (HB2.out.size))); clear hb3 c0 c1 c2 c3 c4
      have HE1 := hid (fun W (hb : Below w3.heap.size w3 W) => (HO3.out.keep hb).q.els hc)
      have HT3 := hid HO3.out.q.i.tab
      go_wp2_with fail
      go_region_held3 (fun W => W.cell? ⟨tb, 1, none⟩ = some (.pointer (some ⟨r, 0, none⟩)) ∧ W.cell? ⟨tb, 2, none⟩ = some (.int .i64 ls.1) ∧ W.cell? ⟨tb, 3, none⟩ = some (.int .i64 ls.2)) (first | exact (HT4.out.cells).2 | exact (HT3.out.cells).2)
        (first
          | (go_at_call 29; refine (HE1.out _ (Below.refl _ _).drew).mono ?_; rintro e w4 ⟨hb4, ua, la, rfl, hua, hla, hla3⟩; have hb4' := Hid.out (below_drew_left hb4); have HT4 := hid (HT3.out.keep hb4'); have HUA := hid (And.intro hua (And.intro hla hla3)); have HB4 := hid hb4'; clear hb4 hb4' hua hla hla3))
      all_goals (
        have HE2 := hid (fun W (hb : Below w4.heap.size w4 W) => ((HO3.out.keep HB4.out).keep hb).q.els hd)
        go_wp2_with fail
        go_region_held3 (fun W => W.cell? ⟨tb, 1, none⟩ = some (.pointer (some ⟨r, 0, none⟩)) ∧ W.cell? ⟨tb, 2, none⟩ = some (.int .i64 ls.1) ∧ W.cell? ⟨tb, 3, none⟩ = some (.int .i64 ls.2)) (first | exact (HT5.out.cells).2 | exact (HT4.out.cells).2)
          (first
            | (go_at_call 29; refine (HE2.out _ (Below.refl _ _).drew).mono ?_; rintro e w5 ⟨hb5, ub, lb, rfl, hub, hlb, hlb3⟩; have hb5' := Hid.out (below_drew_left hb5); have HT5 := hid (HT4.out.keep hb5'); have HUB := hid (And.intro hub (And.intro hlb hlb3)); have HB5 := hid hb5'; clear hb5 hb5' hub hlb hlb3)))
      all_goals (
        have HO5 := hid ((HO3.out.keep HB4.out).keep HB5.out)
        have HB35 := hid (HB3.out.trans ((HB4.out.trans (HB5.out.mono HB4.out.size)).mono HB3.out.size))
        have HIA := hid (show idsAt w5 ua la from (ownIds.at HUA.out.1).keep HB5.out)
        have HIB := hid (show idsAt w5 ub lb from ownIds.at HUB.out.1)
        have hl3 := HUA.out.2.2
        have hm3 := HUB.out.2.2
        go_wp2_with fail
        refine (own_g HIA.out (by omega)).mono ?_
        rintro e w6 ⟨u1, rfl, hu1, hb6⟩
        obtain ⟨x1, y1, rfl, _, _, _⟩ := owns_form hu1
        have HU1 := hid hu1; have HB6 := hid hb6; clear hu1 hb6
        go_wp2_with fail
        refine (own_g (HIB.out.keep HB6.out) (by omega)).mono ?_
        rintro e w7 ⟨u2, rfl, hu2, hb7⟩
        obtain ⟨x2, y2, rfl, _, _, _⟩ := owns_form hu2
        have HU2 := hid hu2; have HB7 := hid hb7; clear hu2 hb7
        have HA := hid (show Below w7.heap.size w7 (w7.alloc (.cells #[.slice x1 la.length y1, .slice x2 lb.length y2] 65)) from (Below.refl _ w7).alloc (Nat.le_refl _) _)
        have HW := hid (show Below w5.heap.size w5 (w7.alloc (.cells #[.slice x1 la.length y1, .slice x2 lb.length y2] 65)) from (HB6.out.trans (HB7.out.mono HB6.out.size)).trans (HA.out.mono (Nat.le_trans HB6.out.size HB7.out.size)))
        have HU1' := hid (show ownIds w5.heap.size (w7.alloc (.cells #[.slice x1 la.length y1, .slice x2 lb.length y2] 65)) (.slice x1 la.length y1) la from owns_keep (owns_keep HU1.out HB7.out) HA.out)
        have HU2' := hid (show ownIds w5.heap.size (w7.alloc (.cells #[.slice x1 la.length y1, .slice x2 lb.length y2] 65)) (.slice x2 lb.length y2) lb from owns_keep (owns_mono HU2.out HB6.out.size) HA.out)
        have HRW := hid (owns_keep HO5.out.t.row HW.out)
        have hlen : ps.length ≤ 1000 := by have := HPS.out; omega
        have HBL := hid (blk_new w7 (.cells #[.slice x1 la.length y1, .slice x2 lb.length y2] 65))
        go_wp2_with (at_builtin; go_must (refine app_told rfl (.tmp 86) (.tmp 91) rfl (.slice ta ps.length tc) ps rfl HRW.out w7.heap.size 2 (.slice x1 la.length y1, la) (.slice x2 lb.length y2, lb) rfl ?h1 ?h2 HU1.out.one HU2.out.one hlen ?_; (case h1 => exact (blk2 HBL.out).1); (case h2 => exact (blk2 HBL.out).2); intro v1 w8 ho8 hg8 hn8; have HX := hid (HO5.out.more HW.out HU1'.out HU2'.out HUA.out.2 HUB.out.2 ho8 hg8 hn8); clear ho8 hg8 hn8))
        obtain ⟨⟨Z8, ho8⟩, hb8, hids⟩ := HX.out
        have HIA8 := hid (ownIds.at (hids _ _ _ (owns_keep (owns_keep HUA.out.1 HB5.out) HW.out)))
        have HIB8 := hid (ownIds.at (hids _ _ _ (owns_keep HUB.out.1 HW.out)))
        clear hids
        obtain ⟨t8, c8, rfl, h81, h82, _⟩ := owns_form ho8.t.row
        unfold maxLen at h82
        have HO8 := hid ho8; have HB8 := hid (HB35.out.trans hb8); clear ho8 hb8 HX
        have hlen8 : (ps ++ [(Value.slice x1 la.length y1, la), (Value.slice x2 lb.length y2, lb)]).length = 2 * (k + 1) := by simp [HPS.out]; omega
        obtain ⟨qs, hqs⟩ : ∃ qs, qs = ps ++ [(Value.slice x1 la.length y1, la), (Value.slice x2 lb.length y2, lb)] := ⟨_, rfl⟩
        rw [← hqs] at HO8 hlen8 h81 ⊢
        have HLQ := hid hlen8; clear hlen8
        clear hqs
        go_wp2_with fail
        go_loopw [8, 17] (fun ok j wr => ∃ i : Nat, i ≤ qs.length ∧ ok = .bool true ∧ j = .int .i64 i ∧ Below w8.heap.size w8 wr) (fun _ j _ => qs.length - (intOf j).toNat)
        case atStart => exact ⟨0, Nat.zero_le _, rfl, rfl, Below.refl _ _⟩
        case round =>
          obtain ⟨i, hi, rfl, rfl, hbi⟩ := hrel
          have HBI := hid hbi; clear hbi
          by_cases hil : i < qs.length
          · have hil' : (i : Int) < (qs.length : Int) := by omega
            have hi0 : (0 : Int) ≤ (i : Int) := Int.natCast_nonneg _
            obtain ⟨gt, rfl, tc0, hid0⟩ := (HO8.out.t).at hil
            have HQI := hid hid0; clear hid0
            have hsub := HO8.out.sub _ (List.getElem_mem hil)
            have HAG := hid (fun W (hb : Below w8.heap.size w8 W) => agree_g (HQI.out.keep hb) (HIA8.out.keep hb) (ordL_nd HO8.out.q.i.ok ls) hsub.1 HUA.out.2.1 (by omega) (by omega))
            have HAH := hid (fun W (hb : Below w8.heap.size w8 W) => agree_g (HQI.out.keep hb) (HIB8.out.keep hb) (ordL_nd HO8.out.q.i.ok ls) hsub.1 HUB.out.2.1 (by omega) (by omega))
            have HTC := hid tc0
            clear hsub
            replace tc0 := keep HBI.out tc0
            obtain ⟨xi, yi, zi, hvi⟩ : ∃ x y z, qs[i].1 = .slice x y z := by
              obtain ⟨x, y, e, _⟩ := owns_form (HO8.out.t.each _ (List.getElem_mem hil)).1
              exact ⟨x, _, y, e⟩
            rw [hvi] at tc0 HAG HAH HTC
            clear hvi
            go_wp2_with fail
            refine (HAG.out _ HBI.out).mono ?_
            rintro e w9 ⟨rfl, hb9⟩
            have HB9 := hid (HBI.out.trans (hb9.mono HBI.out.size)); clear hb9 tc0
            have tc0 := keep HB9.out HTC.out
            go_wp2_with fail
            refine (HAH.out _ HB9.out).mono ?_
            rintro e w10 ⟨rfl, hb10⟩
            have HB10 := hid (HB9.out.trans (hb10.mono HB9.out.size)); clear hb10 tc0
            go_wp2
            go_roundw
            case rel => exact ⟨i + 1, by omega, rfl, by go_num, HB10.out⟩
            case measure => simp [intOf]; omega
          · have hil' : ¬ (i : Int) < (qs.length : Int) := by omega
            go_wp2
            go_roundw
            case rel => exact ⟨k + 1, Z8, M2, s2, qs, by omega, by omega, rfl, by go_num, HO8.out.keep HBI.out, HLQ.out, HB8.out.trans (HBI.out.mono HB8.out.size)⟩
            case measure => simp [intOf]; omega)
    · by_cases h1 : k < n
      · have hi1 : (k : Int) < (n : Int) := by omega
        have hi2 : ¬ (k : Int) < 80 := by omega
        go_wp2
        go_ret
        exact ⟨rfl, HB.out⟩
      · have hi1 : ¬ (k : Int) < (n : Int) := by omega
        go_wp2
        go_ret
        exact ⟨rfl, HB.out⟩

end Go.Proofs.YtnkpogjiiohapaaGreatDoor

/-! LLawC: quirekeep: Landed, where its room is laid: its first loop, and what its lists are. -/
namespace Go.Proofs.YtnkpogjiiohapaaGreatDoor
open Go.RowKit
attribute [local go_sem ↓] Go.wp_at_zero Go.wp_at_succ

/-- What is behind a place of a list, as it is read. -/
theorem idsAt.drop {w : World} {g n cap : Nat} {l : List PId} (h : idsAt w (.slice (some ⟨g, 0, none⟩) n cap) l) {i : Nat} (hi : i ≤ l.length) (c : Nat) : srcIs w idC (.slice (some ⟨g, i * 2, none⟩) (l.length - i) c) (l.drop i) := by
  have hs := h.src
  rcases hs with ⟨e, _⟩ | ⟨a, c', e, hc⟩
  · cases e
  · injection e with e1 e2 e3
    injection e1 with e1
    subst e1
    refine .inr ⟨⟨g, i * 2, none⟩, c, by rw [List.length_drop], fun j u hu => ?_⟩
    have h1 : ((⟨g, i * 2, none⟩ : Addr).add j) = ⟨g, i * 2 + j, none⟩ := by unfold Addr.add; split <;> simp_all
    have h2 : ((⟨g, 0, none⟩ : Addr).add (i * 2 + j)) = ⟨g, i * 2 + j, none⟩ := by unfold Addr.add; split <;> simp_all
    rw [h1, ← h2]
    refine hc _ _ ?_
    have e : l.flatMap idC = (l.take i).flatMap idC ++ (l.drop i).flatMap idC := by rw [← List.flatMap_append, List.take_append_drop]
    have hl : ((l.take i).flatMap idC).length = i * 2 := by rw [flat_len idC 2 (fun _ => rfl), List.length_take, Nat.min_eq_left hi]
    rw [e, List.getElem?_append_right (by omega), hl, show i * 2 + j - i * 2 = j by omega]
    exact hu

/-- The law's state. -/
structure LInv (B : Nat) (Z : Nat → Prop) (tb : Nat) (w : World) (r N sp : Nat) (ls : PId) (M : Nat → List MOp) (s : RoomS) : Prop where
  q : QInv Z tb w r N sp ls M s
  z0 : ∀ k, k < B → Z k
def hasL' (B tb : Nat) (w : World) (r N sp : Nat) (ls : PId) : Prop := ∃ Z M s, LInv B Z tb w r N sp ls M s
theorem LInv.keep {B : Nat} {Z : Nat → Prop} {tb : Nat} {w w' : World} {r N sp : Nat} {ls : PId} {M : Nat → List MOp} {s : RoomS} (h : LInv B Z tb w r N sp ls M s) (hb : Below w.heap.size w w') : LInv B Z tb w' r N sp ls M s := ⟨h.q.keep hb, h.z0⟩
theorem LInv.more {B : Nat} {Z : Nat → Prop} {tb : Nat} {w w' : World} {r N sp : Nat} {ls : PId} {M : Nat → List MOp} {s : RoomS} (h : LInv B Z tb w r N sp ls M s) (hb : Below w.heap.size w w') : LInv B (fun k => Z k ∨ (w.heap.size ≤ k ∧ k < w'.heap.size)) tb w' r N sp ls M s := ⟨⟨h.q.i.more hb, h.q.l⟩, fun k hk => .inl (h.z0 k hk)⟩
/-- The list of a copy, told: just it. -/
theorem QInv.elsP {Z : Nat → Prop} {tb : Nat} {w : World} {r N sp : Nat} {ls : PId} {M : Nat → List MOp} {s : RoomS} (h : QInv Z tb w r N sp ls M s) {c : Nat} (hc : c < N) :
    Calls Tryz.prog 29 #[.pointer (some ⟨r, 0, none⟩), .int .i64 c, .agg #[.int .i64 ls.1, .int .i64 ls.2]] w fun e w' => Below w.heap.size w w' ∧ ∃ a cap l, e = .returned (.tuple #[.slice a l.length cap, .int .i64 0]) ∧ ownIds w.heap.size w' (.slice a l.length cap) l ∧ elementsP (ROf (s.ops c)) ls = .ok l ∧ l.length ≤ 300 := by
  obtain ⟨F, I, x, hr⟩ := h.i
  obtain ⟨o, ho, hl, he⟩ := list_ok hr.d.ok h.l hc
  refine (gElements hr.d hc ls.1 ls.2).mono ?_
  rintro e w' ⟨hb, ⟨n, hn, rfl⟩ | ⟨v, l, hok, hl, rfl, hv⟩⟩
  · exact absurd (he.symm.trans hn) (by simp)
  · obtain ⟨a, cap, rfl, _, _, _⟩ := owns_form hv
    exact ⟨hb, a, cap, l, rfl, hv, hok, hl⟩
theorem own_gP {w : World} {v : Value} {l : List PId} (h : idsAt w v l) (hl : l.length ≤ 100000) :
    Calls Tryz.prog 30 #[v] w fun e w' => ∃ a cap, e = .returned (.slice a l.length cap) ∧ ownIds w.heap.size w' (.slice a l.length cap) l ∧ Below w.heap.size w w' := by
  refine (own_g h hl).mono ?_
  rintro e w' ⟨u, rfl, hu, hb⟩
  obtain ⟨a, cap, rfl, _, _, _⟩ := owns_form hu
  exact ⟨a, cap, rfl, hu, hb⟩

section
theorem QInv.insertR {Z : Nat → Prop} {tb : Nat} {w : World} {r N sp : Nat} {ls : PId} {M : Nat → List MOp} {s : RoomS} (h : QInv Z tb w r N sp ls M s) {c : Nat} (hc : c < N) {L : List PId} (hL : elementsP (ROf (s.ops c)) ls = .ok L) (i : Nat) (hi : i ≤ L.length) (n : Int) (hn : intOk n) :
    Calls Tryz.prog 32 #[.pointer (some ⟨r, 0, none⟩), .int .i64 c, .agg #[.int .i64 ls.1, .int .i64 ls.2], .int .i64 i, .int .i64 n] w fun e w' =>
      ∃ a b f : Int, e = .returned (.tuple #[.agg #[.int .i64 a, .int .i64 b], .int .i64 f]) ∧ ((f = 0 ∧ Tells Z tb r N sp ls c (L.take i ++ (a, b) :: L.drop i) w w') ∨ (f = 8 ∧ Tells Z tb r N sp ls c L w w')) := by
  refine (h.insertL hc hL i hi n hn).mono ?_
  rintro e w' (⟨a, b, rfl, ht⟩ | ⟨rfl, ht⟩)
  · exact ⟨a, b, 0, rfl, .inl ⟨rfl, ht⟩⟩
  · exact ⟨0, 0, 8, rfl, .inr ⟨rfl, ht⟩⟩
theorem QInv.setAtR {Z : Nat → Prop} {tb : Nat} {w : World} {r N sp : Nat} {ls : PId} {M : Nat → List MOp} {s : RoomS} (h : QInv Z tb w r N sp ls M s) {c : Nat} (hc : c < N) {L : List PId} (hL : elementsP (ROf (s.ops c)) ls = .ok L) (i : Nat) (hi : i ≤ L.length) (n : Int) (hn : intOk n) :
    Calls Tryz.prog 33 #[.pointer (some ⟨r, 0, none⟩), .int .i64 c, .agg #[.int .i64 ls.1, .int .i64 ls.2], .int .i64 i, .int .i64 n] w fun e w' =>
      ∃ f : Int, e = .returned (.int .i64 f) ∧ ((i < L.length ∧ f = 0) ∨ (i < L.length ∧ f = 8) ∨ (i = L.length ∧ f = 7)) ∧ Tells Z tb r N sp ls c L w w' := by
  refine (h.setAtL hc hL i hi n hn).mono ?_
  rintro e w' ⟨(⟨h1, rfl | rfl⟩ | ⟨h1, rfl⟩), ht⟩
  · exact ⟨0, rfl, .inl ⟨h1, rfl⟩, ht⟩
  · exact ⟨8, rfl, .inr (.inl ⟨h1, rfl⟩), ht⟩
  · exact ⟨7, rfl, .inr (.inr ⟨h1, rfl⟩), ht⟩
theorem QInv.cutAtR {Z : Nat → Prop} {tb : Nat} {w : World} {r N sp : Nat} {ls : PId} {M : Nat → List MOp} {s : RoomS} (h : QInv Z tb w r N sp ls M s) {c : Nat} (hc : c < N) {L : List PId} (hL : elementsP (ROf (s.ops c)) ls = .ok L) (i : Nat) (hi : i ≤ L.length) :
    Calls Tryz.prog 34 #[.pointer (some ⟨r, 0, none⟩), .int .i64 c, .agg #[.int .i64 ls.1, .int .i64 ls.2], .int .i64 i] w fun e w' =>
      ∃ f : Int, e = .returned (.int .i64 f) ∧ ((i < L.length ∧ f = 0 ∧ Tells Z tb r N sp ls c (L.take i ++ L.drop (i + 1)) w w') ∨ (i < L.length ∧ f = 8 ∧ Tells Z tb r N sp ls c L w w') ∨ (i = L.length ∧ (f = 7 ∨ f = 8) ∧ Tells Z tb r N sp ls c L w w')) := by
  refine (h.cutAtL hc hL i hi).mono ?_
  rintro e w' (⟨h1, rfl, ht⟩ | ⟨h1, rfl, ht⟩ | ⟨h1, rfl | rfl, ht⟩)
  · exact ⟨0, rfl, .inl ⟨h1, rfl, ht⟩⟩
  · exact ⟨8, rfl, .inr (.inl ⟨h1, rfl, ht⟩)⟩
  · exact ⟨7, rfl, .inr (.inr ⟨h1, .inl rfl, ht⟩)⟩
  · exact ⟨8, rfl, .inr (.inr ⟨h1, .inr rfl, ht⟩)⟩
end

theorem idsAt.atI {w : World} {a : Option Addr} {n cap : Nat} {l : List PId} (h : idsAt w (.slice a n cap) l) {y : Nat} (hy : y < l.length) : ∃ g, a = some ⟨g, 0, none⟩ ∧ w.cell? ⟨g, y * 2, none⟩ = some (.int .i64 l[y].1) ∧ w.cell? ⟨g, y * 2 + 1, none⟩ = some (.int .i64 l[y].2) := by
  rcases h with ⟨_, rfl⟩ | ⟨g, cap', e, _, _, h3⟩
  · cases hy
  · injection e with e1 e2 e3
    exact ⟨g, e1, h3 y hy⟩
theorem Tells.zept {Z : Nat → Prop} {tb r N sp : Nat} {ls : PId} {c : Nat} {L L' : List PId} {w w' : World} {f : Int} (h : (f = 0 ∧ Tells Z tb r N sp ls c L w w') ∨ (f = 8 ∧ Tells Z tb r N sp ls c L' w w')) : Zept Z w w' := by
  rcases h with h | h
  · exact h.2.2
  · exact h.2.2
/-- What stands behind a write of the list's: the copy tells LX, and 'before' is as it was. -/
def WroteL (B tb r N sp : Nat) (ls : PId) (c : Nat) (LX : List PId) (vb : Value) (L : List PId) (w WX : World) : Prop := (∃ Z M s, LInv B Z tb WX r N sp ls M s ∧ elementsP (ROf (s.ops c)) ls = .ok LX) ∧ ownIds 0 WX vb L ∧ Below B w WX
theorem Tells.wrote {B : Nat} {Z : Nat → Prop} {tb r N sp : Nat} {ls : PId} {c : Nat} {LX L : List PId} {vb : Value} {w W w8 : World} (h : Tells Z tb r N sp ls c LX W w8) (hz0 : ∀ k, k < B → Z k) (hb : Below B w W) (hv : ownIds 0 W vb L) (hvz : ∀ k, vb.ownBlock = some k → Z k) : WroteL B tb r N sp ls c LX vb L w w8 := by
  obtain ⟨⟨M, s, hq, he⟩, hz⟩ := h
  exact ⟨⟨Z, M, s, ⟨hq, hz0⟩, he⟩, row_blk hv fun g hg => hz.block g (hvz g hg), hb.trans (hz.below hz0)⟩
theorem WroteL.keep {B tb r N sp : Nat} {ls : PId} {c : Nat} {LX L : List PId} {vb : Value} {w WX W' : World} (h : WroteL B tb r N sp ls c LX vb L w WX) (hb : Below WX.heap.size WX W') (hB : B ≤ WX.heap.size) : WroteL B tb r N sp ls c LX vb L w W' := by
  obtain ⟨⟨Z, M, s, hi, he⟩, hv, hb0⟩ := h
  exact ⟨⟨Z, M, s, hi.keep hb, he⟩, owns_keep hv hb, hb0.trans (hb.mono hB)⟩
/-- The box of an Id, laid ahead of the call and written behind it. -/
theorem WroteL.box {B tb r N sp : Nat} {ls : PId} {c : Nat} {LX L : List PId} {vb : Value} {w w7 WX : World} {Z : Nat → Prop} {M : Nat → List MOp} {s : RoomS} {bx : Nat} (hi : LInv B Z tb WX r N sp ls M s) (he : elementsP (ROf (s.ops c)) ls = .ok LX) (hv : ownIds 0 WX vb L) (hb : Below B w WX) (hz : Z bx) (ht : bx ≠ tb) (hvb : vb.ownBlock ≠ some bx) (hB : B ≤ bx) (u v : Value) : WroteL B tb r N sp ls c LX vb L w ((WX.setCell ⟨bx, 0, none⟩ u).setCell ⟨bx, 1, none⟩ v) := by
  have hk : ∀ k, k ≠ bx → ((WX.setCell ⟨bx, 0, none⟩ u).setCell ⟨bx, 1, none⟩ v).heap[k]? = WX.heap[k]? := fun k hne => by rw [setCell_other hne, setCell_other hne]
  have hs : ((WX.setCell ⟨bx, 0, none⟩ u).setCell ⟨bx, 1, none⟩ v).heap.size = WX.heap.size := by simp [World.setCell]
  refine ⟨⟨_, M, s, ⟨⟨hi.q.i.turn (ob := some bx) (fun g e => by cases e; exact ⟨hz, ht⟩) (by rw [hs]; exact Nat.le_refl _) (fun k _ hne => hk k fun e => hne (by rw [e])), hi.q.l⟩, fun k hk => .inl (hi.z0 k hk)⟩, he⟩, row_blk hv fun g hg => hk g fun e => hvb (by rw [hg, e]), (hb.setCell hB u).setCell hB v⟩

section
theorem set_wrote {B : Nat} {Z : Nat → Prop} {tb : Nat} {w w7 w8 : World} {r N sp : Nat} {ls : PId} {M : Nat → List MOp} {s : RoomS} {c : Nat} {LX L : List PId} {vb : Value} (hi : LInv B Z tb w7 r N sp ls M s) (hv : ownIds 0 w7 vb L) (hvz : ∀ k, vb.ownBlock = some k → Z k) (hb : Below B w w7) (ht : Tells (fun k => Z k ∨ (w7.heap.size ≤ k ∧ k < w7.drew.heap.size)) tb r N sp ls c LX w7.drew w8) : WroteL B tb r N sp ls c LX vb L w w8 :=
  ht.wrote (fun k hk => .inl (hi.z0 k hk)) hb.drew (owns_keep hv (Below.refl _ _).drew) (fun k hk => .inl (hvz k hk))
theorem insA_wrote {B : Nat} {Z : Nat → Prop} {tb : Nat} {w w7 w8 : World} {r N sp : Nat} {ls : PId} {M : Nat → List MOp} {s : RoomS} {c : Nat} {LX L : List PId} {vb : Value} (hi : LInv B Z tb w7 r N sp ls M s) (hv : ownIds 0 w7 vb L) (hvz : ∀ k, vb.ownBlock = some k → Z k) (hb : Below B w w7) (hB : B ≤ w.heap.size) (ht : Tells (fun k => Z k ∨ (w7.heap.size ≤ k ∧ k < w7.drew.heap.size)) tb r N sp ls c LX w7.drew w8) (o : Obj) : WroteL B tb r N sp ls c LX vb L w (w8.alloc o) := by
  have h := set_wrote hi hv hvz hb ht
  exact h.keep ((Below.refl _ w8).alloc (Nat.le_refl _) o) (Nat.le_trans hB h.2.2.size)
theorem insB_wrote {B : Nat} {Z : Nat → Prop} {tb : Nat} {w w7 w8 : World} {r N sp : Nat} {ls : PId} {M : Nat → List MOp} {s : RoomS} {c : Nat} {LX L : List PId} {vb : Value} (hi : LInv B Z tb w7 r N sp ls M s) (hv : ownIds 0 w7 vb L) (hvz : ∀ k, vb.ownBlock = some k → Z k) (hb : Below B w w7) (hB : B ≤ w.heap.size) (o : Obj) (ht : Tells (fun k => Z k ∨ (w7.heap.size ≤ k ∧ k < (w7.alloc o).drew.heap.size)) tb r N sp ls c LX (w7.alloc o).drew w8) (u v : Value) : WroteL B tb r N sp ls c LX vb L w ((w8.setCell ⟨w7.heap.size, 0, none⟩ u).setCell ⟨w7.heap.size, 1, none⟩ v) := by
  have hbo : Below w7.heap.size w7 (w7.alloc o).drew := ((Below.refl _ w7).alloc (Nat.le_refl _) o).drew
  have h := ht.wrote (B := B) (vb := vb) (L := L) (w := w) (fun k hk => .inl (hi.z0 k hk)) (hb.trans (hbo.mono (Nat.le_trans hB hb.size))) (owns_keep hv hbo) (fun k hk => .inl (hvz k hk))
  obtain ⟨⟨M', s', hq, he⟩, hz⟩ := ht
  have hzl := hi.q.i.zlt
  exact WroteL.box (w7 := w7) (bx := w7.heap.size) ⟨hq, fun k hk => .inl (hi.z0 k hk)⟩ he h.2.1 h.2.2 (.inr ⟨Nat.le_refl _, by have := hq.i.zlt; simp [World.drew]⟩) (fun e => by have := hzl tb hi.q.i.ztb; omega) (fun e => by have := hzl _ (hvz _ e); omega) (Nat.le_trans hB hb.size) u v
end

theorem boxKept {Z : Nat → Prop} {tb r N sp : Nat} {ls : PId} {c : Nat} {L L' : List PId} {w7 w8 : World} {f : Int} {cs : Array Value} {t : TypeId} (h : (f = 0 ∧ Tells (fun k => Z k ∨ (w7.heap.size ≤ k ∧ k < (w7.alloc (.cells cs t)).drew.heap.size)) tb r N sp ls c L (w7.alloc (.cells cs t)).drew w8) ∨ (f = 8 ∧ Tells (fun k => Z k ∨ (w7.heap.size ≤ k ∧ k < (w7.alloc (.cells cs t)).drew.heap.size)) tb r N sp ls c L' (w7.alloc (.cells cs t)).drew w8)) : w8.heap[w7.heap.size]? = some (.cells cs t (0, 0)) :=
  ((Tells.zept h).block w7.heap.size (.inr ⟨Nat.le_refl _, by simp [World.drew]⟩)).trans (blk_new w7 (.cells cs t))

theorem WroteL.tab {B tb r N sp : Nat} {ls : PId} {c : Nat} {LX L : List PId} {vb : Value} {w WX : World} (h : WroteL B tb r N sp ls c LX vb L w WX) : isTab WX tb N r ls := by
  obtain ⟨⟨Z, M, s, hi, _⟩, _⟩ := h
  exact hi.q.i.tab
/-- What CutAt leaves, whatever it answers. -/
theorem cut_some {Z : Nat → Prop} {tb r N sp : Nat} {ls : PId} {c : Nat} {L0 L1 : List PId} {i n : Nat} {w w' : World} {f : Int} (h : (i < n ∧ f = 0 ∧ Tells Z tb r N sp ls c L1 w w') ∨ (i < n ∧ f = 8 ∧ Tells Z tb r N sp ls c L0 w w') ∨ (i = n ∧ (f = 7 ∨ f = 8) ∧ Tells Z tb r N sp ls c L0 w w')) : ∃ LX, Tells Z tb r N sp ls c LX w w' := by
  rcases h with h | h | h
  · exact ⟨_, h.2.2⟩
  · exact ⟨_, h.2.2⟩
  · exact ⟨_, h.2.2⟩

end Go.Proofs.YtnkpogjiiohapaaGreatDoor
