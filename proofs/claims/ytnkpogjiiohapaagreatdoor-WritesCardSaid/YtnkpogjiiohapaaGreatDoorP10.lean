/- Our own text (PRoomF, PRoomG, PRoomH, PRoomI, PNewB). -/
import Derived.Test.YtnkpogjiiohapaaGreatDoorP09
set_option linter.unusedSimpArgs false
set_option linter.unusedVariables false

/-! PRoomF: The program's room: Cut, Elements, Values. -/
namespace Go.Proofs.YtnkpogjiiohapaaGreatDoor
open Go.RowKit
attribute [local go_sem ↓] Go.wp_at_zero Go.wp_at_succ

theorem RepAt.values {w : World} {rb : Nat} {F : Nat → Prop} {N sp c : Nat} {S : List POp} {gh hb bE bN : Nat} {vo vr : Value} {ops : List MOp} {rs : List Nat} {d bo be : Nat} {D : QDoc} (h : RepAt w rb F N sp c S gh hb bE bN vo vr ops rs d bo be D) {x : PId} {o : PObj} (ho : objOf (S.foldl doesP rootP) x = some o) (hl : o.list = false) {key : ByteArray} (hk : keyOk key = true) (W : World) (hb : Below w.heap.size w W) :
    Calls Tryz.prog 49 #[.pointer (some ⟨d, 0, none⟩), .agg #[.int .i64 x.1, .int .i64 x.2, .string key, .int .i64 0, .int .i64 0]] W fun e w' => ∃ u, e = .returned u ∧ ownVals W.heap.size w' u ((heldsAt o key (0, 0)).map valOf) ∧ Below W.heap.size W w' := by
  have h1 := helds_one h.ok ho key (0, 0)
  have hp := perm_one (h.agree.atK ho hl (keyOk_size hk).1 (0, 0)).2 (by rw [List.length_map]; exact h1)
  have := qvalues_q (h.hist.q.keep hb) x.1 x.2 0 0 key (by rw [hp, List.length_map]; exact h1)
  rw [hp, List.map_map] at this
  exact this

section
set_option maxRecDepth 1000000 in
set_option maxHeartbeats 4000000 in
theorem prog_cut {w : World} {r : Nat} {F : Nat → Prop} {N sp : Nat} {P : Nat → List POp} (h : isPr w r F N sp P) {c : Nat} (hc : c < N) (x1 x2 : Int) (key : ByteArray) (hks : key.size ≤ maxLen) :
    Calls Tryz.prog 78 #[.pointer (some ⟨r, 0, none⟩), .int .i64 c, .agg #[.int .i64 x1, .int .i64 x2], .string key] w fun e w' =>
      (∃ m, cutPl ((P c).foldl doesP rootP) (topP (P c)) (P c).length c (x1, x2) key = .error m ∧ e = .returned (.int .i64 m) ∧ LeftPr F N sp P r w w') ∨
      (∃ ps, cutPl ((P c).foldl doesP rootP) (topP (P c)) (P c).length c (x1, x2) key = .ok ps ∧ e = .returned (.int .i64 0) ∧ WrotePr F N sp P c r w w' ps) := by
  obtain ⟨gC, cC, bl, rbs, Fc, h⟩ := h
  have HB := hid ((Below.refl w.heap.size w).alloc (Nat.le_refl _) (.cells #[.int .i64 x1, .int .i64 x2] 36))
  have HA := hid (atKey_q (h.keep HB.out) c hc x1 x2 key hks)
  have HH := hid h; clear h
  go_enter Tryz.func78, Tryz.ntmps78
  go_wp2_with fail
  refine HA.out.mono ?_
  rintro e w1 ⟨hb1, hat⟩
  have HB1 := hid (HB.out.trans (hb1.mono HB.out.size)); clear hb1
  have hz1 := HB1.out.size
  rcases hat with ⟨m, hm, hp, rfl⟩ | ⟨o, ho, hol, hko, hkd, rfl⟩
  · have HE := hid (show cutPl ((P c).foldl doesP rootP) (topP (P c)) (P c).length c (x1, x2) key = .error m by unfold cutPl; rw [hp]); clear hp
    rcases hm with rfl | rfl | rfl
    all_goals go_wp2
    all_goals go_ret
    all_goals exact .inl ⟨_, HE.out, rfl, HH.out.left (HB1.out.alloc hz1 _)⟩
  · have HPL := hid (show cutPl ((P c).foldl doesP rootP) (topP (P c)) (P c).length c (x1, x2) key = _ by unfold cutPl; rw [hkd]); clear hkd
    have HBW := hid (HB1.out.alloc hz1 (.cells #[.int .i64 x1, .int .i64 x2, .string key, .int .i64 0, .int .i64 0] 97))
    have htop := (HH.out.reps c hc).top
    have HX1 := hid (blk_new w1 (.cells #[.int .i64 x1, .int .i64 x2, .string key, .int .i64 0, .int .i64 0] 97))
    obtain ⟨gh, hb, bE, bN, vo, vr, ops, rs, d, bo, be, D, hrep⟩ := HH.out.reps c hc
    have HD := hid (fun W (hb : Below w.heap.size w W) => document_q (hrep.keep hb))
    have HV := hid (hrep.values ho hol hko)
    have HS := hid (fun W (hb : Below w.heap.size w W) => repCut_q ((HH.out.reps c hc).keep hb) (opKey 4 (((P c).length : Int) + 1) c (x1, x2) key 0 (0, 0) ((heldsAt o key (0, 0)).map PHeld.giver)) rfl rfl (next_key 4 (.inr rfl) _ _ (by rw [htop]; omega) hko ho hol 0 (by unfold intOk; omega) (0, 0) (HH.out.reps c hc).ok.rootIn))
    have hone := helds_one hrep.ok ho key (0, 0)
    clear ho hol hko hrep
    go_wp2_with fail
    go_region_held3 (fun W => W.cell? ⟨w1.heap.size, 0, none⟩ = some (.int .i64 x1) ∧ W.cell? ⟨w1.heap.size, 1, none⟩ = some (.int .i64 x2) ∧ W.cell? ⟨w1.heap.size, 2, none⟩ = some (.string key) ∧ W.cell? ⟨w1.heap.size, 3, none⟩ = some (.int .i64 0) ∧ W.cell? ⟨w1.heap.size, 4, none⟩ = some (.int .i64 0)) (first | exact blk5 HX1.out | exact blk5 HX3.out | exact blk5 HX2.out)
      (first
        | (go_at_call 48; refine (HD.out _ HBW.out.drew).mono ?_; rintro e w2 ⟨rfl, hb2⟩; have HX2 := hid (blk_keep HX1.out (Hid.out (below_drew_left hb2))); have HB2 := hid (HBW.out.drew.trans (hb2.mono HBW.out.size)); clear hb2)
        | (go_at_call 49; refine (HV.out w2 HB2.out).mono ?_; rintro e w3 ⟨u, rfl, hu, hb3⟩; obtain ⟨ua, uc, rfl, _, _, _⟩ := owns_form hu; rw [List.length_map]; have HX3 := hid (blk_keep HX2.out hb3); have HB3 := hid (HB2.out.trans (hb3.mono HB2.out.size)); clear hu hb3))
    obtain ⟨z0, z1, z2, z3, z4⟩ := blk5 HX3.out
    by_cases h0 : (heldsAt o key (0, 0)).length = 0
    · rw [h0]
      have HE := hid (HPL.out.trans (if_pos h0))
      go_wp2
      go_ret
      exact .inl ⟨6, HE.out, rfl, HH.out.left HB3.out⟩
    · have h1 : (heldsAt o key (0, 0)).length = 1 := by omega
      rw [h1]
      have HE := hid (HPL.out.trans (if_neg h0))
      go_wp2_with fail
      refine (HS.out w3 HB3.out).mono ?_
      rintro e w4 (⟨hl, rfl, hw⟩ | ⟨hl, rfl, hb⟩)
      · have HW := hid hw; clear hw
        go_wp2
        go_ret
        refine .inr ⟨[opKey 4 (((P c).length : Int) + 1) c (x1, x2) key 0 (0, 0) ((heldsAt o key (0, 0)).map PHeld.giver)], ?_, rfl, HH.out.wroteB HB3.out hc HW.out⟩
        rw [HE.out, if_pos hl, htop]
      · have HW := hid (HB3.out.trans (hb.mono HB3.out.size)); clear hb
        go_wp2
        go_ret
        exact .inl ⟨8, by rw [HE.out, if_neg hl], rfl, HH.out.left HW.out⟩

set_option maxRecDepth 1000000 in
set_option maxHeartbeats 4000000 in
theorem prog_elements {w : World} {r : Nat} {F : Nat → Prop} {N sp : Nat} {P : Nat → List POp} (h : isPr w r F N sp P) {c : Nat} (hc : c < N) (x1 x2 : Int) :
    Calls Tryz.prog 29 #[.pointer (some ⟨r, 0, none⟩), .int .i64 c, .agg #[.int .i64 x1, .int .i64 x2]] w fun e w' => Below w.heap.size w w' ∧ LeftPr F N sp P r w w' ∧
      ((∃ n, elementsP ((P c).foldl doesP rootP) (x1, x2) = .error n ∧ e = .returned (.tuple #[.slice none 0 0, .int .i64 n])) ∨
      (∃ v l, elementsP ((P c).foldl doesP rootP) (x1, x2) = .ok l ∧ e = .returned (.tuple #[v, .int .i64 0]) ∧ ownIds w.heap.size w' v l)) := by
  obtain ⟨gC, cC, bl, rbs, Fc, h⟩ := h
  have HB := hid ((Below.refl w.heap.size w).alloc (Nat.le_refl _) (.cells #[.int .i64 x1, .int .i64 x2] 36))
  have HX0 := hid (blk_new w (.cells #[.int .i64 x1, .int .i64 x2] 36))
  have HA := hid (inObject_q (h.keep HB.out) c hc x1 x2 true)
  have HH := hid h; clear h
  go_enter Tryz.func29, Tryz.ntmps29
  go_wp2_with fail
  refine HA.out.mono ?_
  rintro e w1 ⟨hb1, hat⟩
  have HX1 := hid (blk_keep HX0.out hb1)
  have HB1 := hid (HB.out.trans (hb1.mono HB.out.size)); clear hb1
  rcases hat with ⟨m, hm, hp, rfl⟩ | ⟨o, ho, hol, rfl⟩
  · have HE := hid (elements_err hp); clear hp
    rcases hm with rfl | rfl
    all_goals go_wp2
    all_goals go_ret2
    all_goals exact ⟨HB1.out, HH.out.left HB1.out, .inl ⟨_, HE.out, rfl⟩⟩
  · have HE := hid (elements_of ho hol)
    obtain ⟨gh, hb, bE, bN, vo, vr, ops, rs, d, bo, be, D, hrep⟩ := HH.out.reps c hc
    have HD := hid (fun W (hb : Below w.heap.size w W) => document_q (hrep.keep hb))
    have HV := hid (hrep.elements ho hol)
    clear ho hol hrep
    go_wp2_with fail
    go_region_held3 (fun W => W.cell? ⟨w.heap.size, 0, none⟩ = some (.int .i64 x1) ∧ W.cell? ⟨w.heap.size, 1, none⟩ = some (.int .i64 x2)) (first | exact blk2 HX1.out | exact blk2 HX3.out | exact blk2 HX2.out)
      (first
        | (go_at_call 48; refine (HD.out _ HB1.out.drew).mono ?_; rintro e w2 ⟨rfl, hb2⟩; have HX2 := hid (blk_keep HX1.out (Hid.out (below_drew_left hb2))); have HB2 := hid (HB1.out.drew.trans (hb2.mono HB1.out.size)); clear hb2)
        | (go_at_call 57; refine (HV.out w2 HB2.out).mono ?_; rintro e w3 ⟨u, rfl, hu, hb3⟩; have HX3 := hid (blk_keep HX2.out hb3); have HB3 := hid (HB2.out.trans (hb3.mono HB2.out.size)); have HU := hid (show ownIds w.heap.size w3 u (pseen o) from owns_mono hu HB2.out.size); clear hu hb3; obtain ⟨ua, uc, rfl, _, _, _⟩ := owns_form HU.out))
    all_goals go_wp2
    all_goals go_ret2
    all_goals exact ⟨HB3.out, HH.out.left HB3.out, .inr ⟨_, _, HE.out, rfl, HU.out⟩⟩

set_option maxRecDepth 1000000 in
set_option maxHeartbeats 4000000 in
theorem prog_values {w : World} {r : Nat} {F : Nat → Prop} {N sp : Nat} {P : Nat → List POp} (h : isPr w r F N sp P) {c : Nat} (hc : c < N) (x1 x2 : Int) (key : ByteArray) (hks : key.size ≤ maxLen) :
    Calls Tryz.prog 24 #[.pointer (some ⟨r, 0, none⟩), .int .i64 c, .agg #[.int .i64 x1, .int .i64 x2], .string key] w fun e w' => Below w.heap.size w w' ∧ LeftPr F N sp P r w w' ∧
      ((∃ n, valuesAtP ((P c).foldl doesP rootP) (x1, x2) key = .error n ∧ e = .returned (.tuple #[.slice none 0 0, .int .i64 n])) ∨
      (∃ v l, valuesAtP ((P c).foldl doesP rootP) (x1, x2) key = .ok l ∧ e = .returned (.tuple #[v, .int .i64 0]) ∧ ownVals w.heap.size w' v l)) := by
  obtain ⟨gC, cC, bl, rbs, Fc, h⟩ := h
  have HB := hid ((Below.refl w.heap.size w).alloc (Nat.le_refl _) (.cells #[.int .i64 x1, .int .i64 x2] 36))
  have HA := hid (atKey_q (h.keep HB.out) c hc x1 x2 key hks)
  have HH := hid h; clear h
  go_enter Tryz.func24, Tryz.ntmps24
  go_wp2_with fail
  refine HA.out.mono ?_
  rintro e w1 ⟨hb1, hat⟩
  have HB1 := hid (HB.out.trans (hb1.mono HB.out.size)); clear hb1
  have hz1 := HB1.out.size
  rcases hat with ⟨m, hm, hp, rfl⟩ | ⟨o, ho, hol, hko, hkd, rfl⟩
  · have HE := hid (show valuesAtP ((P c).foldl doesP rootP) (x1, x2) key = .error m by unfold valuesAtP; rw [hp]); clear hp
    rcases hm with rfl | rfl | rfl
    all_goals go_wp2
    all_goals go_ret2
    all_goals exact ⟨HB1.out.alloc hz1 _, HH.out.left (HB1.out.alloc hz1 _), .inl ⟨_, HE.out, rfl⟩⟩
  · have HE := hid (show valuesAtP ((P c).foldl doesP rootP) (x1, x2) key = .ok ((heldsAt o key (0, 0)).map valOf) by unfold valuesAtP; rw [hkd]); clear hkd
    have HBW := hid (HB1.out.alloc hz1 (.cells #[.int .i64 x1, .int .i64 x2, .string key, .int .i64 0, .int .i64 0] 97))
    have HX1 := hid (blk_new w1 (.cells #[.int .i64 x1, .int .i64 x2, .string key, .int .i64 0, .int .i64 0] 97))
    obtain ⟨gh, hb, bE, bN, vo, vr, ops, rs, d, bo, be, D, hrep⟩ := HH.out.reps c hc
    have HD := hid (fun W (hb : Below w.heap.size w W) => document_q (hrep.keep hb))
    have HV := hid (hrep.values ho hol hko)
    clear ho hol hko hrep
    go_wp2_with fail
    go_region_held3 (fun W => W.cell? ⟨w1.heap.size, 0, none⟩ = some (.int .i64 x1) ∧ W.cell? ⟨w1.heap.size, 1, none⟩ = some (.int .i64 x2) ∧ W.cell? ⟨w1.heap.size, 2, none⟩ = some (.string key) ∧ W.cell? ⟨w1.heap.size, 3, none⟩ = some (.int .i64 0) ∧ W.cell? ⟨w1.heap.size, 4, none⟩ = some (.int .i64 0)) (first | exact blk5 HX1.out | exact blk5 HX3.out | exact blk5 HX2.out)
      (first
        | (go_at_call 48; refine (HD.out _ HBW.out.drew).mono ?_; rintro e w2 ⟨rfl, hb2⟩; have HX2 := hid (blk_keep HX1.out (Hid.out (below_drew_left hb2))); have HB2 := hid (HBW.out.drew.trans (hb2.mono HBW.out.size)); clear hb2)
        | (go_at_call 49; refine (HV.out w2 HB2.out).mono ?_; rintro e w3 ⟨u, rfl, hu, hb3⟩; have HX3 := hid (blk_keep HX2.out hb3); have HB3 := hid (HB2.out.trans (hb3.mono HB2.out.size)); have HU := hid (show ownVals w.heap.size w3 u ((heldsAt o key (0, 0)).map valOf) from owns_mono hu HB2.out.size); clear hu hb3; obtain ⟨ua, uc, rfl, _, _, _⟩ := owns_form HU.out))
    all_goals go_wp2
    all_goals go_ret2
    all_goals exact ⟨HB3.out, HH.out.left HB3.out, .inr ⟨.slice ua (heldsAt o key (0, 0)).length uc, _, HE.out, rfl, by have := HU.out; rw [List.length_map] at this; exact this⟩⟩
end

end Go.Proofs.YtnkpogjiiohapaaGreatDoor

/-! PRoomG: The program's room: Nest. -/
namespace Go.Proofs.YtnkpogjiiohapaaGreatDoor
open Go.RowKit
attribute [local go_sem ↓] Go.wp_at_zero Go.wp_at_succ

theorem res01 {w : World} {g : Nat} {a b : Value} {t : TypeId} (h : w.heap[g]? = some (.cells #[a, b] t (0, 0))) (u v : Value) (o : Obj) : (((w.setCell ⟨g, 0, none⟩ u).setCell ⟨g, 1, none⟩ v).alloc o).cell? ⟨g, 0, none⟩ = some u ∧ (((w.setCell ⟨g, 0, none⟩ u).setCell ⟨g, 1, none⟩ v).alloc o).cell? ⟨g, 1, none⟩ = some v :=
  blk2 (blk_keep (set2both h) ((Below.refl _ _).alloc (Nat.le_refl _) _))
theorem fold_snoc (S : List POp) (p : POp) : (S ++ [p]).foldl doesP rootP = doesP (S.foldl doesP rootP) p := by rw [List.foldl_append]; rfl
section
set_option maxRecDepth 1000000 in
set_option maxHeartbeats 4000000 in
theorem prog_nest {w : World} {r : Nat} {F : Nat → Prop} {N sp : Nat} {P : Nat → List POp} (h : isPr w r F N sp P) {c : Nat} (hc : c < N) (x1 x2 : Int) (key : ByteArray) (hks : key.size ≤ maxLen) (lst : Bool) :
    Calls Tryz.prog 38 #[.pointer (some ⟨r, 0, none⟩), .int .i64 c, .agg #[.int .i64 x1, .int .i64 x2], .string key, .bool lst] w fun e w' =>
      (∃ m, nestPl ((P c).foldl doesP rootP) (topP (P c)) (P c).length c (x1, x2) key lst = .error m ∧ e = .returned (.tuple #[.agg #[.int .i64 0, .int .i64 0], .int .i64 m]) ∧ LeftPr F N sp P r w w') ∨
      (∃ ps, nestPl ((P c).foldl doesP rootP) (topP (P c)) (P c).length c (x1, x2) key lst = .ok ps ∧ e = .returned (.tuple #[.agg #[.int .i64 (topP (P c) + 1), .int .i64 c], .int .i64 0]) ∧ WrotePr F N sp P c r w w' ps) := by
  obtain ⟨gC, cC, bl, rbs, Fc, h⟩ := h
  have HB := hid (((Below.refl w.heap.size w).alloc (Nat.le_refl _) (.cells #[.int .i64 x1, .int .i64 x2] 36)).alloc (by simp) (.cells #[.int .i64 0, .int .i64 0] 36))
  have HY0 := hid (show ((w.alloc (.cells #[.int .i64 x1, .int .i64 x2] 36)).alloc (.cells #[.int .i64 0, .int .i64 0] 36)).heap[w.heap.size + 1]? = some (.cells #[.int .i64 0, .int .i64 0] 36 (0, 0)) from (by
    have := blk_new (w.alloc (.cells #[.int .i64 x1, .int .i64 x2] 36)) (.cells #[.int .i64 0, .int .i64 0] 36)
    rw [show (w.alloc (.cells #[.int .i64 x1, .int .i64 x2] 36)).heap.size = w.heap.size + 1 by simp] at this
    exact this))
  have HA := hid (atKey_q (h.keep HB.out) c hc x1 x2 key hks)
  have HH := hid h; clear h
  have HNF := hid (show ∀ k, w.heap.size ≤ k → ¬ Fc c k from fun k hk hF => by have := (HH.out.reps c hc).lt k hF; omega)
  go_enter Tryz.func38, Tryz.ntmps38
  go_wp2_with fail
  refine HA.out.mono ?_
  rintro e w1 ⟨hb1, hat⟩
  have HY1 := hid (blk_keep HY0.out hb1)
  have HB1 := hid (HB.out.trans (hb1.mono HB.out.size)); clear hb1
  have hz1 := HB1.out.size
  have hy1 := blk_lt HY1.out
  rcases hat with ⟨m, hm, hp, rfl⟩ | ⟨o, ho, hol, hko, hkd, rfl⟩
  · have HE := hid (show nestPl ((P c).foldl doesP rootP) (topP (P c)) (P c).length c (x1, x2) key lst = .error m by unfold nestPl; rw [hp]); clear hp
    obtain ⟨y0, y1⟩ := blk2 HY1.out
    have yf := blk_fz HY1.out
    have hny := World.new_ne w1 ⟨w.heap.size + 1, 0, none⟩ y0
    obtain ⟨z0, z1⟩ := res01 HY1.out (.int .i64 0) (.int .i64 0) (.cells #[.int .i64 0, .int .i64 0, .string ⟨#[]⟩, .int .i64 0, .int .i64 0] 97)
    have hends : ∀ a b, LeftPr F N sp P r w (((w1.setCell ⟨w.heap.size + 1, 0, none⟩ a).setCell ⟨w.heap.size + 1, 1, none⟩ b).alloc (.cells #[.int .i64 0, .int .i64 0, .string ⟨#[]⟩, .int .i64 0, .int .i64 0] 97)) := fun a b => HH.out.left (((HB1.out.setCell (show w.heap.size ≤ w.heap.size + 1 by omega) _).setCell (show w.heap.size ≤ w.heap.size + 1 by omega) _).alloc (by simp [World.setCell]; omega) _)
    have HEN := hid hends; clear hends
    rcases hm with rfl | rfl | rfl
    · go_wp2
      refine bodyPost_ret (v := .tuple #[.agg #[.int .i64 0, .int .i64 0], .int .i64 3]) (by simp [results, Tryz.results38, go_sem, z0, z1]) rfl ?_
      exact .inl ⟨3, HE.out, rfl, HEN.out _ _⟩
    · go_wp2
      refine bodyPost_ret (v := .tuple #[.agg #[.int .i64 0, .int .i64 0], .int .i64 4]) (by simp [results, Tryz.results38, go_sem, z0, z1]) rfl ?_
      exact .inl ⟨4, HE.out, rfl, HEN.out _ _⟩
    · go_wp2
      refine bodyPost_ret (v := .tuple #[.agg #[.int .i64 0, .int .i64 0], .int .i64 5]) (by simp [results, Tryz.results38, go_sem, z0, z1]) rfl ?_
      exact .inl ⟨5, HE.out, rfl, HEN.out _ _⟩
  · have HPL := hid (show nestPl ((P c).foldl doesP rootP) (topP (P c)) (P c).length c (x1, x2) key lst = _ by unfold nestPl; rw [hkd]); clear hkd
    have HBW := hid (HB1.out.alloc hz1 (.cells #[.int .i64 x1, .int .i64 x2, .string key, .int .i64 0, .int .i64 0] 97))
    have HX1 := hid (blk_new w1 (.cells #[.int .i64 x1, .int .i64 x2, .string key, .int .i64 0, .int .i64 0] 97))
    have htop := (HH.out.reps c hc).top
    have HM := hid (show Calls Tryz.prog 60 #[.pointer (some ⟨rbs c, 0, none⟩), .int .i64 2] (w1.alloc (.cells #[.int .i64 x1, .int .i64 x2, .string key, .int .i64 0, .int .i64 0] 97)) fun e w' => e = .returned (.bool (decide ((P c).length + 2 ≤ 60))) ∧ Below (w1.alloc (.cells #[.int .i64 x1, .int .i64 x2, .string key, .int .i64 0, .int .i64 0] 97)).heap.size (w1.alloc (.cells #[.int .i64 x1, .int .i64 x2, .string key, .int .i64 0, .int .i64 0] 97)) w' from by
      obtain ⟨gh, hb, bE, bN, vo, vr, ops, rs, d, bo, be, D, hrep⟩ := HH.out.reps c hc
      exact mayMake_q (hrep.keep HBW.out) 2 (by omega))
    have HKO := hid (And.intro ho (And.intro hol hko)); clear ho hol hko
    go_wp2_with fail
    refine HM.out.mono ?_
    rintro e w2 ⟨rfl, hb2⟩
    have HX2 := hid (blk_keep HX1.out hb2)
    have HY2 := hid (blk_keep (blk_keep HY1.out ((Below.refl _ w1).alloc (Nat.le_refl _) _)) hb2)
    have HB2 := hid (HBW.out.trans (hb2.mono HBW.out.size)); clear hb2
    have hy2 := blk_lt HY2.out
    obtain ⟨y0, y1⟩ := blk2 HY2.out
    have yf := blk_fz HY2.out
    by_cases hl : (P c).length < 59
    · have hd : decide ((P c).length + 2 ≤ 60) = true := decide_eq_true (by omega)
      rw [hd]
      clear y0 y1 yf
      have HMK := hid (makeObject_q ((HH.out.reps c hc).keep HB2.out) (by omega) lst)
      go_wp2_with fail
      refine HMK.out.mono ?_
      rintro e w3 ⟨rfl, F1, hr3, hk3⟩
      have HR3 := hid hr3; have HKS := hid hk3; have HK3 := hid (hk3.before HB2.out)
      have HX3 := hid ((hk3.other _ (blk_lt HX2.out) (HNF.out _ hz1)).trans HX2.out)
      have HY3 := hid ((hk3.other _ (blk_lt HY2.out) (HNF.out _ (by omega))).trans HY2.out)
      clear hr3 hk3
      obtain ⟨p0, p1, p2, p3, p4⟩ := blk5 HX3.out
      have hx3 := blk_lt HX3.out
      have hy3 := blk_lt HY3.out
      have hnx := World.new_ne w3 ⟨w1.heap.size, 0, none⟩ p0
      have HBM := hid ((Below.refl w3.heap.size w3).alloc (Nat.le_refl _) (.cells #[.int .i64 (((P c).length : Int) + 1), .int .i64 c] 36))
      have HPS := hid (nest_next (HH.out.reps c hc).ok (own := (P c).length) (c := (c : Int)) (x := (x1, x2)) (key := key) (lst := lst) (HPL.out.trans (if_pos hl)))
      have hlen1 : (P c ++ [opMake (((P c).length : Int) + 1) c lst]).length = (P c).length + 1 := by simp
      have HGV := hid (give_q (HR3.out.keep HBM.out) (by rw [hlen1]; omega) (opKey 3 (((P c).length : Int) + 2) c (x1, x2) key 0 (((P c).length : Int) + 1, (c : Int)) ((heldsAt o key (0, 0)).map PHeld.giver)) rfl (by rw [hlen1]; show ((((P c).length : Int) + 2, (c : Int)) : PId) = _; simp; omega) (by
        have := HPS.out.2.1
        rw [htop] at this
        rw [fold_snoc, (HR3.out).top, hlen1]
        exact this))
      clear hlen1
      go_wp2_with fail
      refine HGV.out.mono ?_
      rintro e w4 ⟨⟨rr, rfl⟩, F2, hr4, hk4⟩
      have hnF1 : ¬ F1 (w.heap.size + 1) := fun hF => by
        rcases HKS.out.sub _ hF with h | h
        · exact HNF.out _ (by omega) h
        · omega
      have hnF1' : ¬ F1 w3.heap.size := fun hF => by have := HR3.out.lt _ hF; omega
      have hb1 := (hk4.other _ (blk_lt (blk_keep HY3.out HBM.out)) hnF1).trans (blk_keep HY3.out HBM.out)
      have hb2 := (hk4.other _ (blk_lt (blk_new w3 _)) hnF1').trans (blk_new w3 _)
      obtain ⟨r0, r1⟩ := blk2 hb1
      obtain ⟨q0, q1⟩ := blk2 hb2
      have rf := blk_fz hb1
      have rl := blk_lt hb1
      have HR4 := hid hr4
      have HK4 := hid hk4
      have HNF1 := hid hnF1
      clear hr4 hk4 hb1 hb2 hnF1 hnF1' p0 p1 p2 p3 p4 hnx
      go_wp2
      refine bodyPost_ret (v := .tuple #[.agg #[.int .i64 (((P c).length : Int) + 1), .int .i64 c], .int .i64 0]) (by simp [results, Tryz.results38, go_sem, r0, r1]) rfl ?_
      have hnF2 : ¬ F2 (w.heap.size + 1) := fun hF => by
        rcases HK4.out.sub _ hF with h | h
        · exact HNF1.out h
        · simp at h; omega
      refine .inr ⟨[opMake (((P c).length : Int) + 1) c lst, opKey 3 (((P c).length : Int) + 2) c (x1, x2) key 0 (((P c).length : Int) + 1, (c : Int)) ((heldsAt o key (0, 0)).map PHeld.giver)], by rw [HPL.out, if_pos hl, htop], by rw [htop], HH.out.wroteB (Below.refl _ w) hc ⟨F2, ?_, ?_⟩⟩
      · have := (HR4.out.set (o := 0) (.int .i64 (((P c).length : Int) + 1)) hnF2).set (o := 1) (.int .i64 c) hnF2
        rw [List.append_assoc] at this
        exact this
      · exact ((((HK3.out.after HBM.out).trans HK4.out).setNew (by omega) _).setNew (by omega) _)
    · have hd : decide ((P c).length + 2 ≤ 60) = false := decide_eq_false (by omega)
      rw [hd]
      go_wp2
      refine bodyPost_ret (v := .tuple #[.agg #[.int .i64 0, .int .i64 0], .int .i64 8]) (by simp [results, Tryz.results38, go_sem, y0, y1]) rfl ?_
      exact .inl ⟨8, by rw [HPL.out, if_neg hl], rfl, HH.out.left ((HB2.out.setCell (show w.heap.size ≤ w.heap.size + 1 by omega) _).setCell (show w.heap.size ≤ w.heap.size + 1 by omega) _)⟩
end

end Go.Proofs.YtnkpogjiiohapaaGreatDoor

/-! PRoomH: The program's room: Insert. -/
namespace Go.Proofs.YtnkpogjiiohapaaGreatDoor
open Go.RowKit
attribute [local go_sem ↓] Go.wp_at_zero Go.wp_at_succ

theorem insert_err {R : List PObj} {t : Int} {own : Nat} {c : Int} {x : PId} {i n m : Int} (h : elementsP R x = .error m) : insertPl R t own c x i n = .error m := by unfold insertPl; rw [h]
theorem insert_out {R : List PObj} {t : Int} {own : Nat} {c : Int} {x : PId} {i n : Int} {l : List PId} (h : elementsP R x = .ok l) (hi : behindP l i = none) : insertPl R t own c x i n = .error 7 := by
  unfold insertPl; rw [h]; simp only [hi]
theorem insert_in {R : List PObj} {t : Int} {own : Nat} {c : Int} {x : PId} {i n : Int} {l : List PId} {b : PId} (h : elementsP R x = .ok l) (hi : behindP l i = some b) :
    insertPl R t own c x i n = if own < 59 then .ok [opLay (t + 1) c x b, opEl 3 (t + 2) c x (t + 1, c) n (0, 0) []] else .error 8 := by
  unfold insertPl; rw [h]; simp only [hi]
section
set_option maxRecDepth 1000000 in
set_option maxHeartbeats 4000000 in
theorem prog_insert {w : World} {r : Nat} {F : Nat → Prop} {N sp : Nat} {P : Nat → List POp} (h : isPr w r F N sp P) {c : Nat} (hc : c < N) (x1 x2 i n : Int) (hn : intOk n) :
    Calls Tryz.prog 32 #[.pointer (some ⟨r, 0, none⟩), .int .i64 c, .agg #[.int .i64 x1, .int .i64 x2], .int .i64 i, .int .i64 n] w fun e w' =>
      (∃ m, insertPl ((P c).foldl doesP rootP) (topP (P c)) (P c).length c (x1, x2) i n = .error m ∧ e = .returned (.tuple #[.agg #[.int .i64 0, .int .i64 0], .int .i64 m]) ∧ LeftPr F N sp P r w w') ∨
      (∃ ps, insertPl ((P c).foldl doesP rootP) (topP (P c)) (P c).length c (x1, x2) i n = .ok ps ∧ e = .returned (.tuple #[.agg #[.int .i64 (topP (P c) + 1), .int .i64 c], .int .i64 0]) ∧ WrotePr F N sp P c r w w' ps) := by
  obtain ⟨gC, cC, bl, rbs, Fc, h⟩ := h
  have HB := hid (((Below.refl w.heap.size w).alloc (Nat.le_refl _) (.cells #[.int .i64 x1, .int .i64 x2] 36)).alloc (by simp) (.cells #[.int .i64 0, .int .i64 0] 36))
  have HX0 := hid (show ((w.alloc (.cells #[.int .i64 x1, .int .i64 x2] 36)).alloc (.cells #[.int .i64 0, .int .i64 0] 36)).heap[w.heap.size]? = some (.cells #[.int .i64 x1, .int .i64 x2] 36 (0, 0)) from (alloc_old_r _ _ (by simp)).trans (blk_new w _))
  have HY0 := hid (show ((w.alloc (.cells #[.int .i64 x1, .int .i64 x2] 36)).alloc (.cells #[.int .i64 0, .int .i64 0] 36)).heap[w.heap.size + 1]? = some (.cells #[.int .i64 0, .int .i64 0] 36 (0, 0)) from (by
    have := blk_new (w.alloc (.cells #[.int .i64 x1, .int .i64 x2] 36)) (.cells #[.int .i64 0, .int .i64 0] 36)
    rw [show (w.alloc (.cells #[.int .i64 x1, .int .i64 x2] 36)).heap.size = w.heap.size + 1 by simp] at this
    exact this))
  have HA := hid (atGap_q (h.keep HB.out) c hc x1 x2 i)
  have HH := hid h; clear h
  have HNF := hid (show ∀ k, w.heap.size ≤ k → ¬ Fc c k from fun k hk hF => by have := (HH.out.reps c hc).lt k hF; omega)
  go_enter Tryz.func32, Tryz.ntmps32
  go_wp2_with fail
  refine HA.out.mono ?_
  rintro e w1 ⟨hb1, hat⟩
  have HX1 := hid (blk_keep HX0.out hb1)
  have HY1 := hid (blk_keep HY0.out hb1)
  have HB1 := hid (HB.out.trans (hb1.mono HB.out.size)); clear hb1
  have hz1 := HB1.out.size
  have hy1 := blk_lt HY1.out
  have HLF := hid (show ∀ W, Below w.heap.size w W → ∀ a b, LeftPr F N sp P r w ((W.setCell ⟨w.heap.size + 1, 0, none⟩ a).setCell ⟨w.heap.size + 1, 1, none⟩ b) from fun W hb a b => HH.out.left ((hb.setCell (show w.heap.size ≤ w.heap.size + 1 by omega) _).setCell (show w.heap.size ≤ w.heap.size + 1 by omega) _))
  rcases hat with ⟨m, hm, hp, rfl⟩ | ⟨o, ho, hol, hel, ⟨hi, rfl⟩ | ⟨b, hi, rfl⟩⟩
  · have HE := hid (insert_err (t := topP (P c)) (own := (P c).length) (c := c) (i := i) (n := n) hp); clear hp
    obtain ⟨y0, y1⟩ := blk2 HY1.out
    have yf := blk_fz HY1.out
    rcases hm with rfl | rfl
    · go_wp2
      refine bodyPost_ret (v := .tuple #[.agg #[.int .i64 0, .int .i64 0], .int .i64 3]) (by simp [results, Tryz.results32, go_sem, y0, y1]) rfl ?_
      exact .inl ⟨3, HE.out, rfl, HLF.out _ HB1.out _ _⟩
    · go_wp2
      refine bodyPost_ret (v := .tuple #[.agg #[.int .i64 0, .int .i64 0], .int .i64 4]) (by simp [results, Tryz.results32, go_sem, y0, y1]) rfl ?_
      exact .inl ⟨4, HE.out, rfl, HLF.out _ HB1.out _ _⟩
  · have HE := hid (insert_out (t := topP (P c)) (own := (P c).length) (c := c) (n := n) hel hi); clear ho hol hel hi
    obtain ⟨y0, y1⟩ := blk2 HY1.out
    have yf := blk_fz HY1.out
    go_wp2
    refine bodyPost_ret (v := .tuple #[.agg #[.int .i64 0, .int .i64 0], .int .i64 7]) (by simp [results, Tryz.results32, go_sem, y0, y1]) rfl ?_
    exact .inl ⟨7, HE.out, rfl, HLF.out _ HB1.out _ _⟩
  · have HPL := hid (insert_in (t := topP (P c)) (own := (P c).length) (c := c) (n := n) hel hi)
    have htop := (HH.out.reps c hc).top
    have HM := hid (show Calls Tryz.prog 60 #[.pointer (some ⟨rbs c, 0, none⟩), .int .i64 2] w1 fun e w' => e = .returned (.bool (decide ((P c).length + 2 ≤ 60))) ∧ Below w1.heap.size w1 w' from by
      obtain ⟨gh, hb, bE, bN, vo, vr, ops, rs, d, bo, be, D, hrep⟩ := HH.out.reps c hc
      exact mayMake_q (hrep.keep HB1.out) 2 (by omega))
    have HKO := hid (And.intro ho (And.intro hol hi)); clear ho hol hi hel
    go_wp2_with fail
    refine HM.out.mono ?_
    rintro e w2 ⟨rfl, hb2⟩
    have HX2 := hid (blk_keep HX1.out hb2)
    have HY2 := hid (blk_keep HY1.out hb2)
    have HB2 := hid (HB1.out.trans (hb2.mono HB1.out.size)); clear hb2
    have hy2 := blk_lt HY2.out
    obtain ⟨y0, y1⟩ := blk2 HY2.out
    have yf := blk_fz HY2.out
    by_cases hl : (P c).length < 59
    · have hd : decide ((P c).length + 2 ≤ 60) = true := decide_eq_true (by omega)
      rw [hd]
      clear y0 y1 yf
      obtain ⟨x0', x1'⟩ := blk2 HX2.out
      have HMK := hid (layAt_q ((HH.out.reps c hc).keep HB2.out) (by omega) HKO.out.1 HKO.out.2.1 i HKO.out.2.2)
      go_wp2_with fail
      refine HMK.out.mono ?_
      rintro e w3 ⟨rfl, F1, hr3, hk3⟩
      have HR3 := hid hr3; have HKS := hid hk3; have HK3 := hid (hk3.before HB2.out)
      have HX3 := hid ((hk3.other _ (blk_lt HX2.out) (HNF.out _ (Nat.le_refl _))).trans HX2.out)
      have HY3 := hid ((hk3.other _ (blk_lt HY2.out) (HNF.out _ (by omega))).trans HY2.out)
      clear hr3 hk3 x0' x1'
      obtain ⟨p0, p1⟩ := blk2 HX3.out
      have hx3 := blk_lt HX3.out
      have hy3 := blk_lt HY3.out
      have hnx := World.new_ne w3 ⟨w.heap.size, 0, none⟩ p0
      have HBM := hid ((Below.refl w3.heap.size w3).alloc (Nat.le_refl _) (.cells #[.int .i64 (((P c).length : Int) + 1), .int .i64 c] 36))
      go_wp2_with fail
      refine (elementOf_q _ _ _ _ _).mono ?_
      rintro e w4 ⟨rfl, hb4⟩
      have HE4 := hid (blk_keep (blk_new w3 (.cells #[.int .i64 (((P c).length : Int) + 1), .int .i64 c] 36)) hb4)
      have HB4 := hid (HBM.out.trans (hb4.mono HBM.out.size)); clear hb4
      obtain ⟨gh, hb, bE, bN, vo, vr, ops, rs, d, bo, be, D, hrep⟩ := HH.out.reps c hc
      have HPS := hid (insert_next hrep.ok hrep.agree hn (own := (P c).length) (c := (c : Int)) (x := (x1, x2)) (i := i) (HPL.out.trans (if_pos hl)))
      clear hrep
      have hlen1 : (P c ++ [opLay (((P c).length : Int) + 1) c (x1, x2) b]).length = (P c).length + 1 := by simp
      have HGV := hid (give_q (HR3.out.keep HB4.out) (by rw [hlen1]; omega) (opEl 3 (((P c).length : Int) + 2) c (x1, x2) (((P c).length : Int) + 1, (c : Int)) n (0, 0) []) rfl (by rw [hlen1]; show ((((P c).length : Int) + 2, (c : Int)) : PId) = _; simp; omega) (by
        have := HPS.out.2.1
        rw [htop] at this
        rw [fold_snoc, (HR3.out).top, hlen1]
        exact this))
      clear hlen1
      have HX4 := hid (blk_keep HX3.out HB4.out)
      have HY4 := hid (blk_keep HY3.out HB4.out)
      obtain ⟨e0, e1⟩ := blk2 HE4.out
      have he4 := blk_lt HE4.out
      go_wp2_with fail
      refine HGV.out.mono ?_
      rintro e w5 ⟨⟨rr, rfl⟩, F2, hr5, hk5⟩
      have hnF1 : ¬ F1 (w.heap.size + 1) := fun hF => by
        rcases HKS.out.sub _ hF with h | h
        · exact HNF.out _ (by omega) h
        · omega
      have hnF1' : ¬ F1 w3.heap.size := fun hF => by have := HR3.out.lt _ hF; omega
      have hb1 := (hk5.other _ (blk_lt HY4.out) hnF1).trans HY4.out
      have hb2 := (hk5.other _ (blk_lt HE4.out) hnF1').trans HE4.out
      obtain ⟨r0, r1⟩ := blk2 hb1
      obtain ⟨q0, q1⟩ := blk2 hb2
      have rf := blk_fz hb1
      have rl := blk_lt hb1
      have HR5 := hid hr5
      have HK5 := hid hk5
      have HNF1 := hid hnF1
      have hy4 := blk_lt HY4.out
      clear hr5 hk5 hb1 hb2 hnF1 hnF1' p0 p1 hnx e0 e1
      go_wp2
      refine bodyPost_ret (v := .tuple #[.agg #[.int .i64 (((P c).length : Int) + 1), .int .i64 c], .int .i64 0]) (by simp [results, Tryz.results32, go_sem, r0, r1]) rfl ?_
      have hnF2 : ¬ F2 (w.heap.size + 1) := fun hF => by
        rcases HK5.out.sub _ hF with h | h
        · exact HNF1.out h
        · omega
      refine .inr ⟨[opLay (((P c).length : Int) + 1) c (x1, x2) b, opEl 3 (((P c).length : Int) + 2) c (x1, x2) (((P c).length : Int) + 1, (c : Int)) n (0, 0) []], by rw [HPL.out, if_pos hl, htop], by rw [htop], HH.out.wroteB (Below.refl _ w) hc ⟨F2, ?_, ?_⟩⟩
      · have := (HR5.out.set (o := 0) (.int .i64 (((P c).length : Int) + 1)) hnF2).set (o := 1) (.int .i64 c) hnF2
        rw [List.append_assoc] at this
        exact this
      · exact ((((HK3.out.after HB4.out).trans HK5.out).setNew (by omega) _).setNew (by omega) _)
    · have hd : decide ((P c).length + 2 ≤ 60) = false := decide_eq_false (by omega)
      rw [hd]
      go_wp2
      refine bodyPost_ret (v := .tuple #[.agg #[.int .i64 0, .int .i64 0], .int .i64 8]) (by simp [results, Tryz.results32, go_sem, y0, y1]) rfl ?_
      exact .inl ⟨8, by rw [HPL.out, if_neg hl], rfl, HLF.out _ HB2.out _ _⟩
end

end Go.Proofs.YtnkpogjiiohapaaGreatDoor

/-! PRoomI: The program's room: NestAt. -/
namespace Go.Proofs.YtnkpogjiiohapaaGreatDoor
open Go.RowKit
attribute [local go_sem ↓] Go.wp_at_zero Go.wp_at_succ

theorem nestAt_err {R : List PObj} {t : Int} {own : Nat} {c : Int} {x : PId} {i m : Int} {lst : Bool} (h : elementsP R x = .error m) : nestAtPl R t own c x i lst = .error m := by unfold nestAtPl; rw [h]
theorem nestAt_out {R : List PObj} {t : Int} {own : Nat} {c : Int} {x : PId} {i : Int} {lst : Bool} {l : List PId} (h : elementsP R x = .ok l) (hi : behindP l i = none) : nestAtPl R t own c x i lst = .error 7 := by
  unfold nestAtPl; rw [h]; simp only [hi]
theorem nestAt_in {R : List PObj} {t : Int} {own : Nat} {c : Int} {x : PId} {i : Int} {lst : Bool} {l : List PId} {b : PId} (h : elementsP R x = .ok l) (hi : behindP l i = some b) :
    nestAtPl R t own c x i lst = if own < 58 then .ok [opMake (t + 1) c lst, opLay (t + 2) c x b, opEl 3 (t + 3) c x (t + 2, c) 0 (t + 1, c) []] else .error 8 := by
  unfold nestAtPl; rw [h]; simp only [hi]
theorem box222 {W : World} {g g' g'' : Nat} {a b c d e f : Value} {t t' t'' : TypeId} (h1 : W.heap[g]? = some (.cells #[a, b] t (0, 0))) (h2 : W.heap[g']? = some (.cells #[c, d] t' (0, 0))) (h3 : W.heap[g'']? = some (.cells #[e, f] t'' (0, 0))) :
    W.cell? ⟨g, 0, none⟩ = some a ∧ W.cell? ⟨g, 1, none⟩ = some b ∧ W.cell? ⟨g', 0, none⟩ = some c ∧ W.cell? ⟨g', 1, none⟩ = some d ∧ W.cell? ⟨g'', 0, none⟩ = some e ∧ W.cell? ⟨g'', 1, none⟩ = some f :=
  ⟨(blk2 h1).1, (blk2 h1).2, (blk2 h2).1, (blk2 h2).2, (blk2 h3).1, (blk2 h3).2⟩
section
set_option maxRecDepth 1000000 in
set_option maxHeartbeats 4000000 in
theorem prog_nestAt {w : World} {r : Nat} {F : Nat → Prop} {N sp : Nat} {P : Nat → List POp} (h : isPr w r F N sp P) {c : Nat} (hc : c < N) (x1 x2 i : Int) (lst : Bool) :
    Calls Tryz.prog 99 #[.pointer (some ⟨r, 0, none⟩), .int .i64 c, .agg #[.int .i64 x1, .int .i64 x2], .int .i64 i, .bool lst] w fun e w' =>
      (∃ m, nestAtPl ((P c).foldl doesP rootP) (topP (P c)) (P c).length c (x1, x2) i lst = .error m ∧ e = .returned (.tuple #[.agg #[.int .i64 0, .int .i64 0], .int .i64 m]) ∧ LeftPr F N sp P r w w') ∨
      (∃ ps, nestAtPl ((P c).foldl doesP rootP) (topP (P c)) (P c).length c (x1, x2) i lst = .ok ps ∧ e = .returned (.tuple #[.agg #[.int .i64 (topP (P c) + 1), .int .i64 c], .int .i64 0]) ∧ WrotePr F N sp P c r w w' ps) := by
  obtain ⟨gC, cC, bl, rbs, Fc, h⟩ := h
  have HB := hid (((Below.refl w.heap.size w).alloc (Nat.le_refl _) (.cells #[.int .i64 x1, .int .i64 x2] 36)).alloc (by simp) (.cells #[.int .i64 0, .int .i64 0] 36))
  have HX0 := hid (show ((w.alloc (.cells #[.int .i64 x1, .int .i64 x2] 36)).alloc (.cells #[.int .i64 0, .int .i64 0] 36)).heap[w.heap.size]? = some (.cells #[.int .i64 x1, .int .i64 x2] 36 (0, 0)) from (alloc_old_r _ _ (by simp)).trans (blk_new w _))
  have HY0 := hid (show ((w.alloc (.cells #[.int .i64 x1, .int .i64 x2] 36)).alloc (.cells #[.int .i64 0, .int .i64 0] 36)).heap[w.heap.size + 1]? = some (.cells #[.int .i64 0, .int .i64 0] 36 (0, 0)) from (by
    have := blk_new (w.alloc (.cells #[.int .i64 x1, .int .i64 x2] 36)) (.cells #[.int .i64 0, .int .i64 0] 36)
    rw [show (w.alloc (.cells #[.int .i64 x1, .int .i64 x2] 36)).heap.size = w.heap.size + 1 by simp] at this
    exact this))
  have HA := hid (atGap_q (h.keep HB.out) c hc x1 x2 i)
  have HH := hid h; clear h
  have HNF := hid (show ∀ k, w.heap.size ≤ k → ¬ Fc c k from fun k hk hF => by have := (HH.out.reps c hc).lt k hF; omega)
  go_enter Tryz.func99, Tryz.ntmps99
  go_wp2_with fail
  refine HA.out.mono ?_
  rintro e w1 ⟨hb1, hat⟩
  have HX1 := hid (blk_keep HX0.out hb1)
  have HY1 := hid (blk_keep HY0.out hb1)
  have HB1 := hid (HB.out.trans (hb1.mono HB.out.size)); clear hb1
  have hz1 := HB1.out.size
  have hy1 := blk_lt HY1.out
  have HLF := hid (show ∀ W, Below w.heap.size w W → ∀ a b, LeftPr F N sp P r w ((W.setCell ⟨w.heap.size + 1, 0, none⟩ a).setCell ⟨w.heap.size + 1, 1, none⟩ b) from fun W hb a b => HH.out.left ((hb.setCell (show w.heap.size ≤ w.heap.size + 1 by omega) _).setCell (show w.heap.size ≤ w.heap.size + 1 by omega) _))
  rcases hat with ⟨m, hm, hp, rfl⟩ | ⟨o, ho, hol, hel, ⟨hi, rfl⟩ | ⟨b, hi, rfl⟩⟩
  · have HE := hid (nestAt_err (t := topP (P c)) (own := (P c).length) (c := c) (i := i) (lst := lst) hp); clear hp
    obtain ⟨y0, y1⟩ := blk2 HY1.out
    have yf := blk_fz HY1.out
    rcases hm with rfl | rfl
    · go_wp2
      refine bodyPost_ret (v := .tuple #[.agg #[.int .i64 0, .int .i64 0], .int .i64 3]) (by simp [results, Tryz.results99, go_sem, y0, y1]) rfl ?_
      exact .inl ⟨3, HE.out, rfl, HLF.out _ HB1.out _ _⟩
    · go_wp2
      refine bodyPost_ret (v := .tuple #[.agg #[.int .i64 0, .int .i64 0], .int .i64 4]) (by simp [results, Tryz.results99, go_sem, y0, y1]) rfl ?_
      exact .inl ⟨4, HE.out, rfl, HLF.out _ HB1.out _ _⟩
  · have HE := hid (nestAt_out (t := topP (P c)) (own := (P c).length) (c := c) (lst := lst) hel hi); clear ho hol hel hi
    obtain ⟨y0, y1⟩ := blk2 HY1.out
    have yf := blk_fz HY1.out
    go_wp2
    refine bodyPost_ret (v := .tuple #[.agg #[.int .i64 0, .int .i64 0], .int .i64 7]) (by simp [results, Tryz.results99, go_sem, y0, y1]) rfl ?_
    exact .inl ⟨7, HE.out, rfl, HLF.out _ HB1.out _ _⟩
  · have HPL := hid (nestAt_in (t := topP (P c)) (own := (P c).length) (c := c) (lst := lst) hel hi)
    have htop := (HH.out.reps c hc).top
    have HM := hid (show Calls Tryz.prog 60 #[.pointer (some ⟨rbs c, 0, none⟩), .int .i64 3] w1 fun e w' => e = .returned (.bool (decide ((P c).length + 3 ≤ 60))) ∧ Below w1.heap.size w1 w' from by
      obtain ⟨gh, hb, bE, bN, vo, vr, ops, rs, d, bo, be, D, hrep⟩ := HH.out.reps c hc
      exact mayMake_q (hrep.keep HB1.out) 3 (by omega))
    have HKO := hid (And.intro ho (And.intro hol hi)); clear ho hol hi hel
    go_wp2_with fail
    refine HM.out.mono ?_
    rintro e w2 ⟨rfl, hb2⟩
    have HX2 := hid (blk_keep HX1.out hb2)
    have HY2 := hid (blk_keep HY1.out hb2)
    have HB2 := hid (HB1.out.trans (hb2.mono HB1.out.size)); clear hb2
    have hy2 := blk_lt HY2.out
    obtain ⟨y0, y1⟩ := blk2 HY2.out
    have yf := blk_fz HY2.out
    by_cases hl : (P c).length < 58
    · have hd : decide ((P c).length + 3 ≤ 60) = true := decide_eq_true (by omega)
      rw [hd]
      clear y0 y1 yf
      have HMK := hid (makeObject_q ((HH.out.reps c hc).keep HB2.out) (by omega) lst)
      go_wp2_with fail
      refine HMK.out.mono ?_
      rintro e w3 ⟨rfl, F1, hr3, hk3⟩
      have HR3 := hid hr3; have HKS := hid hk3; have HK3 := hid (hk3.before HB2.out)
      have HX3 := hid ((hk3.other _ (blk_lt HX2.out) (HNF.out _ (Nat.le_refl _))).trans HX2.out)
      have HY3 := hid ((hk3.other _ (blk_lt HY2.out) (HNF.out _ (by omega))).trans HY2.out)
      clear hr3 hk3
      obtain ⟨p0, p1⟩ := blk2 HX3.out
      have hx3 := blk_lt HX3.out
      have hy3 := blk_lt HY3.out
      have hnx := World.new_ne w3 ⟨w.heap.size, 0, none⟩ p0
      have HBM := hid ((Below.refl w3.heap.size w3).alloc (Nat.le_refl _) (.cells #[.int .i64 (((P c).length : Int) + 1), .int .i64 c] 36))
      have HX3' := hid (blk_keep HX3.out HBM.out)
      have HY3' := hid (blk_keep HY3.out HBM.out)
      have HM3' := hid (blk_new w3 (.cells #[.int .i64 (((P c).length : Int) + 1), .int .i64 c] 36))
      have hlen1 : (P c ++ [opMake (((P c).length : Int) + 1) c lst]).length = (P c).length + 1 := by simp
      have hlen1' : ((P c ++ [opMake (((P c).length : Int) + 1) c lst]).length : Int) + 1 = ((P c).length : Int) + 2 := by rw [hlen1]; omega
      obtain ⟨gh, hb, bE, bN, vo, vr, ops, rs, d, bo, be, D, hrep⟩ := HH.out.reps c hc
      have HPS := hid (nestAt_next hrep.ok hrep.agree (own := (P c).length) (c := (c : Int)) (x := (x1, x2)) (i := i) (lst := lst) (HPL.out.trans (if_pos hl)))
      have hmk : objOf ((P c ++ [opMake (((P c).length : Int) + 1) c lst]).foldl doesP rootP) (x1, x2) = some o := by
        have := make_keeps (t := topP (P c)) (c := (c : Int)) (lst := lst) HKO.out.1
        rw [htop] at this
        rw [fold_snoc]; exact this
      clear hrep
      have HLY := hid (layAt_q (HR3.out.keep HBM.out) (by rw [hlen1]; omega) hmk HKO.out.2.1 i HKO.out.2.2)
      rw [hlen1'] at HLY
      clear hmk
      go_wp2_with fail
      refine HLY.out.mono ?_
      rintro e w4 ⟨rfl, F2, hr4, hk4⟩
      have hnF1 : ¬ F1 (w.heap.size + 1) := fun hF => by
        rcases HKS.out.sub _ hF with h | h
        · exact HNF.out _ (by omega) h
        · omega
      have hnF1x : ¬ F1 w.heap.size := fun hF => by
        rcases HKS.out.sub _ hF with h | h
        · exact HNF.out _ (by omega) h
        · omega
      have hnF1' : ¬ F1 w3.heap.size := fun hF => by have := HR3.out.lt _ hF; omega
      have HX4 := hid ((hk4.other _ (blk_lt HX3'.out) hnF1x).trans HX3'.out)
      have HY4 := hid ((hk4.other _ (blk_lt HY3'.out) hnF1).trans HY3'.out)
      have HM4 := hid ((hk4.other _ (blk_lt HM3'.out) hnF1').trans HM3'.out)
      have HR4 := hid hr4; have HKT := hid hk4; have HK4 := hid ((HK3.out.after HBM.out).trans hk4)
      have HN1 := hid (And.intro hnF1 (And.intro hnF1x hnF1'))
      clear hr4 hk4 hnF1 hnF1x hnF1' p0 p1 hnx
      have hx4 := blk_lt HX4.out
      have hy4 := blk_lt HY4.out
      have hm4 := blk_lt HM4.out
      have HBL := hid ((Below.refl w4.heap.size w4).alloc (Nat.le_refl _) (.cells #[.int .i64 (((P c).length : Int) + 2), .int .i64 c] 36))
      have HX5 := hid (blk_keep HX4.out HBL.out)
      have HY5 := hid (blk_keep HY4.out HBL.out)
      have HM5 := hid (blk_keep HM4.out HBL.out)
      have HE5 := hid (blk_new w4 (.cells #[.int .i64 (((P c).length : Int) + 2), .int .i64 c] 36))
      have hlen2 : (P c ++ [opMake (((P c).length : Int) + 1) c lst] ++ [opLay (((P c).length : Int) + 2) c (x1, x2) b]).length = (P c).length + 2 := by simp
      have HGV := hid (fun W (hb : Below w4.heap.size w4 W) => give_q (HR4.out.keep hb) (by rw [hlen2]; omega) (opEl 3 (((P c).length : Int) + 3) c (x1, x2) (((P c).length : Int) + 2, (c : Int)) 0 (((P c).length : Int) + 1, (c : Int)) []) rfl (by rw [hlen2]; show ((((P c).length : Int) + 3, (c : Int)) : PId) = _; simp; omega) (by
        have := HPS.out.2.2.1
        rw [htop] at this
        rw [fold_snoc, fold_snoc, (HR4.out).top, hlen2]
        exact this))
      clear hlen2 hlen1 hlen1'
      go_wp2_with fail
      go_region_held3 (fun W => W.cell? ⟨w.heap.size, 0, none⟩ = some (.int .i64 x1) ∧ W.cell? ⟨w.heap.size, 1, none⟩ = some (.int .i64 x2) ∧ W.cell? ⟨w3.heap.size, 0, none⟩ = some (.int .i64 (((P c).length : Int) + 1)) ∧ W.cell? ⟨w3.heap.size, 1, none⟩ = some (.int .i64 c) ∧ W.cell? ⟨w4.heap.size, 0, none⟩ = some (.int .i64 (((P c).length : Int) + 2)) ∧ W.cell? ⟨w4.heap.size, 1, none⟩ = some (.int .i64 c)) (first | exact box222 HX5.out HM5.out HE5.out | exact box222 HX7.out HM7.out HE7.out | exact box222 HX6.out HM6.out HE6.out)
        (first
          | (go_at_call 63; refine (elementOf_q _ _ _ _ _).mono ?_; rintro e w6 ⟨rfl, hb6⟩; have hb6' := Hid.out (below_drew_left hb6); have HX6 := hid (blk_keep HX5.out hb6'); have HY6 := hid (blk_keep HY5.out hb6'); have HM6 := hid (blk_keep HM5.out hb6'); have HE6 := hid (blk_keep HE5.out hb6'); have HB6 := hid (HBL.out.trans (hb6'.mono HBL.out.size)); clear hb6 hb6')
          | (go_at_call 62; refine (HGV.out w6 HB6.out).mono ?_; rintro e w7 ⟨⟨rr, rfl⟩, F3, hr7, hk7⟩; have hnf : ∀ k, k < w4.heap.size → k ≠ w4.heap.size → ¬ F1 k → w3.heap.size ≥ k → ¬ F2 k := (fun k h1 h2 h3 h4 hF => (HKT.out.sub k hF).elim h3 (fun h => by simp at h; omega)); have hnfe : ¬ F2 w4.heap.size := (fun hF => by have := HR4.out.lt _ hF; omega); have HX7 := hid ((hk7.other _ (blk_lt HX6.out) (hnf _ (by omega) (by omega) HN1.out.2.1 (by omega))).trans HX6.out); have HY7 := hid ((hk7.other _ (blk_lt HY6.out) (hnf _ (by omega) (by omega) HN1.out.1 (by omega))).trans HY6.out); have HM7 := hid ((hk7.other _ (blk_lt HM6.out) (hnf _ (by omega) (by omega) HN1.out.2.2 (by omega))).trans HM6.out); have HE7 := hid ((hk7.other _ (blk_lt HE6.out) hnfe).trans HE6.out); have HR7 := hid hr7; have HK7 := hid hk7; have HNY := hid (hnf (w.heap.size + 1) (by omega) (by omega) HN1.out.1 (by omega)); clear hr7 hk7 hnf hnfe))
      obtain ⟨r0, r1⟩ := blk2 HY7.out
      obtain ⟨q0, q1⟩ := blk2 HM7.out
      have rf := blk_fz HY7.out
      have rl := blk_lt HY7.out
      have hz6 := HB6.out.size
      go_wp2
      refine bodyPost_ret (v := .tuple #[.agg #[.int .i64 (((P c).length : Int) + 1), .int .i64 c], .int .i64 0]) (by simp [results, Tryz.results99, go_sem, r0, r1]) rfl ?_
      have hnF3 : ¬ F3 (w.heap.size + 1) := fun hF => by
        rcases HK7.out.sub _ hF with h | h
        · exact HNY.out h
        · omega
      refine .inr ⟨[opMake (((P c).length : Int) + 1) c lst, opLay (((P c).length : Int) + 2) c (x1, x2) b, opEl 3 (((P c).length : Int) + 3) c (x1, x2) (((P c).length : Int) + 2, (c : Int)) 0 (((P c).length : Int) + 1, (c : Int)) []], by rw [HPL.out, if_pos hl, htop], by rw [htop], HH.out.wroteB (Below.refl _ w) hc ⟨F3, ?_, ?_⟩⟩
      · have := (HR7.out.set (o := 0) (.int .i64 (((P c).length : Int) + 1)) hnF3).set (o := 1) (.int .i64 c) hnF3
        rw [List.append_assoc, List.append_assoc] at this
        exact this
      · exact ((((HK4.out.after HB6.out).trans HK7.out).setNew (by omega) _).setNew (by omega) _)
    · have hd : decide ((P c).length + 3 ≤ 60) = false := decide_eq_false (by omega)
      rw [hd]
      go_wp2
      refine bodyPost_ret (v := .tuple #[.agg #[.int .i64 0, .int .i64 0], .int .i64 8]) (by simp [results, Tryz.results99, go_sem, y0, y1]) rfl ?_
      exact .inl ⟨8, by rw [HPL.out, if_neg hl], rfl, HLF.out _ HB2.out _ _⟩
end

end Go.Proofs.YtnkpogjiiohapaaGreatDoor

/-! PNewB: Maps whose keys are ends of links, and numbers; newLink, newLinks. -/
namespace Go.Proofs.YtnkpogjiiohapaaGreatDoor
open Go.RowKit
attribute [local go_sem ↓] Go.wp_at_zero Go.wp_at_succ

theorem run_equalEnds (x y : PId) (W : World) : (Op.equal 164 (idV x) (idV y)).run Tryz.prog W = .ok (idEq x.1 x.2 y.1 y.2) W := by
  unfold idV
  show (Op.equalIn (9998 + 1 + 1) 164 _ _).run Tryz.prog W = _
  go_simp
  unfold idEq
  by_cases h1 : x.1 = y.1 <;> by_cases h2 : x.2 = y.2 <;> simp [h1, h2]
theorem run_checkEnds (b : Bool) (x : PId) (W : World) : (Instr.checkKey b 10000 164 (idV x)).run Tryz.prog W = .ok () W := by
  unfold idV
  have hi : ∀ (n : Nat) (a : Int), (Instr.checkKey b (n + 1) 3 (.int .i64 a)).run Tryz.prog W = .ok () W := fun n a => by
    rw [Instr.checkKey]
    go_simp
  show (Instr.checkKey b (9998 + 1 + 1) 164 _).run Tryz.prog W = _
  rw [Instr.checkKey]
  go_simp
theorem run_askEnds {ν : Type} (encV : ν → Value) (x : PId) (W : World) : ∀ (es : List MapEntry) (m : List (PId × ν)) (i : Nat), Ents idV encV es m →
    (Instr.findAsking 164 (idV x) es i).run Tryz.prog W = .ok ((hitI x m i).map fun r => (r.1, encV r.2)) W
  | [], [], i, _ => rfl
  | [], p :: m, i, h => by simp [Ents] at h
  | e :: es, [], i, h => by simp [Ents] at h
  | e :: es, p :: m, i, h => by
    unfold Ents at h
    simp only [List.map_cons, List.cons.injEq, Prod.mk.injEq] at h
    obtain ⟨⟨h1, h2⟩, h3⟩ := h
    rw [Instr.findAsking, h1]
    have := run_equalEnds x p.1 W
    simp only [Sem.run_bind, this, Result.andThen_ok, idEq_eq]
    unfold hitI
    by_cases hx : x = p.1
    · simp [hx, h2]
    · simp only [hx, decide_false, if_false, Bool.false_eq_true]
      exact run_askEnds encV x W es m (i + 1) h3
theorem run_findEnds {ν : Type} (encV : ν → Value) (x : PId) (W : World) (es : List MapEntry) (m : List (PId × ν)) (h : Ents idV encV es m) :
    (Instr.findKey 164 (idV x) es).run Tryz.prog W = .ok ((hitI x m 0).map fun r => (r.1, encV r.2)) W := by
  have hu := Tryz.underlying164
  unfold Instr.findKey
  rw [Sem.run_bind, run_underlying hu, Result.andThen_ok]
  cases es with
  | nil =>
    have : m = [] := by unfold Ents at h; simpa using h.symm
    subst this
    rfl
  | cons e es =>
    have hn : Instr.findNow (TypeDesc.struct #[{ name := "from", type := 3, offset := 0, embedded := false, tag := "", pkgPath := "quire/quire", byteOffset := 0 }, { name := "to", type := 3, offset := 1, embedded := false, tag := "", pkgPath := "quire/quire", byteOffset := 8 }]) (idV x) (e :: es) 0 = none := rfl
    rw [hn]
    exact run_askEnds encV x W _ m 0 h
theorem endsKey : KeyOf PId 164 idV := ⟨run_checkEnds, fun encV x W es m h => run_findEnds encV x W es m h, sameBits_id⟩

def numV (n : Int) : Value := .int .i64 n
theorem run_checkInt (b : Bool) (x : Int) (W : World) : (Instr.checkKey b 10000 3 (numV x)).run Tryz.prog W = .ok () W := by
  unfold numV
  show (Instr.checkKey b (9999 + 1) 3 _).run Tryz.prog W = _
  rw [Instr.checkKey]
  go_simp
theorem now_int {ν : Type} (encV : ν → Value) (x : Int) : ∀ (es : List MapEntry) (m : List (Int × ν)) (i : Nat), Ents numV encV es m → Instr.findNow (.int .i64) (numV x) es i = some ((hitI x m i).map fun r => (r.1, encV r.2))
  | [], [], i, _ => rfl
  | [], p :: m, i, h => by simp [Ents] at h
  | e :: es, [], i, h => by simp [Ents] at h
  | e :: es, p :: m, i, h => by
    unfold Ents at h
    simp only [List.map_cons, List.cons.injEq, Prod.mk.injEq] at h
    obtain ⟨⟨h1, h2⟩, h3⟩ := h
    unfold Instr.findNow
    have hs : Instr.sameNow (.int .i64) (numV x) e.key = some (decide (x = p.1)) := by
      rw [h1]; show some (x == p.1) = _; simp [BEq.beq]
    rw [hs]
    unfold hitI
    by_cases hx : x = p.1
    · simp [hx, h2]
    · simp only [hx, decide_false, if_false]
      exact now_int encV x es m (i + 1) h3
theorem intKey : KeyOf Int 3 numV := ⟨run_checkInt, fun encV x W es m h => by
  unfold Instr.findKey
  rw [Sem.run_bind, run_underlying Tryz.underlying3, Result.andThen_ok, now_int encV x es m 0 h]
  rfl, fun x => by simp [numV, Instr.sameBits]⟩

set_option maxRecDepth 1000000 in
theorem run_mkChan (W : World) : (Instr.makeChan 151 (.int .i64 12)).run Tryz.prog W = .ok (.chan (some W.heap.size)) (W.alloc (.chan 12 #[] false 0 0 false)) := by
  unfold Instr.makeChan
  go_simp
  decide +kernel

set_option maxRecDepth 1000000 in
set_option maxHeartbeats 1000000 in
theorem newLink_q (w : World) : Calls Tryz.prog 127 #[] w fun e w' => (∃ g, e = .returned (.pointer (some ⟨g, 0, none⟩))) ∧ Below w.heap.size w w' := by
  have ho := run_mkChan w
  go_enter Tryz.func127, Tryz.ntmps127
  go_wp2
  go_ret
  exact ⟨⟨_, rfl⟩, ((Below.refl _ w).alloc (Nat.le_refl _) _).alloc (by simp) _⟩

def linkV (g : Nat) : Value := .pointer (some ⟨g, 0, none⟩)
/-- A map of links, of this call's own. -/
def isLinks (B : Nat) (w : World) (b : Nat) : Prop := B ≤ b ∧ ∃ m es clk, isMap idV linkV w b m es clk
theorem isLinks.keep {B : Nat} {w w' : World} {b : Nat} (h : isLinks B w b) (hb : Below w.heap.size w w') : isLinks B w' b := by
  obtain ⟨h0, m, es, clk, hm⟩ := h
  exact ⟨h0, m, es, clk, hm.keep hb⟩
theorem isLinks.put {B : Nat} {w0 w : World} {b : Nat} (h : isLinks B w b) (hb : Below B w0 w) (x1 x2 : Int) (g : Nat) : ∃ w', (Instr.mapUpdate 117 (.map (some b)) (.agg #[.int .i64 x1, .int .i64 x2]) (.pointer (some ⟨g, 0, none⟩))).run Tryz.prog w = .ok () w' ∧ isLinks B w' b ∧ Below B w0 w' := by
  obtain ⟨h0, m, es, clk, hm⟩ := h
  obtain ⟨es', clk', hrun, hm'⟩ := run_putI endsKey hm Tryz.underlying117 (x1, x2) g
  refine ⟨_, hrun, ⟨h0, _, _, _, hm'⟩, ?_⟩
  have ht : Turned (fun k => k = b) w (putObj w b (.map es' clk')) := Turned.put _ rfl
  exact ⟨ht.os.trans hb.os, ht.tape.trans hb.tape, ht.output.trans hb.output, Nat.le_trans hb.size ht.size, fun k hk => (putObj_other (by omega)).trans (hb.block k hk)⟩

set_option maxRecDepth 1000000 in
set_option maxHeartbeats 1000000 in
theorem newLinks_q (N : Nat) (hN : N ≤ 4) (w : World) : Calls Tryz.prog 71 #[.int .i64 N] w fun e w' => (∃ b, e = .returned (.map (some b)) ∧ w.heap.size ≤ b ∧ b < w'.heap.size) ∧ Below w.heap.size w w' := by
  have hmk := mk_map 117 w
  have HM0 := hid (show isLinks w.heap.size (w.alloc (.map #[] 0)) w.heap.size from ⟨Nat.le_refl _, [], #[], 0, heap_alloc_new w _, rfl, List.nodup_nil, fun e he => by cases he⟩)
  have HB0 := hid ((Below.refl w.heap.size w).alloc (Nat.le_refl _) (.map #[] 0))
  go_enter Tryz.func71, Tryz.ntmps71
  go_wp2_with fail
  go_loopw [8] (fun i wr => ∃ k : Nat, k ≤ N ∧ i = .int .i64 k ∧ isLinks w.heap.size wr w.heap.size ∧ Below w.heap.size w wr) (fun i _ => N - (intOf i).toNat)
  case atStart => exact ⟨0, Nat.zero_le _, rfl, HM0.out, HB0.out⟩
  case round =>
    obtain ⟨k, hk, rfl, hm, hb⟩ := hrel
    have HM := hid hm; have HB := hid hb; clear hm hb
    by_cases hlt : k < N
    · obtain ⟨wo, hwo⟩ : ∃ wo, wo = wr := ⟨_, rfl⟩
      subst hwo
      go_wp2_with fail
      go_loopw [12] (fun i wr => ∃ j : Nat, j ≤ N ∧ i = .int .i64 j ∧ isLinks w.heap.size wr w.heap.size ∧ Below w.heap.size w wr) (fun i _ => N - (intOf i).toNat)
      case atStart => exact ⟨0, Nat.zero_le _, rfl, HM.out, HB.out⟩
      case round =>
        obtain ⟨j, hj, rfl, hm2, hb2⟩ := hrel
        have HM2 := hid hm2; have HB2 := hid hb2; clear hm2 hb2
        by_cases hjl : j < N
        · by_cases hjk : k = j
          · subst hjk
            go_wp2
            go_roundw
            case rel => exact ⟨k + 1, by omega, by go_num, HM2.out, HB2.out⟩
            case measure => simp [intOf]; omega
          · have hne : ¬ ((k : Int) = (j : Int)) := by omega
            go_wp2_with fail
            refine (newLink_q _).mono ?_
            rintro e w3 ⟨⟨g, rfl⟩, hb3⟩
            have HB3 := hid (HB2.out.trans (hb3.mono HB2.out.size))
            have HM3 := hid (HM2.out.keep hb3)
            clear hb3
            obtain ⟨w4, hrun, hm4, hb4⟩ := HM3.out.put HB3.out k j g
            have HM4 := hid hm4; have HB4 := hid hb4; clear hm4 hb4
            go_wp2
            go_roundw
            case rel => exact ⟨j + 1, by omega, by go_num, HM4.out, HB4.out⟩
            case measure => simp [intOf]; omega
        · go_wp2
          go_roundw
          case rel => exact ⟨k + 1, by omega, by go_num, HM2.out, HB2.out⟩
          case measure => simp [intOf]; omega
    · go_wp2
      go_ret
      have hbl : w.heap.size < wr.heap.size := by obtain ⟨_, m, es, clk, hm⟩ := HM.out; exact hm.lt
      exact ⟨⟨w.heap.size, rfl, Nat.le_refl _, hbl⟩, HB.out⟩

end Go.Proofs.YtnkpogjiiohapaaGreatDoor
