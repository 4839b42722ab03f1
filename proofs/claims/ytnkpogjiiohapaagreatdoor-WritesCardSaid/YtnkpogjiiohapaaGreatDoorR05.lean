/- Our own text (RefPlaced, RefSet, RefNo, RefOwn). -/
import Derived.Test.YtnkpogjiiohapaaGreatDoorR04
import Derived.Test.YtnkpogjiiohapaaGreatDoorR03
set_option linter.unusedSimpArgs false
set_option linter.unusedVariables false

/-! RefPlaced: The contract of the reference's placed, SetAt, CutAt. -/
namespace Go.Proofs.YtnkpogjiiohapaaGreatDoor
open Go.RowKit

theorem blkc {w : World} {g : Nat} {cs : Array Value} {t : TypeId} {f : Nat × Nat} (h : w.heap[g]? = some (.cells cs t f)) {j : Nat} {u : Value} (hu : cs[j]? = some u) : w.cell? ⟨g, j, none⟩ = some u := by
  simp [World.cell?, h, hu]

theorem list_keys {D : List PObj} (h : ListKeys D) {x : PId} {k : Nat} (hk : objP D x true = .ok k) {w0 w : World} {d go cap : Nat} {os : List CObj} (ha : ObjAt w0 w D k d go cap os) : ∀ s ∈ (os[k]'ha.lt).ss, s.key = ⟨#[]⟩ := by
  intro s hs
  have hl := ha.lt
  have he := ha.eq
  have hD : k < D.length := by rw [← he]; simpa using hl
  have hDk : D[k] = (os[k]).p := by simp only [← he, List.getElem_map]
  have hlist : D[k].list = true := by
    unfold objP at hk
    split at hk
    · cases hk
    · split at hk
      · rename_i o ho
        split at hk
        · injection hk with hk
          rw [hk] at ho
          rw [List.getElem?_eq_getElem hD] at ho
          injection ho with ho
          rw [ho]; assumption
        · cases hk
      · cases hk
  have := h D[k] (List.getElem_mem _) hlist s.p (by rw [hDk]; exact List.mem_map.2 ⟨s, hs, rfl⟩)
  exact this

theorem placed_set {w : World} {g : Nat} {a0 a1 a2 a3 a4 a5 a6 a7 a8 a9 a10 a11 a12 a13 a14 u : Value} {t : TypeId} (h : w.heap[g]? = some (.cells #[a0, a1, a2, a3, a4, a5, a6, a7, a8, a9, a10, a11, a12, a13, a14] t (0, 0))) :
    (w.setCell ⟨g, 14, none⟩ u).heap[g]? = some (.cells #[a0, a1, a2, a3, a4, a5, a6, a7, a8, a9, a10, a11, a12, a13, u] t (0, 0)) := by
  have hl := blk_lt h
  obtain ⟨_, he⟩ := Array.getElem?_eq_some_iff.1 h
  simp [World.setCell, hl, Array.getElem_modify_self, he]

theorem placed_ok {D : List PObj} {t : Int} {own : Nat} {c : Int} {x y : PId} {j k : Nat} {kind n : Int} {ss : List CSlot} {sl : CSlot} (h1 : elementsP D x = .ok (seenIds ss)) (hi : ¬ ((j : Int) < 0 ∨ ((seenIds ss).length : Int) ≤ j)) (hf : own < 60)
    (hk : objP D x true = .ok k) (hy : (seenIds ss).getD j (0, 0) = y) (hss : (D[k]?.map PObj.ss) = some (ss.map CSlot.p)) (hfs : (ss.map CSlot.p).find? (pslotIs ⟨#[]⟩ y) = some sl.p) :
    placedPl D t own c x j kind n = .ok [opEl kind (t + 1) c x y n (0, 0) (sl.hs.map (·.giver))] := by
  unfold placedPl
  rw [h1]
  simp only [hi, hf, if_true, if_false, Int.toNat_natCast, hy]
  have : givenAt D x y = sl.hs.map (·.giver) := by
    unfold givenAt
    rw [hk]
    cases hd : D[k]? with
    | none => rw [hd] at hss; cases hss
    | some o =>
      rw [hd] at hss; simp at hss
      simp only [hd, heldsAt, hss, hfs]
      rfl
  rw [this]

set_option maxRecDepth 1000000 in
set_option maxHeartbeats 1600000 in
theorem placed_any {w : World} {r N : Nat} {vO vC vL : Value} {vops : Nat → Value} {cops : Nat → List COp} {cp : Nat → Nat → Value} {has : Nat → Nat → Nat} {c : Nat} {S : List POp} (h : Writable w r N vO vC vL vops cops cp has c S) (hb : topP S < 900000) (x1 x2 i kind n : Int) :
    Calls Tryz.prog 150 #[.pointer (some ⟨r, 0, none⟩), .int .i64 c, .agg #[.int .i64 x1, .int .i64 x2], .int .i64 i, .agg #[.int .i64 0, .int .i64 0, .int .i64 kind, .bool false, .int .i64 0, .int .i64 0, .string ⟨#[]⟩, .int .i64 0, .int .i64 0, .int .i64 0, .int .i64 0, .int .i64 n, .int .i64 0, .int .i64 0, .slice none 0 0]] w fun e w' =>
      (∃ m, placedPl (S.foldl doesP rootP) (topP S) (cops c).length c (x1, x2) i kind n = .error m ∧ e = .returned (.int .i64 m) ∧ Below w.heap.size w w') ∨
      (∃ ps, placedPl (S.foldl doesP rootP) (topP S) (cops c).length c (x1, x2) i kind n = .ok ps ∧ e = .returned (.int .i64 0) ∧ ∃ l vops' cops' has', l.map COp.p = ps ∧ Wrote w w' r N vO vC vL vops cops cp has c S l vops' cops' has') := by
  have HB0 := hid (((Below.refl w.heap.size w).alloc (Nat.le_refl _) (.cells #[.int .i64 x1, .int .i64 x2] 36)).alloc (by simp) (.cells #[.int .i64 0, .int .i64 0, .int .i64 kind, .bool false, .int .i64 0, .int .i64 0, .string ⟨#[]⟩, .int .i64 0, .int .i64 0, .int .i64 0, .int .i64 0, .int .i64 n, .int .i64 0, .int .i64 0, .slice none 0 0] 233))
  have HOB := hid (object_p (h.toShown.keep HB0.out) x1 x2 true)
  have HH := hid h; clear h
  have HLD := hid (listKeys S)
  generalize hDD : S.foldl doesP rootP = DD
  rw [hDD] at HOB HLD
  clear hDD
  go_enter Tryz.func150, Tryz.ntmps150
  go_wp2_with fail
  refine HOB.out.mono ?_
  rintro e w1 (⟨m, h1, hn, rfl, hb1⟩ | ⟨k, d, go, cap, os, h1, rfl, hat⟩)
  · have HX := hid (And.intro h1 hb1); clear h1 hb1
    have hn0 : ¬ m = 0 := by omega
    clear hn
    go_wp2
    go_ret
    exact .inl ⟨m, by unfold placedPl elementsP; rw [HX.out.1], rfl, HB0.out.trans (HX.out.2.mono HB0.out.size)⟩
  · have H1 := hid h1; clear h1
    have hb1 := hat.below
    have HBL := hid (show w1.heap[w.heap.size]? = some (.cells #[.int .i64 x1, .int .i64 x2] 36 (0, 0)) by rw [hb1.block w.heap.size (by simp; omega)]; exact blk_alloc (blk_new _ _))
    have HBP := hid (show w1.heap[w.heap.size + 1]? = some (.cells #[.int .i64 0, .int .i64 0, .int .i64 kind, .bool false, .int .i64 0, .int .i64 0, .string ⟨#[]⟩, .int .i64 0, .int .i64 0, .int .i64 0, .int .i64 0, .int .i64 n, .int .i64 0, .int .i64 0, .slice none 0 0] 233 (0, 0)) by rw [hb1.block (w.heap.size + 1) (by simp)]; exact (by simp : (w.alloc (.cells #[.int .i64 x1, .int .i64 x2] 36)).heap.size = w.heap.size + 1) ▸ blk_new (w.alloc (.cells #[.int .i64 x1, .int .i64 x2] 36)) _)
    have HB1 := hid (HB0.out.trans (hb1.mono HB0.out.size)); clear hb1
    have HAT := hid hat; clear hat
    have HSL := hid HAT.out.slots
    have HCE := hid HAT.out.cell
    have hle := HAT.out.len
    have HLE := hid hle; clear hle
    have HSS := hid HAT.out.ss
    have hkp := HAT.out.lt
    have HLK := hid (show ∀ s ∈ (os[k]'hkp).ss, s.key = ⟨#[]⟩ from list_keys HLD.out H1.out HAT.out)
    generalize os[k] = ob at *
    have HOK := hid (show elementsP DD (x1, x2) = .ok (seenIds ob.ss) by
        unfold elementsP; rw [H1.out]
        have := HSS.out
        cases hd : DD[k]? with
        | none => rw [hd] at this; cases this
        | some o =>
          rw [hd] at this; simp at this
          simp only [hd, pseen]
          rw [this, seen_p])
    have HSE := hid (seen_any _ go (k * 4) _ ob.ss _ HCE.out HSL.out (by have := HLE.out.1; omega))
    have HSN := hid (show (seenIds ob.ss).length ≤ 240 by
      have := seen_len ob.ss ob.ss.length
      rw [List.take_of_length_le (Nat.le_refl _)] at this
      have := HLE.out.1
      omega)
    go_wp2_with fail
    refine HSE.out.mono ?_
    rintro e w2 ⟨u, rfl, hu, hb2⟩
    have HB2 := hid (HB1.out.trans (hb2.mono HB1.out.size))
    have HW2 := hid (HH.out.keepB HB2.out)
    have HBS := hid hb2; clear hb2
    have HU := hid hu; clear hu
    have HRM := hid (room_any HW2.out.room c HW2.out.hc 1 (by omega))
    obtain ⟨ua, uc, hue, huc, hum, huf⟩ := owns_form HU.out
    subst hue
    go_wp2_with fail
    refine HRM.out.mono ?_
    rintro e w2' ⟨rfl, hw2⟩
    subst hw2
    have hsn := HSN.out
    by_cases hi : i < 0 ∨ ((seenIds ob.ss).length : Int) ≤ i
    · generalize decide ((cops c).length + 1 ≤ 60) = bb
      have HI := hid hi
      rcases hi with hi | hi
      · go_wp2
        go_ret
        exact .inl ⟨7, by unfold placedPl; rw [HOK.out]; simp only [HI.out, if_true], rfl, HB2.out⟩
      · by_cases hi0 : i < 0
        · go_wp2
          go_ret
          exact .inl ⟨7, by unfold placedPl; rw [HOK.out]; simp only [HI.out, if_true], rfl, HB2.out⟩
        · go_wp2
          go_ret
          exact .inl ⟨7, by unfold placedPl; rw [HOK.out]; simp only [HI.out, if_true], rfl, HB2.out⟩
    · by_cases hf : (cops c).length < 60
      · have hd : decide ((cops c).length + 1 ≤ 60) = true := decide_eq_true (by omega)
        rw [hd]
        clear hd
        obtain ⟨j, rfl⟩ := Int.eq_ofNat_of_zero_le (a := i) (by omega)
        have hjl : j < (seenIds ob.ss).length := by omega
        obtain ⟨gu, rfl⟩ := huf j hjl
        have HL2 := hid (blk_keep HBL.out HBS.out)
        have HP2 := hid (blk_keep HBP.out HBS.out)
        have c0 := (blk2 HL2.out).1
        have c1 := (blk2 HL2.out).2
        have pc := fun j u hu => blkc HP2.out (j := j) (u := u) hu
        have p0 := pc 0 _ rfl
        have p1 := pc 1 _ rfl
        have p2 := pc 2 _ rfl
        have p3 := pc 3 _ rfl
        have p4 := pc 4 _ rfl
        have p5 := pc 5 _ rfl
        have p6 := pc 6 _ rfl
        have p7 := pc 7 _ rfl
        have p8 := pc 8 _ rfl
        have p9 := pc 9 _ rfl
        have p10 := pc 10 _ rfl
        have p11 := pc 11 _ rfl
        have p12 := pc 12 _ rfl
        have p13 := pc 13 _ rfl
        have p14 := pc 14 _ rfl
        have pf := blk_fz HP2.out
        obtain ⟨l0, l1⟩ := isIds.cells HU.out.ids rfl j hjl
        have HY := hid (List.getElem_mem hjl)
        have HYE := hid (show (seenIds ob.ss).getD j (0, 0) = (seenIds ob.ss)[j] by simp [hjl])
        generalize (seenIds ob.ss)[j] = y at *
        obtain ⟨q, hq, HFI, HFS⟩ := slot_found HLK.out HY.out
        obtain ⟨y1, y2⟩ := y
        have hgu : gu < w2'.heap.size := World.block_lt_of_cell? w2' _ l0
        have hgp : gu ≠ w.heap.size + 1 := by
          intro e
          have h1 := (World.ownsRow.lt HU.out gu rfl).1
          have h2 := blk_lt HBP.out
          omega
        clear pc huf
        go_wp2
        obtain ⟨w3, hw3⟩ : ∃ w3, w3 = (((w2'.setCell ⟨w.heap.size + 1, 4, none⟩ (.int .i64 x1)).setCell ⟨w.heap.size + 1, 5, none⟩ (.int .i64 x2)).setCell ⟨w.heap.size + 1, 7, none⟩ (.int .i64 y1)).setCell ⟨w.heap.size + 1, 8, none⟩ (.int .i64 y2) := ⟨_, rfl⟩
        rw [← hw3]
        have hoth : ∀ k, k ≠ w.heap.size + 1 → w3.heap[k]? = w2'.heap[k]? := fun k hk => by
          rw [hw3, Below.heap_setCell _ _ _ _ hk, Below.heap_setCell _ _ _ _ hk, Below.heap_setCell _ _ _ _ hk, Below.heap_setCell _ _ _ _ hk]
        have HP3 := hid (show w3.heap[w.heap.size + 1]? = some (.cells #[.int .i64 0, .int .i64 0, .int .i64 kind, .bool false, .int .i64 x1, .int .i64 x2, .string ⟨#[]⟩, .int .i64 y1, .int .i64 y2, .int .i64 0, .int .i64 0, .int .i64 n, .int .i64 0, .int .i64 0, .slice none 0 0] 233 (0, 0)) by
          have hl := blk_lt HP2.out
          obtain ⟨_, he⟩ := Array.getElem?_eq_some_iff.1 HP2.out
          rw [hw3]
          simp [World.setCell, hl, Array.getElem_modify_self, he])
        have HB3 := hid (show Below w.heap.size w w3 by rw [hw3]; exact (((HB2.out.setCell (by simp) _).setCell (by simp) _).setCell (by simp) _).setCell (by simp) _)
        have hsz3 : w3.heap.size = w2'.heap.size := by rw [hw3]; simp [World.setCell]
        clear hw3 p0 p1 p2 p3 p4 p5 p6 p7 p8 p9 p10 p11 p12 p13 p14 pf c0 c1
        have HT3 : Hid (∀ (g : Nat) (cs : Array Value) (e : TypeId) (f : Nat × Nat), w2'.heap[g]? = some (.cells cs e f) → e ≠ 233 → w3.heap[g]? = some (.cells cs e f)) := fun g cs e f hg he => by
          rw [hoth g (by intro e'; subst e'; exact he (cells_type hg HP2.out))]; exact hg
        have HSL3 := hid (show isSlots _ w3 ob.slots ob.ss from slots_block (HSL.out.keep HBS.out) (fun g hg => by obtain ⟨cs, hcs⟩ := own_type (HSL.out.keep HBS.out).1 hg; rw [HT3.out g _ _ _ hcs (by decide), hcs]) (fun g cur hg => by rw [HT3.out g _ _ _ hg (by decide), hg]))
        obtain ⟨go2, cap2, curO, hvE, _, hgo2, _, _, _, _, _, hos2⟩ := (HAT.out.doc.keep HBS.out).row hkp
        injection hvE with hvE _ _; injection hvE with hvE; injection hvE with hvE; subst hvE
        have HCE3 := hid (show w3.cell? ⟨go, k * 4 + 3, none⟩ = some ob.slots by
          have h1 := HT3.out _ _ _ _ hgo2 (by decide)
          have h2 := keep HBS.out HCE.out
          simp only [World.cell?, hgo2] at h2
          simp only [World.cell?, h1]
          exact h2)
        obtain ⟨sa, sc, hsv, hsl, hsm, hsf⟩ := owns_form HSL3.out.1
        unfold maxLen at hsm
        obtain ⟨gs, rfl⟩ := hsf q hq
        have c3 := HCE3.out
        rw [hsv] at c3
        have HSV := hid HSL3.out
        rw [hsv] at HSV
        have k3 := (isSlots.cells HSV.out rfl q hq).2.2.2
        have hhd := HSV.out.2 ob.ss[q] (List.getElem_mem _)
        have hhl := HLE.out.2 ob.ss[q] (List.getElem_mem _)
        have HFS' := hid HFS; clear HFS
        generalize ob.ss[q] = sl at *
        obtain ⟨va, vc, hv, _, _, _⟩ := owns_form hhd
        rw [hv] at k3 hhd
        have HHD := hid hhd; clear hhd
        have l0' : w3.cell? ⟨gu, j * 2, none⟩ = some (.int .i64 y1) := by rw [World.cell?_of_block (w := w2') (a := ⟨gu, j * 2, none⟩) (hoth gu hgp)]; exact l0
        have l1' : w3.cell? ⟨gu, j * 2 + 1, none⟩ = some (.int .i64 y2) := by rw [World.cell?_of_block (w := w2') (a := ⟨gu, j * 2 + 1, none⟩) (hoth gu hgp)]; exact l1
        have p14 := blkc HP3.out (j := 14) rfl
        have pf := blk_fz HP3.out
        have hgs : gs < w3.heap.size := World.block_lt_of_cell? w3 _ k3
        have HV := hid hv; clear hv
        have HSVV := hid hsv; clear hsv hsf l0 l1
        have HOTH := hid hoth; clear hoth
        have HFI' := hid HFI; clear HFI
        have HDR := hid (show Below w3.heap.size w3 w3.drew from (Below.refl _ w3).drew)
        go_region_with (first
          | (go_at_call 172; refine (slot_any _ go (k * 4) _ ob.ss ⟨#[]⟩ y1 y2 _ (keep HDR.out HCE3.out) (HSL3.out.keep HDR.out)).mono ?_; rintro e w4 ⟨rfl, hb4⟩; rw [HFI'.out]; have hb4' : Below w3.heap.size w3 w4 := HDR.out.trans hb4; replace c3 := keep hb4' c3; replace k3 := keep hb4' k3; replace l0' := keep hb4' l0'; replace l1' := keep hb4' l1'; replace HP3 := hid (blk_keep HP3.out hb4'); replace p14 := blkc HP3.out (j := 14) rfl; replace pf := blk_fz HP3.out; have HB4 := hid hb4'; clear hb4 hb4')
          | (go_at_call 146; refine (by_any _ sl.hs _ ?ha ?hb).mono ?_; (case ha => exact HHD.out.keep HB4.out); (case hb => omega); rintro e w5 ⟨u, rfl, hu, hb5⟩; obtain ⟨ua2, uc2, hue, _, _, _⟩ := owns_form hu; rw [List.length_map] at hue; subst hue; replace HP3 := hid (blk_keep HP3.out hb5); replace p14 := blkc HP3.out (j := 14) rfl; replace pf := blk_fz HP3.out; have HU5 := hid hu; clear hu; have HB5 := hid hb5; clear hb5))
        all_goals (obtain ⟨w6, hw6⟩ : ∃ w6, w6 = w5.setCell ⟨w.heap.size + 1, 14, none⟩ (.slice ua2 sl.hs.length uc2) := ⟨_, rfl⟩; rw [← hw6]; clear c3 k3 l0' l1' p14 pf)
        all_goals (have HB6 := hid (show Below w.heap.size w w6 by rw [hw6]; exact ((HB3.out.trans ((HB4.out.trans (HB5.out.mono HB4.out.size)).mono HB3.out.size)).setCell (by simp) _)); have HW6 := hid (HH.out.keepB HB6.out); have HP6 := hid (show w6.heap[w.heap.size + 1]? = some (.cells #[.int .i64 0, .int .i64 0, .int .i64 kind, .bool false, .int .i64 x1, .int .i64 x2, .string ⟨#[]⟩, .int .i64 y1, .int .i64 y2, .int .i64 0, .int .i64 0, .int .i64 n, .int .i64 0, .int .i64 0, .slice ua2 sl.hs.length uc2] 233 (0, 0)) by rw [hw6]; exact placed_set HP3.out); have HI6 := hid (show isIds w6 (.slice ua2 sl.hs.length uc2) (sl.hs.map (·.giver)) by rw [hw6]; exact row_other HU5.out.ids (fun e => by obtain ⟨cs, hcs⟩ := own_type HU5.out e; exact absurd (cells_type hcs HP3.out) (by decide)) _); have HN6 := hid (show ∀ k, (Value.slice ua2 sl.hs.length uc2).ownBlock = some k → w.heap.size ≤ k from fun k hk => Nat.le_trans (Nat.le_trans HB3.out.size HB4.out.size) (World.ownsRow.lt HU5.out k hk).1))
        all_goals (have q0 := blkc HP6.out (j := 0) rfl; have q1 := blkc HP6.out (j := 1) rfl; have q2 := blkc HP6.out (j := 2) rfl; have q3 := blkc HP6.out (j := 3) rfl; have q4 := blkc HP6.out (j := 4) rfl; have q5 := blkc HP6.out (j := 5) rfl; have q6 := blkc HP6.out (j := 6) rfl; have q7 := blkc HP6.out (j := 7) rfl; have q8 := blkc HP6.out (j := 8) rfl; have q9 := blkc HP6.out (j := 9) rfl; have q10 := blkc HP6.out (j := 10) rfl; have q11 := blkc HP6.out (j := 11) rfl; have q12 := blkc HP6.out (j := 12) rfl; have q13 := blkc HP6.out (j := 13) rfl; have q14 := blkc HP6.out (j := 14) rfl; clear hw6)
        all_goals (go_wp2_with fail)
        all_goals (refine (add_wr HB6.out HW6.out hf rfl (by omega) 0 0 kind x1 x2 y1 y2 0 0 n 0 0 false ⟨#[]⟩ _ (sl.hs.map (·.giver)) HI6.out HN6.out).mono ?_; rintro e w7 ⟨rfl, vops', cops', has', had⟩; have HAD := hid had; clear had)
        all_goals go_wp2
        all_goals go_ret
        all_goals exact .inr ⟨[opEl kind (topP S + 1) c (x1, x2) (y1, y2) n (0, 0) (sl.hs.map (·.giver))], placed_ok HOK.out hi hf H1.out HYE.out HSS.out HFS'.out, rfl, _, vops', cops', has', rfl, HAD.out⟩
      · have hd : decide ((cops c).length + 1 ≤ 60) = false := decide_eq_false (by omega)
        rw [hd]
        clear hd
        have HI := hid hi
        go_wp2
        go_ret
        exact .inl ⟨8, by unfold placedPl; rw [HOK.out]; simp only [HI.out, hf, if_false], rfl, HB2.out⟩

end Go.Proofs.YtnkpogjiiohapaaGreatDoor

/-! RefSet: The contracts of the reference's SetAt and CutAt. -/
namespace Go.Proofs.YtnkpogjiiohapaaGreatDoor
open Go.RowKit

set_option maxRecDepth 1000000 in
set_option maxHeartbeats 800000 in
theorem setAt_any {w : World} {r N : Nat} {vO vC vL : Value} {vops : Nat → Value} {cops : Nat → List COp} {cp : Nat → Nat → Value} {has : Nat → Nat → Nat} {c : Nat} {S : List POp} (h : Writable w r N vO vC vL vops cops cp has c S) (hb : topP S < 900000) (x1 x2 i n : Int) :
    Calls Tryz.prog 101 #[.pointer (some ⟨r, 0, none⟩), .int .i64 c, .agg #[.int .i64 x1, .int .i64 x2], .int .i64 i, .int .i64 n] w fun e w' =>
      (∃ m, placedPl (S.foldl doesP rootP) (topP S) (cops c).length c (x1, x2) i 3 n = .error m ∧ e = .returned (.int .i64 m) ∧ Below w.heap.size w w') ∨
      (∃ ps, placedPl (S.foldl doesP rootP) (topP S) (cops c).length c (x1, x2) i 3 n = .ok ps ∧ e = .returned (.int .i64 0) ∧ ∃ l vops' cops' has', l.map COp.p = ps ∧ Wrote w w' r N vO vC vL vops cops cp has c S l vops' cops' has') := by
  have HB0 := hid ((Below.refl w.heap.size w).alloc (Nat.le_refl _) (.cells #[.int .i64 x1, .int .i64 x2] 36))
  have HPL := hid (placed_any (h.keepB HB0.out) hb x1 x2 i 3 n)
  clear h
  generalize hPP : placedPl (S.foldl doesP rootP) (topP S) (cops c).length c (x1, x2) i 3 n = PP at *
  clear hPP
  go_enter Tryz.func101, Tryz.ntmps101
  go_wp2_with fail
  refine HPL.out.mono ?_
  rintro e w1 (⟨m, h1, rfl, hb1⟩ | ⟨ps, h1, rfl, l, vops', cops', has', hl, hw⟩)
  · have HX := hid (And.intro h1 hb1); clear h1 hb1
    go_wp2
    go_ret
    exact .inl ⟨m, HX.out.1, rfl, HB0.out.trans (HX.out.2.mono HB0.out.size)⟩
  · have HX := hid (And.intro h1 (And.intro hl hw)); clear h1 hl hw
    go_wp2
    go_ret
    exact .inr ⟨ps, HX.out.1, rfl, l, vops', cops', has', HX.out.2.1, HX.out.2.2.after HB0.out⟩

set_option maxRecDepth 1000000 in
set_option maxHeartbeats 800000 in
theorem cutAt_any {w : World} {r N : Nat} {vO vC vL : Value} {vops : Nat → Value} {cops : Nat → List COp} {cp : Nat → Nat → Value} {has : Nat → Nat → Nat} {c : Nat} {S : List POp} (h : Writable w r N vO vC vL vops cops cp has c S) (hb : topP S < 900000) (x1 x2 i : Int) :
    Calls Tryz.prog 102 #[.pointer (some ⟨r, 0, none⟩), .int .i64 c, .agg #[.int .i64 x1, .int .i64 x2], .int .i64 i] w fun e w' =>
      (∃ m, placedPl (S.foldl doesP rootP) (topP S) (cops c).length c (x1, x2) i 4 0 = .error m ∧ e = .returned (.int .i64 m) ∧ Below w.heap.size w w') ∨
      (∃ ps, placedPl (S.foldl doesP rootP) (topP S) (cops c).length c (x1, x2) i 4 0 = .ok ps ∧ e = .returned (.int .i64 0) ∧ ∃ l vops' cops' has', l.map COp.p = ps ∧ Wrote w w' r N vO vC vL vops cops cp has c S l vops' cops' has') := by
  have HB0 := hid ((Below.refl w.heap.size w).alloc (Nat.le_refl _) (.cells #[.int .i64 x1, .int .i64 x2] 36))
  have HPL := hid (placed_any (h.keepB HB0.out) hb x1 x2 i 4 0)
  clear h
  generalize hPP : placedPl (S.foldl doesP rootP) (topP S) (cops c).length c (x1, x2) i 4 0 = PP at *
  clear hPP
  go_enter Tryz.func102, Tryz.ntmps102
  go_wp2_with fail
  refine HPL.out.mono ?_
  rintro e w1 (⟨m, h1, rfl, hb1⟩ | ⟨ps, h1, rfl, l, vops', cops', has', hl, hw⟩)
  · have HX := hid (And.intro h1 hb1); clear h1 hb1
    go_wp2
    go_ret
    exact .inl ⟨m, HX.out.1, rfl, HB0.out.trans (HX.out.2.mono HB0.out.size)⟩
  · have HX := hid (And.intro h1 (And.intro hl hw)); clear h1 hl hw
    go_wp2
    go_ret
    exact .inr ⟨ps, HX.out.1, rfl, l, vops', cops', has', HX.out.2.1, HX.out.2.2.after HB0.out⟩

end Go.Proofs.YtnkpogjiiohapaaGreatDoor

/-! RefNo: The contracts of the reference's calls that write, where there is no such copy. -/
namespace Go.Proofs.YtnkpogjiiohapaaGreatDoor
open Go.RowKit

set_option maxRecDepth 1000000 in
set_option maxHeartbeats 400000 in
theorem put_nocopy {w : World} {r N : Nat} {vO vC vL : Value} {vops : Nat → Value} {cops : Nat → List COp} {cp : Nat → Nat → Value} {has : Nat → Nat → Nat} (h : isRoom w r N vO vC vL vops cops cp has) (c x1 x2 n : Int) (key : ByteArray) (hc : ¬ (0 ≤ c ∧ c < N)) :
    Calls Tryz.prog 94 #[.pointer (some ⟨r, 0, none⟩), .int .i64 c, .agg #[.int .i64 x1, .int .i64 x2], .string key, .int .i64 n] w fun e w' => e = .returned (.int .i64 2) ∧ Below w.heap.size w w' := by
  have HB0 := hid ((Below.refl w.heap.size w).alloc (Nat.le_refl _) (.cells #[.int .i64 x1, .int .i64 x2] 36))
  have HKY := hid (keyed_nocopy (h.keep HB0.out) c x1 x2 key hc)
  clear h hc
  go_enter Tryz.func94, Tryz.ntmps94
  go_wp2_with fail
  refine HKY.out.mono ?_
  rintro e w1 ⟨rfl, hb1⟩
  have HB1 := hid hb1; clear hb1
  go_wp2
  go_ret
  exact ⟨rfl, HB0.out.trans (HB1.out.mono HB0.out.size)⟩

set_option maxRecDepth 1000000 in
set_option maxHeartbeats 400000 in
theorem nest_nocopy {w : World} {r N : Nat} {vO vC vL : Value} {vops : Nat → Value} {cops : Nat → List COp} {cp : Nat → Nat → Value} {has : Nat → Nat → Nat} (h : isRoom w r N vO vC vL vops cops cp has) (c x1 x2 : Int) (key : ByteArray) (lst : Bool) (hc : ¬ (0 ≤ c ∧ c < N)) :
    Calls Tryz.prog 95 #[.pointer (some ⟨r, 0, none⟩), .int .i64 c, .agg #[.int .i64 x1, .int .i64 x2], .string key, .bool lst] w fun e w' => e = .returned (.tuple #[.agg #[.int .i64 0, .int .i64 0], .int .i64 2]) ∧ Below w.heap.size w w' := by
  have HB0 := hid (((Below.refl w.heap.size w).alloc (Nat.le_refl _) (.cells #[.int .i64 x1, .int .i64 x2] 36)).alloc (by simp) (.cells #[.int .i64 0, .int .i64 0] 36))
  have HKY := hid (keyed_nocopy (h.keep HB0.out) c x1 x2 key hc)
  clear h hc
  go_enter Tryz.func95, Tryz.ntmps95
  go_wp2_with fail
  refine HKY.out.mono ?_
  rintro e w1 ⟨rfl, hb1⟩
  have r0 := keep (a := ⟨w.heap.size + 1, 0, none⟩) (v := .int .i64 0) hb1 (by simp [go_sem])
  have r1 := keep (a := ⟨w.heap.size + 1, 1, none⟩) (v := .int .i64 0) hb1 (by simp [go_sem])
  have rf : ∀ j, w1.frozen? ⟨w.heap.size + 1, j, none⟩ = false := fun j => by rw [hb1.frozen (p := ⟨w.heap.size + 1, j, none⟩) (by simp)]; simp [go_sem]
  have HB1 := hid hb1; clear hb1
  go_wp2
  refine bodyPost_ret (v := .tuple #[.agg #[.int .i64 0, .int .i64 0], .int .i64 2]) (by simp [results, Tryz.results95, go_sem, r0, r1]) rfl ?_
  exact ⟨rfl, ((HB0.out.trans (HB1.out.mono HB0.out.size)).setCell (by simp) _).setCell (by simp) _⟩

set_option maxRecDepth 1000000 in
set_option maxHeartbeats 400000 in
theorem cut_nocopy {w : World} {r N : Nat} {vO vC vL : Value} {vops : Nat → Value} {cops : Nat → List COp} {cp : Nat → Nat → Value} {has : Nat → Nat → Nat} (h : isRoom w r N vO vC vL vops cops cp has) (c x1 x2 : Int) (key : ByteArray) (hc : ¬ (0 ≤ c ∧ c < N)) :
    Calls Tryz.prog 97 #[.pointer (some ⟨r, 0, none⟩), .int .i64 c, .agg #[.int .i64 x1, .int .i64 x2], .string key] w fun e w' => e = .returned (.int .i64 2) ∧ Below w.heap.size w w' := by
  have HB0 := hid ((Below.refl w.heap.size w).alloc (Nat.le_refl _) (.cells #[.int .i64 x1, .int .i64 x2] 36))
  have HKY := hid (keyed_nocopy (h.keep HB0.out) c x1 x2 key hc)
  clear h hc
  go_enter Tryz.func97, Tryz.ntmps97
  go_wp2_with fail
  refine HKY.out.mono ?_
  rintro e w1 ⟨rfl, hb1⟩
  have HB1 := hid hb1; clear hb1
  go_wp2
  go_ret
  exact ⟨rfl, HB0.out.trans (HB1.out.mono HB0.out.size)⟩

set_option maxRecDepth 1000000 in
set_option maxHeartbeats 400000 in
theorem insert_nocopy {w : World} {r N : Nat} {vO vC vL : Value} {vops : Nat → Value} {cops : Nat → List COp} {cp : Nat → Nat → Value} {has : Nat → Nat → Nat} (h : isRoom w r N vO vC vL vops cops cp has) (c x1 x2 i n : Int) (hc : ¬ (0 ≤ c ∧ c < N)) :
    Calls Tryz.prog 98 #[.pointer (some ⟨r, 0, none⟩), .int .i64 c, .agg #[.int .i64 x1, .int .i64 x2], .int .i64 i, .int .i64 n] w fun e w' => e = .returned (.tuple #[.agg #[.int .i64 0, .int .i64 0], .int .i64 2]) ∧ Below w.heap.size w w' := by
  have HB0 := hid (((Below.refl w.heap.size w).alloc (Nat.le_refl _) (.cells #[.int .i64 x1, .int .i64 x2] 36)).alloc (by simp) (.cells #[.int .i64 0, .int .i64 0] 36))
  have HKY := hid (object_nocopy (h.keep HB0.out) c x1 x2 true hc)
  clear h hc
  go_enter Tryz.func98, Tryz.ntmps98
  go_wp2_with fail
  refine HKY.out.mono ?_
  rintro e w1 ⟨rfl, hb1⟩
  have r0 := keep (a := ⟨w.heap.size + 1, 0, none⟩) (v := .int .i64 0) hb1 (by simp [go_sem])
  have r1 := keep (a := ⟨w.heap.size + 1, 1, none⟩) (v := .int .i64 0) hb1 (by simp [go_sem])
  have rf : ∀ j, w1.frozen? ⟨w.heap.size + 1, j, none⟩ = false := fun j => by rw [hb1.frozen (p := ⟨w.heap.size + 1, j, none⟩) (by simp)]; simp [go_sem]
  have HB1 := hid hb1; clear hb1
  go_wp2
  refine bodyPost_ret (v := .tuple #[.agg #[.int .i64 0, .int .i64 0], .int .i64 2]) (by simp [results, Tryz.results98, go_sem, r0, r1]) rfl ?_
  exact ⟨rfl, ((HB0.out.trans (HB1.out.mono HB0.out.size)).setCell (by simp) _).setCell (by simp) _⟩

set_option maxRecDepth 1000000 in
set_option maxHeartbeats 400000 in
theorem nestAt_nocopy {w : World} {r N : Nat} {vO vC vL : Value} {vops : Nat → Value} {cops : Nat → List COp} {cp : Nat → Nat → Value} {has : Nat → Nat → Nat} (h : isRoom w r N vO vC vL vops cops cp has) (c x1 x2 i : Int) (lst : Bool) (hc : ¬ (0 ≤ c ∧ c < N)) :
    Calls Tryz.prog 100 #[.pointer (some ⟨r, 0, none⟩), .int .i64 c, .agg #[.int .i64 x1, .int .i64 x2], .int .i64 i, .bool lst] w fun e w' => e = .returned (.tuple #[.agg #[.int .i64 0, .int .i64 0], .int .i64 2]) ∧ Below w.heap.size w w' := by
  have HB0 := hid (((Below.refl w.heap.size w).alloc (Nat.le_refl _) (.cells #[.int .i64 x1, .int .i64 x2] 36)).alloc (by simp) (.cells #[.int .i64 0, .int .i64 0] 36))
  have HKY := hid (object_nocopy (h.keep HB0.out) c x1 x2 true hc)
  clear h hc
  go_enter Tryz.func100, Tryz.ntmps100
  go_wp2_with fail
  refine HKY.out.mono ?_
  rintro e w1 ⟨rfl, hb1⟩
  have r0 := keep (a := ⟨w.heap.size + 1, 0, none⟩) (v := .int .i64 0) hb1 (by simp [go_sem])
  have r1 := keep (a := ⟨w.heap.size + 1, 1, none⟩) (v := .int .i64 0) hb1 (by simp [go_sem])
  have rf : ∀ j, w1.frozen? ⟨w.heap.size + 1, j, none⟩ = false := fun j => by rw [hb1.frozen (p := ⟨w.heap.size + 1, j, none⟩) (by simp)]; simp [go_sem]
  have HB1 := hid hb1; clear hb1
  go_wp2
  refine bodyPost_ret (v := .tuple #[.agg #[.int .i64 0, .int .i64 0], .int .i64 2]) (by simp [results, Tryz.results100, go_sem, r0, r1]) rfl ?_
  exact ⟨rfl, ((HB0.out.trans (HB1.out.mono HB0.out.size)).setCell (by simp) _).setCell (by simp) _⟩

set_option maxRecDepth 1000000 in
set_option maxHeartbeats 400000 in
theorem placed_nocopy {w : World} {r N : Nat} {vO vC vL : Value} {vops : Nat → Value} {cops : Nat → List COp} {cp : Nat → Nat → Value} {has : Nat → Nat → Nat} (h : isRoom w r N vO vC vL vops cops cp has) (c x1 x2 i kind n : Int) (hc : ¬ (0 ≤ c ∧ c < N)) :
    Calls Tryz.prog 150 #[.pointer (some ⟨r, 0, none⟩), .int .i64 c, .agg #[.int .i64 x1, .int .i64 x2], .int .i64 i, .agg #[.int .i64 0, .int .i64 0, .int .i64 kind, .bool false, .int .i64 0, .int .i64 0, .string ⟨#[]⟩, .int .i64 0, .int .i64 0, .int .i64 0, .int .i64 0, .int .i64 n, .int .i64 0, .int .i64 0, .slice none 0 0]] w fun e w' => e = .returned (.int .i64 2) ∧ Below w.heap.size w w' := by
  have HB0 := hid (((Below.refl w.heap.size w).alloc (Nat.le_refl _) (.cells #[.int .i64 x1, .int .i64 x2] 36)).alloc (by simp) (.cells #[.int .i64 0, .int .i64 0, .int .i64 kind, .bool false, .int .i64 0, .int .i64 0, .string ⟨#[]⟩, .int .i64 0, .int .i64 0, .int .i64 0, .int .i64 0, .int .i64 n, .int .i64 0, .int .i64 0, .slice none 0 0] 233))
  have HKY := hid (object_nocopy (h.keep HB0.out) c x1 x2 true hc)
  clear h hc
  go_enter Tryz.func150, Tryz.ntmps150
  go_wp2_with fail
  refine HKY.out.mono ?_
  rintro e w1 ⟨rfl, hb1⟩
  have HB1 := hid hb1; clear hb1
  go_wp2
  go_ret
  exact ⟨rfl, HB0.out.trans (HB1.out.mono HB0.out.size)⟩

set_option maxRecDepth 1000000 in
set_option maxHeartbeats 400000 in
theorem setAt_nocopy {w : World} {r N : Nat} {vO vC vL : Value} {vops : Nat → Value} {cops : Nat → List COp} {cp : Nat → Nat → Value} {has : Nat → Nat → Nat} (h : isRoom w r N vO vC vL vops cops cp has) (c x1 x2 i n : Int) (hc : ¬ (0 ≤ c ∧ c < N)) :
    Calls Tryz.prog 101 #[.pointer (some ⟨r, 0, none⟩), .int .i64 c, .agg #[.int .i64 x1, .int .i64 x2], .int .i64 i, .int .i64 n] w fun e w' => e = .returned (.int .i64 2) ∧ Below w.heap.size w w' := by
  have HB0 := hid ((Below.refl w.heap.size w).alloc (Nat.le_refl _) (.cells #[.int .i64 x1, .int .i64 x2] 36))
  have HPL := hid (placed_nocopy (h.keep HB0.out) c x1 x2 i 3 n hc)
  clear h hc
  go_enter Tryz.func101, Tryz.ntmps101
  go_wp2_with fail
  refine HPL.out.mono ?_
  rintro e w1 ⟨rfl, hb1⟩
  have HB1 := hid hb1; clear hb1
  go_wp2
  go_ret
  exact ⟨rfl, HB0.out.trans (HB1.out.mono HB0.out.size)⟩

set_option maxRecDepth 1000000 in
set_option maxHeartbeats 400000 in
theorem cutAt_nocopy {w : World} {r N : Nat} {vO vC vL : Value} {vops : Nat → Value} {cops : Nat → List COp} {cp : Nat → Nat → Value} {has : Nat → Nat → Nat} (h : isRoom w r N vO vC vL vops cops cp has) (c x1 x2 i : Int) (hc : ¬ (0 ≤ c ∧ c < N)) :
    Calls Tryz.prog 102 #[.pointer (some ⟨r, 0, none⟩), .int .i64 c, .agg #[.int .i64 x1, .int .i64 x2], .int .i64 i] w fun e w' => e = .returned (.int .i64 2) ∧ Below w.heap.size w w' := by
  have HB0 := hid ((Below.refl w.heap.size w).alloc (Nat.le_refl _) (.cells #[.int .i64 x1, .int .i64 x2] 36))
  have HPL := hid (placed_nocopy (h.keep HB0.out) c x1 x2 i 4 0 hc)
  clear h hc
  go_enter Tryz.func102, Tryz.ntmps102
  go_wp2_with fail
  refine HPL.out.mono ?_
  rintro e w1 ⟨rfl, hb1⟩
  have HB1 := hid hb1; clear hb1
  go_wp2
  go_ret
  exact ⟨rfl, HB0.out.trans (HB1.out.mono HB0.out.size)⟩

end Go.Proofs.YtnkpogjiiohapaaGreatDoor

/-! RefOwn: The reference's room with the blocks that are its own (F): what its calls leave of it, and that they leave all other blocks alone. -/
namespace Go.Proofs.YtnkpogjiiohapaaGreatDoor
open Go.RowKit

/-- What a call leaves alone that may write the blocks F alone; F': the blocks behind it. -/
structure Keeps (F F' : Nat → Prop) (w w' : World) : Prop where
  os : w'.os = w.os
  tape : w'.tape = w.tape
  output : w'.output = w.output
  size : w.heap.size ≤ w'.heap.size
  other : ∀ k, k < w.heap.size → ¬ F k → w'.heap[k]? = w.heap[k]?
  sub : ∀ k, F' k → F k ∨ w.heap.size ≤ k

theorem Keeps.of_below {F : Nat → Prop} {w w' : World} (h : Below w.heap.size w w') : Keeps F F w w' :=
  ⟨h.os, h.tape, h.output, h.size, fun k hk _ => h.block k hk, fun _ h => .inl h⟩

/-- The room with all that it is made of. -/
structure RefAt (w : World) (r : Nat) (F : Nat → Prop) (N : Nat) (P : Nat → List POp) (has : Nat → Nat → Nat) (vO vC vL : Value) (vops : Nat → Value) (cops : Nat → List COp) (cp : Nat → Nat → Value) : Prop where
  room : isRoom w r N vO vC vL vops cops cp has
  apart : Apart N vops cp
  ops : ∀ i, i < N → (cops i).map COp.p = P i
  fr : F r
  fO : ∀ k, vO.ownBlock = some k → F k
  fC : ∀ k, vC.ownBlock = some k → F k
  fops : ∀ i, i < N → ∀ k, (vops i).ownBlock = some k → F k
  fcp : ∀ c, c < N → ∀ k, (cp c 0).ownBlock = some k → F k
  fold : ∀ i, i < N → ∀ o ∈ cops i, ∀ k, o.vold.ownBlock = some k → F k
  lt : ∀ k, F k → k < w.heap.size

def isRef (w : World) (r : Nat) (F : Nat → Prop) (N : Nat) (P : Nat → List POp) (has : Nat → Nat → Nat) : Prop := ∃ vO vC vL vops cops cp, RefAt w r F N P has vO vC vL vops cops cp

section
theorem isRef.lt {w : World} {r N : Nat} {F : Nat → Prop} {P : Nat → List POp} {has : Nat → Nat → Nat} (h : isRef w r F N P has) : ∀ k, F k → k < w.heap.size := by obtain ⟨_, _, _, _, _, _, h⟩ := h; exact h.lt
theorem isRef.hN {w : World} {r N : Nat} {F : Nat → Prop} {P : Nat → List POp} {has : Nat → Nat → Nat} (h : isRef w r F N P has) : N ≤ 4 := by obtain ⟨_, _, _, _, _, _, h⟩ := h; exact h.room.hN
theorem isRef.len {w : World} {r N : Nat} {F : Nat → Prop} {P : Nat → List POp} {has : Nat → Nat → Nat} (h : isRef w r F N P has) {i : Nat} (hi : i < N) : (P i).length ≤ 60 := by
  obtain ⟨_, _, _, _, _, _, h⟩ := h
  have := h.room.hsz i hi
  rw [← h.ops i hi, List.length_map]; exact this
/-- Where its blocks stay, it stays. -/
theorem isRef.keep {w w' : World} {r N : Nat} {F : Nat → Prop} {P : Nat → List POp} {has : Nat → Nat → Nat} (h : isRef w r F N P has) (hs : w.heap.size ≤ w'.heap.size) (hk : ∀ k, F k → w'.heap[k]? = w.heap[k]?) : isRef w' r F N P has := by
  obtain ⟨vO, vC, vL, vops, cops, cp, h⟩ := h
  refine ⟨vO, vC, vL, vops, cops, cp, ⟨?_, h.room.hN, row_blk h.room.hO (fun g hg => hk g (h.fO g hg)), fun i hi => ⟨row_blk (h.room.hops i hi).1 (fun g hg => hk g (h.fops i hi g hg)), fun o ho => row_blk ((h.room.hops i hi).2 o ho) (fun g hg => hk g (h.fold i hi o ho g hg))⟩,
    row_blk h.room.hC (fun g hg => hk g (h.fC g hg)), fun c hc => row_blk (h.room.hH c hc) (fun g hg => hk g (h.fcp c hc g hg)), h.room.hle, h.room.hsz⟩, h.apart, h.ops, h.fr, h.fO, h.fC, h.fops, h.fcp, h.fold, fun k hk' => Nat.lt_of_lt_of_le (h.lt k hk') hs⟩
  rw [hk r h.fr]; exact h.room.hr
theorem isRef.below {w w' : World} {r N : Nat} {F : Nat → Prop} {P : Nat → List POp} {has : Nat → Nat → Nat} (h : isRef w r F N P has) (hb : Below w.heap.size w w') : isRef w' r F N P has :=
  h.keep hb.size fun k hk => hb.block k (h.lt k hk)

/-- What is asked of copy c's operations: S are those that it has, sorted; it has all of its own; their counters are small. -/
structure Own (N : Nat) (P : Nat → List POp) (has : Nat → Nat → Nat) (c : Nat) (S : List POp) : Prop where
  hc : c < N
  perm : S.Perm ((List.range N).flatMap fun i => (P i).take (has c i))
  sort : Sorted S
  all : has c c = (P c).length
  cnt : ∀ p ∈ S, p.id.1 ≤ 1000

theorem Own.top {N : Nat} {P : Nat → List POp} {has : Nat → Nat → Nat} {c : Nat} {S : List POp} (h : Own N P has c S) : topP S < 900000 := by
  obtain ⟨_, _, h3⟩ := topP_spec S
  rcases h3 with h3 | ⟨p, hp, h3⟩
  · omega
  · have := h.cnt p hp; omega

theorem RefAt.perm {w : World} {r N : Nat} {F : Nat → Prop} {P : Nat → List POp} {has : Nat → Nat → Nat} {vO vC vL : Value} {vops : Nat → Value} {cops : Nat → List COp} {cp : Nat → Nat → Value} (h : RefAt w r F N P has vO vC vL vops cops cp) (f : Nat → Nat) : (hasOps cops f N).map COp.p = (List.range N).flatMap fun i => (P i).take (f i) := by
  unfold hasOps
  rw [List.map_flatMap]
  have : ∀ k, k ≤ N → ((List.range k).flatMap fun i => ((cops i).take (f i)).map COp.p) = (List.range k).flatMap fun i => (P i).take (f i) := by
    intro k hk
    induction k with
    | zero => rfl
    | succ k ih =>
      rw [List.range_succ, List.flatMap_append, List.flatMap_append, ih (by omega)]
      simp [h.ops k (by omega), List.map_take]
  exact this N (Nat.le_refl _)

theorem RefAt.writable {w : World} {r N : Nat} {F : Nat → Prop} {P : Nat → List POp} {has : Nat → Nat → Nat} {vO vC vL : Value} {vops : Nat → Value} {cops : Nat → List COp} {cp : Nat → Nat → Value} (h : RefAt w r F N P has vO vC vL vops cops cp) {c : Nat} {S : List POp} (ho : Own N P has c S) : Writable w r N vO vC vL vops cops cp has c S :=
  { room := h.room, hc := ho.hc, perm := by rw [h.perm]; exact ho.perm, sort := ho.sort, apart := h.apart
    all := by rw [ho.all, ← h.ops c ho.hc, List.length_map]
    cnt := fun o hm => by
      have hp : o.p ∈ S := by
        refine ho.perm.mem_iff.2 ?_
        rw [← h.perm (has c)]
        exact List.mem_map.2 ⟨o, hm, rfl⟩
      have := ho.cnt _ hp
      omega }

/-- Written: the room has these operations more. -/
theorem RefAt.wrote {w w' : World} {r N : Nat} {F : Nat → Prop} {P : Nat → List POp} {has : Nat → Nat → Nat} {vO vC vL : Value} {vops vops' : Nat → Value} {cops cops' : Nat → List COp} {cp : Nat → Nat → Value} {has' : Nat → Nat → Nat} {c : Nat} {S : List POp} {l : List COp} (h : RefAt w r F N P has vO vC vL vops cops cp) (ho : Own N P has c S) (hw : Wrote w w' r N vO vC vL vops cops cp has c S l vops' cops' has') :
    ∃ F', isRef w' r F' N (upd P c (P c ++ l.map COp.p)) (fun d i => if d = c ∧ i = c then (P c ++ l.map COp.p).length else has d i) ∧ Keeps F F' w w' := by
  have hh : has' = fun d i => if d = c ∧ i = c then (P c ++ l.map COp.p).length else has d i := by
    rw [hw.hs]
    funext d i
    by_cases e : d = c ∧ i = c
    · simp [e, ho.all]
    · simp only [e, if_false]
  refine ⟨fun k => F k ∨ (w.heap.size ≤ k ∧ k < w'.heap.size), ⟨vO, vC, vL, vops', cops', cp, by rw [← hh]; exact hw.wr.room, hw.wr.apart, ?_, .inl h.fr, fun k hk => .inl (h.fO k hk), fun k hk => .inl (h.fC k hk), ?_, fun d hd k hk => .inl (h.fcp d hd k hk), ?_, ?_⟩, hw.os, hw.tape, hw.output, hw.size, ?_, fun k hk => hk.imp id (·.1)⟩
  · intro i hi
    rw [hw.ops]
    by_cases e : i = c
    · subst e; rw [upd_same, upd_same, List.map_append, h.ops i hi]
    · rw [upd_ne _ _ e, upd_ne _ _ e, h.ops i hi]
  · intro i hi k hk
    by_cases e : i = c
    · subst e
      rcases hw.new with hn | hn
      · exact .inl (h.fops i hi k (by rw [← hn]; exact hk))
      · exact .inr ⟨hn k hk, (World.ownsRow.lt (hw.wr.room.hops i hi).1 k hk).2⟩
    · rw [hw.vs i e] at hk
      exact .inl (h.fops i hi k hk)
  · intro i hi o hm k hk
    have hm' := hm
    rw [hw.ops] at hm'
    by_cases e : i = c
    · subst e
      rw [upd_same] at hm'
      rcases List.mem_append.1 hm' with hm' | hm'
      · exact .inl (h.fold i hi o hm' k hk)
      · exact .inr ⟨hw.olds o hm' k hk, (World.ownsRow.lt ((hw.wr.room.hops i hi).2 o hm) k hk).2⟩
    · rw [upd_ne _ _ e] at hm'
      exact .inl (h.fold i hi o hm' k hk)
  · intro k hk
    rcases hk with hk | hk
    · exact Nat.lt_of_lt_of_le (h.lt k hk) hw.size
    · exact hk.2
  · intro k hk hf
    exact hw.other k hk (fun e => hf (h.fO k e.symm)) (fun e => hf (h.fcp c ho.hc k e.symm)) (fun e => hf (h.fops c ho.hc k e.symm))
end

/-- What a call that writes leaves, by its plan. -/
def WroteRef (F : Nat → Prop) (N : Nat) (P : Nat → List POp) (has : Nat → Nat → Nat) (c : Nat) (r : Nat) (w w' : World) (ps : List POp) : Prop :=
  ∃ F', isRef w' r F' N (upd P c (P c ++ ps)) (fun d i => if d = c ∧ i = c then (P c ++ ps).length else has d i) ∧ Keeps F F' w w'
/-- What a call that writes nothing leaves. -/
def LeftRef (F : Nat → Prop) (N : Nat) (P : Nat → List POp) (has : Nat → Nat → Nat) (r : Nat) (w w' : World) : Prop := isRef w' r F N P has ∧ Keeps F F w w'
theorem LeftRef.of_below {w w' : World} {r N : Nat} {F : Nat → Prop} {P : Nat → List POp} {has : Nat → Nat → Nat} (h : isRef w r F N P has) (hb : Below w.heap.size w w') : LeftRef F N P has r w w' := ⟨h.below hb, Keeps.of_below hb⟩

section
theorem ref_put {w : World} {r N : Nat} {F : Nat → Prop} {P : Nat → List POp} {has : Nat → Nat → Nat} (h : isRef w r F N P has) {c : Nat} {S : List POp} (ho : Own N P has c S) (x1 x2 n : Int) (key : ByteArray) (hks : key.size ≤ maxLen) :
    Calls Tryz.prog 94 #[.pointer (some ⟨r, 0, none⟩), .int .i64 c, .agg #[.int .i64 x1, .int .i64 x2], .string key, .int .i64 n] w fun e w' =>
      (∃ m, putPl (S.foldl doesP rootP) (topP S) (P c).length c (x1, x2) key n = .error m ∧ e = .returned (.int .i64 m) ∧ LeftRef F N P has r w w') ∨
      (∃ ps, putPl (S.foldl doesP rootP) (topP S) (P c).length c (x1, x2) key n = .ok ps ∧ e = .returned (.int .i64 0) ∧ WroteRef F N P has c r w w' ps) := by
  obtain ⟨vO, vC, vL, vops, cops, cp, hr⟩ := h
  have hl : (cops c).length = (P c).length := by rw [← hr.ops c ho.hc, List.length_map]
  rw [← hl]
  refine (put_any (hr.writable ho) ho.top x1 x2 n key hks).mono fun e w' hh => ?_
  rcases hh with ⟨m, h1, h2, h3⟩ | ⟨ps, h1, h2, l, vops', cops', has', rfl, hw⟩
  · exact .inl ⟨m, h1, h2, .of_below ⟨_, _, _, _, _, _, hr⟩ h3⟩
  · exact .inr ⟨_, h1, h2, hr.wrote ho hw⟩

theorem ref_nest {w : World} {r N : Nat} {F : Nat → Prop} {P : Nat → List POp} {has : Nat → Nat → Nat} (h : isRef w r F N P has) {c : Nat} {S : List POp} (ho : Own N P has c S) (x1 x2 : Int) (key : ByteArray) (hks : key.size ≤ maxLen) (lst : Bool) :
    Calls Tryz.prog 95 #[.pointer (some ⟨r, 0, none⟩), .int .i64 c, .agg #[.int .i64 x1, .int .i64 x2], .string key, .bool lst] w fun e w' =>
      (∃ m, nestPl (S.foldl doesP rootP) (topP S) (P c).length c (x1, x2) key lst = .error m ∧ e = .returned (.tuple #[.agg #[.int .i64 0, .int .i64 0], .int .i64 m]) ∧ LeftRef F N P has r w w') ∨
      (∃ ps, nestPl (S.foldl doesP rootP) (topP S) (P c).length c (x1, x2) key lst = .ok ps ∧ e = .returned (.tuple #[.agg #[.int .i64 (topP S + 1), .int .i64 c], .int .i64 0]) ∧ WroteRef F N P has c r w w' ps) := by
  obtain ⟨vO, vC, vL, vops, cops, cp, hr⟩ := h
  have hl : (cops c).length = (P c).length := by rw [← hr.ops c ho.hc, List.length_map]
  rw [← hl]
  refine (nest_any (hr.writable ho) ho.top x1 x2 key hks lst).mono fun e w' hh => ?_
  rcases hh with ⟨m, h1, h2, h3⟩ | ⟨ps, h1, h2, l, vops', cops', has', rfl, hw⟩
  · exact .inl ⟨m, h1, h2, .of_below ⟨_, _, _, _, _, _, hr⟩ h3⟩
  · exact .inr ⟨_, h1, h2, hr.wrote ho hw⟩

theorem ref_cut {w : World} {r N : Nat} {F : Nat → Prop} {P : Nat → List POp} {has : Nat → Nat → Nat} (h : isRef w r F N P has) {c : Nat} {S : List POp} (ho : Own N P has c S) (x1 x2 : Int) (key : ByteArray) (hks : key.size ≤ maxLen) :
    Calls Tryz.prog 97 #[.pointer (some ⟨r, 0, none⟩), .int .i64 c, .agg #[.int .i64 x1, .int .i64 x2], .string key] w fun e w' =>
      (∃ m, cutPl (S.foldl doesP rootP) (topP S) (P c).length c (x1, x2) key = .error m ∧ e = .returned (.int .i64 m) ∧ LeftRef F N P has r w w') ∨
      (∃ ps, cutPl (S.foldl doesP rootP) (topP S) (P c).length c (x1, x2) key = .ok ps ∧ e = .returned (.int .i64 0) ∧ WroteRef F N P has c r w w' ps) := by
  obtain ⟨vO, vC, vL, vops, cops, cp, hr⟩ := h
  have hl : (cops c).length = (P c).length := by rw [← hr.ops c ho.hc, List.length_map]
  rw [← hl]
  refine (cut_any (hr.writable ho) ho.top x1 x2 key hks).mono fun e w' hh => ?_
  rcases hh with ⟨m, h1, h2, h3⟩ | ⟨ps, h1, h2, l, vops', cops', has', rfl, hw⟩
  · exact .inl ⟨m, h1, h2, .of_below ⟨_, _, _, _, _, _, hr⟩ h3⟩
  · exact .inr ⟨_, h1, h2, hr.wrote ho hw⟩

theorem ref_insert {w : World} {r N : Nat} {F : Nat → Prop} {P : Nat → List POp} {has : Nat → Nat → Nat} (h : isRef w r F N P has) {c : Nat} {S : List POp} (ho : Own N P has c S) (x1 x2 i n : Int) :
    Calls Tryz.prog 98 #[.pointer (some ⟨r, 0, none⟩), .int .i64 c, .agg #[.int .i64 x1, .int .i64 x2], .int .i64 i, .int .i64 n] w fun e w' =>
      (∃ m, insertPl (S.foldl doesP rootP) (topP S) (P c).length c (x1, x2) i n = .error m ∧ e = .returned (.tuple #[.agg #[.int .i64 0, .int .i64 0], .int .i64 m]) ∧ LeftRef F N P has r w w') ∨
      (∃ ps, insertPl (S.foldl doesP rootP) (topP S) (P c).length c (x1, x2) i n = .ok ps ∧ e = .returned (.tuple #[.agg #[.int .i64 (topP S + 1), .int .i64 c], .int .i64 0]) ∧ WroteRef F N P has c r w w' ps) := by
  obtain ⟨vO, vC, vL, vops, cops, cp, hr⟩ := h
  have hl : (cops c).length = (P c).length := by rw [← hr.ops c ho.hc, List.length_map]
  rw [← hl]
  refine (insert_any (hr.writable ho) ho.top x1 x2 i n).mono fun e w' hh => ?_
  rcases hh with ⟨m, h1, h2, h3⟩ | ⟨ps, h1, h2, l, vops', cops', has', rfl, hw⟩
  · exact .inl ⟨m, h1, h2, .of_below ⟨_, _, _, _, _, _, hr⟩ h3⟩
  · exact .inr ⟨_, h1, h2, hr.wrote ho hw⟩

theorem ref_nestAt {w : World} {r N : Nat} {F : Nat → Prop} {P : Nat → List POp} {has : Nat → Nat → Nat} (h : isRef w r F N P has) {c : Nat} {S : List POp} (ho : Own N P has c S) (x1 x2 i : Int) (lst : Bool) :
    Calls Tryz.prog 100 #[.pointer (some ⟨r, 0, none⟩), .int .i64 c, .agg #[.int .i64 x1, .int .i64 x2], .int .i64 i, .bool lst] w fun e w' =>
      (∃ m, nestAtPl (S.foldl doesP rootP) (topP S) (P c).length c (x1, x2) i lst = .error m ∧ e = .returned (.tuple #[.agg #[.int .i64 0, .int .i64 0], .int .i64 m]) ∧ LeftRef F N P has r w w') ∨
      (∃ ps, nestAtPl (S.foldl doesP rootP) (topP S) (P c).length c (x1, x2) i lst = .ok ps ∧ e = .returned (.tuple #[.agg #[.int .i64 (topP S + 1), .int .i64 c], .int .i64 0]) ∧ WroteRef F N P has c r w w' ps) := by
  obtain ⟨vO, vC, vL, vops, cops, cp, hr⟩ := h
  have hl : (cops c).length = (P c).length := by rw [← hr.ops c ho.hc, List.length_map]
  rw [← hl]
  refine (nestAt_any (hr.writable ho) ho.top x1 x2 i lst).mono fun e w' hh => ?_
  rcases hh with ⟨m, h1, h2, h3⟩ | ⟨ps, h1, h2, l, vops', cops', has', rfl, hw⟩
  · exact .inl ⟨m, h1, h2, .of_below ⟨_, _, _, _, _, _, hr⟩ h3⟩
  · exact .inr ⟨_, h1, h2, hr.wrote ho hw⟩

theorem ref_setAt {w : World} {r N : Nat} {F : Nat → Prop} {P : Nat → List POp} {has : Nat → Nat → Nat} (h : isRef w r F N P has) {c : Nat} {S : List POp} (ho : Own N P has c S) (x1 x2 i n : Int) :
    Calls Tryz.prog 101 #[.pointer (some ⟨r, 0, none⟩), .int .i64 c, .agg #[.int .i64 x1, .int .i64 x2], .int .i64 i, .int .i64 n] w fun e w' =>
      (∃ m, placedPl (S.foldl doesP rootP) (topP S) (P c).length c (x1, x2) i 3 n = .error m ∧ e = .returned (.int .i64 m) ∧ LeftRef F N P has r w w') ∨
      (∃ ps, placedPl (S.foldl doesP rootP) (topP S) (P c).length c (x1, x2) i 3 n = .ok ps ∧ e = .returned (.int .i64 0) ∧ WroteRef F N P has c r w w' ps) := by
  obtain ⟨vO, vC, vL, vops, cops, cp, hr⟩ := h
  have hl : (cops c).length = (P c).length := by rw [← hr.ops c ho.hc, List.length_map]
  rw [← hl]
  refine (setAt_any (hr.writable ho) ho.top x1 x2 i n).mono fun e w' hh => ?_
  rcases hh with ⟨m, h1, h2, h3⟩ | ⟨ps, h1, h2, l, vops', cops', has', rfl, hw⟩
  · exact .inl ⟨m, h1, h2, .of_below ⟨_, _, _, _, _, _, hr⟩ h3⟩
  · exact .inr ⟨_, h1, h2, hr.wrote ho hw⟩

theorem ref_cutAt {w : World} {r N : Nat} {F : Nat → Prop} {P : Nat → List POp} {has : Nat → Nat → Nat} (h : isRef w r F N P has) {c : Nat} {S : List POp} (ho : Own N P has c S) (x1 x2 i : Int) :
    Calls Tryz.prog 102 #[.pointer (some ⟨r, 0, none⟩), .int .i64 c, .agg #[.int .i64 x1, .int .i64 x2], .int .i64 i] w fun e w' =>
      (∃ m, placedPl (S.foldl doesP rootP) (topP S) (P c).length c (x1, x2) i 4 0 = .error m ∧ e = .returned (.int .i64 m) ∧ LeftRef F N P has r w w') ∨
      (∃ ps, placedPl (S.foldl doesP rootP) (topP S) (P c).length c (x1, x2) i 4 0 = .ok ps ∧ e = .returned (.int .i64 0) ∧ WroteRef F N P has c r w w' ps) := by
  obtain ⟨vO, vC, vL, vops, cops, cp, hr⟩ := h
  have hl : (cops c).length = (P c).length := by rw [← hr.ops c ho.hc, List.length_map]
  rw [← hl]
  refine (cutAt_any (hr.writable ho) ho.top x1 x2 i).mono fun e w' hh => ?_
  rcases hh with ⟨m, h1, h2, h3⟩ | ⟨ps, h1, h2, l, vops', cops', has', rfl, hw⟩
  · exact .inl ⟨m, h1, h2, .of_below ⟨_, _, _, _, _, _, hr⟩ h3⟩
  · exact .inr ⟨_, h1, h2, hr.wrote ho hw⟩

theorem ref_put_no {w : World} {r N : Nat} {F : Nat → Prop} {P : Nat → List POp} {has : Nat → Nat → Nat} (h : isRef w r F N P has) (c x1 x2 n : Int) (key : ByteArray) (hc : ¬ (0 ≤ c ∧ c < N)) :
    Calls Tryz.prog 94 #[.pointer (some ⟨r, 0, none⟩), .int .i64 c, .agg #[.int .i64 x1, .int .i64 x2], .string key, .int .i64 n] w fun e w' => e = .returned (.int .i64 2) ∧ LeftRef F N P has r w w' := by
  obtain ⟨vO, vC, vL, vops, cops, cp, hr⟩ := h
  exact (put_nocopy hr.room c x1 x2 n key hc).mono fun e w' hh => ⟨hh.1, .of_below ⟨_, _, _, _, _, _, hr⟩ hh.2⟩

theorem ref_nest_no {w : World} {r N : Nat} {F : Nat → Prop} {P : Nat → List POp} {has : Nat → Nat → Nat} (h : isRef w r F N P has) (c x1 x2 : Int) (key : ByteArray) (lst : Bool) (hc : ¬ (0 ≤ c ∧ c < N)) :
    Calls Tryz.prog 95 #[.pointer (some ⟨r, 0, none⟩), .int .i64 c, .agg #[.int .i64 x1, .int .i64 x2], .string key, .bool lst] w fun e w' => e = .returned (.tuple #[.agg #[.int .i64 0, .int .i64 0], .int .i64 2]) ∧ LeftRef F N P has r w w' := by
  obtain ⟨vO, vC, vL, vops, cops, cp, hr⟩ := h
  exact (nest_nocopy hr.room c x1 x2 key lst hc).mono fun e w' hh => ⟨hh.1, .of_below ⟨_, _, _, _, _, _, hr⟩ hh.2⟩

theorem ref_cut_no {w : World} {r N : Nat} {F : Nat → Prop} {P : Nat → List POp} {has : Nat → Nat → Nat} (h : isRef w r F N P has) (c x1 x2 : Int) (key : ByteArray) (hc : ¬ (0 ≤ c ∧ c < N)) :
    Calls Tryz.prog 97 #[.pointer (some ⟨r, 0, none⟩), .int .i64 c, .agg #[.int .i64 x1, .int .i64 x2], .string key] w fun e w' => e = .returned (.int .i64 2) ∧ LeftRef F N P has r w w' := by
  obtain ⟨vO, vC, vL, vops, cops, cp, hr⟩ := h
  exact (cut_nocopy hr.room c x1 x2 key hc).mono fun e w' hh => ⟨hh.1, .of_below ⟨_, _, _, _, _, _, hr⟩ hh.2⟩

theorem ref_insert_no {w : World} {r N : Nat} {F : Nat → Prop} {P : Nat → List POp} {has : Nat → Nat → Nat} (h : isRef w r F N P has) (c x1 x2 i n : Int) (hc : ¬ (0 ≤ c ∧ c < N)) :
    Calls Tryz.prog 98 #[.pointer (some ⟨r, 0, none⟩), .int .i64 c, .agg #[.int .i64 x1, .int .i64 x2], .int .i64 i, .int .i64 n] w fun e w' => e = .returned (.tuple #[.agg #[.int .i64 0, .int .i64 0], .int .i64 2]) ∧ LeftRef F N P has r w w' := by
  obtain ⟨vO, vC, vL, vops, cops, cp, hr⟩ := h
  exact (insert_nocopy hr.room c x1 x2 i n hc).mono fun e w' hh => ⟨hh.1, .of_below ⟨_, _, _, _, _, _, hr⟩ hh.2⟩

theorem ref_nestAt_no {w : World} {r N : Nat} {F : Nat → Prop} {P : Nat → List POp} {has : Nat → Nat → Nat} (h : isRef w r F N P has) (c x1 x2 i : Int) (lst : Bool) (hc : ¬ (0 ≤ c ∧ c < N)) :
    Calls Tryz.prog 100 #[.pointer (some ⟨r, 0, none⟩), .int .i64 c, .agg #[.int .i64 x1, .int .i64 x2], .int .i64 i, .bool lst] w fun e w' => e = .returned (.tuple #[.agg #[.int .i64 0, .int .i64 0], .int .i64 2]) ∧ LeftRef F N P has r w w' := by
  obtain ⟨vO, vC, vL, vops, cops, cp, hr⟩ := h
  exact (nestAt_nocopy hr.room c x1 x2 i lst hc).mono fun e w' hh => ⟨hh.1, .of_below ⟨_, _, _, _, _, _, hr⟩ hh.2⟩

theorem ref_setAt_no {w : World} {r N : Nat} {F : Nat → Prop} {P : Nat → List POp} {has : Nat → Nat → Nat} (h : isRef w r F N P has) (c x1 x2 i n : Int) (hc : ¬ (0 ≤ c ∧ c < N)) :
    Calls Tryz.prog 101 #[.pointer (some ⟨r, 0, none⟩), .int .i64 c, .agg #[.int .i64 x1, .int .i64 x2], .int .i64 i, .int .i64 n] w fun e w' => e = .returned (.int .i64 2) ∧ LeftRef F N P has r w w' := by
  obtain ⟨vO, vC, vL, vops, cops, cp, hr⟩ := h
  exact (setAt_nocopy hr.room c x1 x2 i n hc).mono fun e w' hh => ⟨hh.1, .of_below ⟨_, _, _, _, _, _, hr⟩ hh.2⟩

theorem ref_cutAt_no {w : World} {r N : Nat} {F : Nat → Prop} {P : Nat → List POp} {has : Nat → Nat → Nat} (h : isRef w r F N P has) (c x1 x2 i : Int) (hc : ¬ (0 ≤ c ∧ c < N)) :
    Calls Tryz.prog 102 #[.pointer (some ⟨r, 0, none⟩), .int .i64 c, .agg #[.int .i64 x1, .int .i64 x2], .int .i64 i] w fun e w' => e = .returned (.int .i64 2) ∧ LeftRef F N P has r w w' := by
  obtain ⟨vO, vC, vL, vops, cops, cp, hr⟩ := h
  exact (cutAt_nocopy hr.room c x1 x2 i hc).mono fun e w' hh => ⟨hh.1, .of_below ⟨_, _, _, _, _, _, hr⟩ hh.2⟩

theorem ref_elements_no {w : World} {r N : Nat} {F : Nat → Prop} {P : Nat → List POp} {has : Nat → Nat → Nat} (h : isRef w r F N P has) (c x1 x2 : Int) (hc : ¬ (0 ≤ c ∧ c < N)) :
    Calls Tryz.prog 104 #[.pointer (some ⟨r, 0, none⟩), .int .i64 c, .agg #[.int .i64 x1, .int .i64 x2]] w fun e w' => e = .returned (.tuple #[.slice none 0 0, .int .i64 2]) ∧ LeftRef F N P has r w w' := by
  obtain ⟨vO, vC, vL, vops, cops, cp, hr⟩ := h
  exact (elements_nocopy hr.room c x1 x2 hc).mono fun e w' hh => ⟨hh.1, .of_below ⟨_, _, _, _, _, _, hr⟩ hh.2⟩

theorem ref_values_no {w : World} {r N : Nat} {F : Nat → Prop} {P : Nat → List POp} {has : Nat → Nat → Nat} (h : isRef w r F N P has) (c x1 x2 : Int) (key : ByteArray) (hc : ¬ (0 ≤ c ∧ c < N)) :
    Calls Tryz.prog 107 #[.pointer (some ⟨r, 0, none⟩), .int .i64 c, .agg #[.int .i64 x1, .int .i64 x2], .string key] w fun e w' => e = .returned (.tuple #[.slice none 0 0, .int .i64 2]) ∧ LeftRef F N P has r w w' := by
  obtain ⟨vO, vC, vL, vops, cops, cp, hr⟩ := h
  exact (values_nocopy hr.room c x1 x2 key hc).mono fun e w' hh => ⟨hh.1, .of_below ⟨_, _, _, _, _, _, hr⟩ hh.2⟩

theorem ref_show_no {w : World} {r N : Nat} {F : Nat → Prop} {P : Nat → List POp} {has : Nat → Nat → Nat} (h : isRef w r F N P has) (c : Int) (hc : ¬ (0 ≤ c ∧ c < N)) :
    Calls Tryz.prog 103 #[.pointer (some ⟨r, 0, none⟩), .int .i64 c] w fun e w' => e = .returned (.tuple #[.string ⟨#[]⟩, .int .i64 2]) ∧ LeftRef F N P has r w w' := by
  obtain ⟨vO, vC, vL, vops, cops, cp, hr⟩ := h
  exact (show_nocopy hr.room c hc).mono fun e w' hh => ⟨hh.1, .of_below ⟨_, _, _, _, _, _, hr⟩ hh.2⟩

theorem ref_show {w : World} {r N : Nat} {F : Nat → Prop} {P : Nat → List POp} {has : Nat → Nat → Nat} (h : isRef w r F N P has) {c : Nat} {S : List POp} (ho : Own N P has c S) (hok : TextOk (S.foldl doesP rootP)) :
    Calls Tryz.prog 103 #[.pointer (some ⟨r, 0, none⟩), .int .i64 c] w fun e w' => e = .returned (.tuple #[.string (textP (S.foldl doesP rootP) 4 (0, 0)), .int .i64 0]) ∧ LeftRef F N P has r w w' := by
  obtain ⟨vO, vC, vL, vops, cops, cp, hr⟩ := h
  exact (show_any (hr.writable ho).toShown hok).mono fun e w' hh => ⟨hh.1, .of_below ⟨_, _, _, _, _, _, hr⟩ hh.2⟩

theorem ref_elements {w : World} {r N : Nat} {F : Nat → Prop} {P : Nat → List POp} {has : Nat → Nat → Nat} (h : isRef w r F N P has) {c : Nat} {S : List POp} (ho : Own N P has c S) (x1 x2 : Int) :
    Calls Tryz.prog 104 #[.pointer (some ⟨r, 0, none⟩), .int .i64 c, .agg #[.int .i64 x1, .int .i64 x2]] w fun e w' =>
      Below w.heap.size w w' ∧ LeftRef F N P has r w w' ∧ ((∃ n, elementsP (S.foldl doesP rootP) (x1, x2) = .error n ∧ e = .returned (.tuple #[.slice none 0 0, .int .i64 n])) ∨
      (∃ v l, elementsP (S.foldl doesP rootP) (x1, x2) = .ok l ∧ l.length ≤ 240 ∧ e = .returned (.tuple #[v, .int .i64 0]) ∧ ownIds w.heap.size w' v l)) := by
  obtain ⟨vO, vC, vL, vops, cops, cp, hr⟩ := h
  refine (elements_any (hr.writable ho).toShown x1 x2).mono fun e w' hh => ⟨hh.1, .of_below ⟨_, _, _, _, _, _, hr⟩ hh.1, ?_⟩
  rcases hh.2 with ⟨n, _, h1, h2⟩ | h1
  · exact .inl ⟨n, h1, h2⟩
  · exact .inr h1

theorem ref_values {w : World} {r N : Nat} {F : Nat → Prop} {P : Nat → List POp} {has : Nat → Nat → Nat} (h : isRef w r F N P has) {c : Nat} {S : List POp} (ho : Own N P has c S) (x1 x2 : Int) (key : ByteArray) (hks : key.size ≤ maxLen) :
    Calls Tryz.prog 107 #[.pointer (some ⟨r, 0, none⟩), .int .i64 c, .agg #[.int .i64 x1, .int .i64 x2], .string key] w fun e w' =>
      Below w.heap.size w w' ∧ LeftRef F N P has r w w' ∧ ((∃ n, valuesAtP (S.foldl doesP rootP) (x1, x2) key = .error n ∧ e = .returned (.tuple #[.slice none 0 0, .int .i64 n])) ∨
      (∃ v l, valuesAtP (S.foldl doesP rootP) (x1, x2) key = .ok l ∧ l.length ≤ 240 ∧ e = .returned (.tuple #[v, .int .i64 0]) ∧ ownVals w.heap.size w' v l)) := by
  obtain ⟨vO, vC, vL, vops, cops, cp, hr⟩ := h
  refine (roomValues_any (hr.writable ho).toShown x1 x2 key hks).mono fun e w' hh => ⟨hh.1, .of_below ⟨_, _, _, _, _, _, hr⟩ hh.1, ?_⟩
  rcases hh.2 with ⟨n, _, h1, h2⟩ | h1
  · exact .inl ⟨n, h1, h2⟩
  · exact .inr h1
end

/-- A new room: all its blocks are new. -/
theorem NewAt.ref {w w' : World} {N r : Nat} {vO vC vL : Value} {cs : List C4} {lv : List Value} (h : NewAt w w' N r vO vC vL cs lv) (hl : cs.length = N) (hN : N ≤ 4) :
    isRef w' r (fun k => w.heap.size ≤ k ∧ k < w'.heap.size) N (fun _ => []) (fun _ _ => 0) := by
  have hget : ∀ c (hc : c < N), cs[c]? = some (cs[c]'(by omega)) := fun c hc => List.getElem?_eq_getElem (by omega)
  let cp : Nat → Nat → Value := fun c j => match cs[c]? with | some x => (match j with | 0 => x.a | 1 => x.b | 2 => x.c | _ => x.d) | none => .slice none 0 0
  have hcp : ∀ c (hc : c < N), cp c 0 = (cs[c]'(by omega)).a := fun c hc => by simp only [cp, hget c hc]
  have hrow : (List.range N).flatMap (fun c => [cp c 0, cp c 1, cp c 2, cp c 3]) = cs.flatMap c4 := by
    have : ∀ (k : Nat), k ≤ N → (List.range k).flatMap (fun c => [cp c 0, cp c 1, cp c 2, cp c 3]) = (cs.take k).flatMap c4 := by
      intro k hk
      induction k with
      | zero => simp
      | succ k ih =>
        rw [List.range_succ, List.flatMap_append, ih (by omega), List.take_succ_eq_append_getElem (by omega), List.flatMap_append]
        simp [cp, c4, hget k (by omega)]
    rw [this N (Nat.le_refl _), List.take_of_length_le (by omega)]
  refine ⟨vO, vC, vL, fun _ => .slice none 0 0, fun _ => [], cp, ⟨h.hr, hN, owns_mono h.hO (Nat.zero_le _), fun i hi => ⟨World.ownsRow_nil _ _ _ _, fun o ho => by simp at ho⟩, ?_, ?_, fun c i hc hi => Nat.zero_le _, fun i hi => by simp⟩,
    ⟨fun i j _ _ _ => .inl rfl, ?_⟩, fun i hi => rfl, ⟨h.hw, blk_lt h.hr⟩, fun k hk => World.ownsRow.lt h.hO k hk, fun k hk => World.ownsRow.lt h.hC k hk, fun i hi k hk => (by cases hk), fun c hc k hk => ?_, fun i hi o ho => (by cases ho), fun k hk => hk.2⟩
  · rw [hrow]; have := owns_mono h.hC (Nat.zero_le _); rw [hl] at this; exact this
  · intro c hc
    rw [hcp c hc]
    exact owns_mono (h.hH _ (List.getElem_mem _)) (Nat.zero_le _)
  · intro c c' hc hc' hne
    rw [hcp c hc, hcp c' hc']
    rcases Nat.lt_or_gt_of_ne hne with hlt | hlt
    · exact List.pairwise_iff_getElem.1 h.dist c c' (by omega) (by omega) hlt
    · exact (List.pairwise_iff_getElem.1 h.dist c' c (by omega) (by omega) hlt).symm
  · rw [hcp c hc] at hk
    exact World.ownsRow.lt (h.hH _ (List.getElem_mem _)) k hk

theorem ref_new (N s : Nat) (h1 : 1 ≤ N) (h2 : N ≤ 4) (h3 : 1 ≤ s) (h4 : s ≤ 50) (w : World) :
    Calls Tryz.prog 93 #[.int .i64 N, .int .i64 s] w fun e w' => Below w.heap.size w w' ∧ ∃ r, e = .returned (.tuple #[.pointer (some ⟨r, 0, none⟩), .int .i64 0]) ∧ isRef w' r (fun k => w.heap.size ≤ k ∧ k < w'.heap.size) N (fun _ => []) (fun _ _ => 0) :=
  (new_any N s h1 h2 h3 h4 w).mono fun e w' ⟨r, vO, vC, vL, cs, lv, he, hn, hl⟩ => ⟨hn.below, r, he, hn.ref hl h2⟩

end Go.Proofs.YtnkpogjiiohapaaGreatDoor
