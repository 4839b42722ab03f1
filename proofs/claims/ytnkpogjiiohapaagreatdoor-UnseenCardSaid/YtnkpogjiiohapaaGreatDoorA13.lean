/- Our own text (GHistA, GInsA, PHistE). -/
import Derived.Laws.CopyRow
import Derived.Shelf.Spec.SlicesInsert
import Derived.Lib.AppendZerosOnto
import Derived.Test.YtnkpogjiiohapaaGreatDoorA12
set_option linter.unusedSimpArgs false
set_option linter.unusedVariables false

/-! GHistA: History: the place of an operation, wherever it is. -/
namespace Go.Proofs.YtnkpogjiiohapaaGreatDoor
open Go.RowKit
attribute [local go_sem ↓] Go.wp_at_zero Go.wp_at_succ

set_option maxRecDepth 1000000 in
set_option maxHeartbeats 2000000 in
/-- The place of an operation among those of a row that is in order. -/
theorem bsearch_any {w : World} {v : Value} {l : List MOp} (h : ownMOps 0 w v l) (x : MOp) (k0 : Nat) (hk0 : k0 ≤ l.length) (hlo : ∀ i (hi : i < l.length), i < k0 → cmpI l[i].op.id x.op.id < 0) (hhi : ∀ i (hi : i < l.length), k0 ≤ i → 0 < cmpI l[i].op.id x.op.id) (hl : l.length ≤ 100000) :
    Calls Tryz.prog 210 #[v, .agg #[.int .i64 x.op.id.1, .int .i64 x.op.id.2, .int .i64 x.op.nth, .iface x.t x.v], .func (.func 211) #[] #[]] w fun e w' => e = .returned (.tuple #[.int .i64 k0, .bool false]) ∧ Below w.heap.size w w' := by
  obtain ⟨a, c, rfl, hlc, hcm, hf⟩ := owns_form h
  unfold maxLen at hcm
  have HH := hid h; clear h
  have HF := hid hf; clear hf
  have HLO := hid hlo; clear hlo
  have HHI := hid hhi; clear hhi
  have HB0 := hid ((Below.refl w.heap.size w).alloc (Nat.le_refl _) (.cells #[.int .i64 x.op.id.1, .int .i64 x.op.id.2, .int .i64 x.op.nth, .iface x.t x.v] 210))
  go_enter Tryz.func210, Tryz.ntmps210
  go_wp2_with fail
  go_loopw [9, 10] (fun i j wr => ∃ k b : Nat, k ≤ k0 ∧ k0 ≤ b ∧ b ≤ l.length ∧ i = .int .i64 k ∧ j = .int .i64 b ∧ Below (w.heap.size + 1) (w.alloc (.cells #[.int .i64 x.op.id.1, .int .i64 x.op.id.2, .int .i64 x.op.nth, .iface x.t x.v] 210)) wr) (fun i j _ => (intOf j).toNat - (intOf i).toNat)
  case atStart => exact ⟨0, l.length, Nat.zero_le _, hk0, Nat.le_refl _, rfl, rfl, Below.refl _ _⟩
  case round =>
    obtain ⟨k, b, hk, hkb, hbl, rfl, rfl, hbel⟩ := hrel
    have HBE := hid (HB0.out.trans (hbel.mono (Nat.le_succ _)))
    have hbx := boxed4 w (.int .i64 x.op.id.1) (.int .i64 x.op.id.2) (.int .i64 x.op.nth) (.iface x.t x.v) 210
    have hsz : (w.alloc (.cells #[.int .i64 x.op.id.1, .int .i64 x.op.id.2, .int .i64 x.op.nth, .iface x.t x.v] 210)).heap.size = w.heap.size + 1 := by simp
    obtain ⟨b0, b1, b2, b3⟩ := hbx
    rw [← hsz] at hbel
    replace b0 := keep hbel b0
    replace b1 := keep hbel b1
    replace b2 := keep hbel b2
    replace b3 := keep hbel b3
    rw [hsz] at hbel
    clear hsz
    have HBL := hid hbel; clear hbel
    by_cases hkl : k < b
    · obtain ⟨g, rfl⟩ := HF.out 0 (by omega)
      obtain ⟨m, hm, hml, hkm⟩ : ∃ m : Nat, ((k : Int) + (b : Int)) / 2 = (m : Int) ∧ m < b ∧ k ≤ m := ⟨(k + b) / 2, by omega, by omega, by omega⟩
      have hml' := hml
      replace hml : m < l.length := by omega
      obtain ⟨c0, c1, c2, c3⟩ := ownMOps.cells HH.out m hml
      replace c0 := keep HBE.out c0
      replace c1 := keep HBE.out c1
      replace c2 := keep HBE.out c2
      replace c3 := keep HBE.out c3
      have hm0 : (0 : Int) ≤ (m : Int) := Int.natCast_nonneg _
      have hm1 : (m : Int) < (l.length : Int) := by omega
      by_cases hmk : m < k0
      · have hneg := HLO.out m hml hmk
        go_wp2_with fail
        go_region_held3 (fun W => W.cell? ⟨g, m * 4, none⟩ = some (.int .i64 l[m].op.id.1) ∧ W.cell? ⟨g, m * 4 + 1, none⟩ = some (.int .i64 l[m].op.id.2) ∧ W.cell? ⟨g, m * 4 + 2, none⟩ = some (.int .i64 l[m].op.nth) ∧ W.cell? ⟨g, m * 4 + 3, none⟩ = some (.iface l[m].t l[m].v) ∧
            W.cell? ⟨w.heap.size, 0, none⟩ = some (.int .i64 x.op.id.1) ∧ W.cell? ⟨w.heap.size, 1, none⟩ = some (.int .i64 x.op.id.2) ∧ W.cell? ⟨w.heap.size, 2, none⟩ = some (.int .i64 x.op.nth) ∧ W.cell? ⟨w.heap.size, 3, none⟩ = some (.iface x.t x.v)) (go_keep)
          (first
            | (go_at_call 211; refine (byId_q _ _ _ _ _ _ _ _ _ _ _).mono ?_; rintro e w1 ⟨rfl, hb1⟩; have hb1' := Hid.out (below_drew_left hb1); clear hb1; have d0 := keep hb1' c0; have d1 := keep hb1' c1; have d2 := keep hb1' c2; have d3 := keep hb1' c3; have e0 := keep hb1' b0; have e1 := keep hb1' b1; have e2 := keep hb1' b2; have e3 := keep hb1' b3; have HB1 := hid hb1'; clear hb1'))
        go_wp2
        go_roundw
        case rel => exact ⟨m + 1, b, by omega, hkb, hbl, by go_num, rfl, HBL.out.trans (HB1.out.mono (Nat.le_trans (by simp) HBL.out.size))⟩
        case measure => simp [intOf]; omega
      · have hpos := HHI.out m hml (by omega)
        have hnn : ¬ (cmpI l[m].op.id x.op.id < 0) := by omega
        have hnz : 0 ≤ cmpI l[m].op.id x.op.id := by omega
        have hnb : decide (cmpI l[m].op.id x.op.id < 0) = false := by simpa using hnz
        go_wp2_with fail
        go_region_held3 (fun W => W.cell? ⟨g, m * 4, none⟩ = some (.int .i64 l[m].op.id.1) ∧ W.cell? ⟨g, m * 4 + 1, none⟩ = some (.int .i64 l[m].op.id.2) ∧ W.cell? ⟨g, m * 4 + 2, none⟩ = some (.int .i64 l[m].op.nth) ∧ W.cell? ⟨g, m * 4 + 3, none⟩ = some (.iface l[m].t l[m].v) ∧
            W.cell? ⟨w.heap.size, 0, none⟩ = some (.int .i64 x.op.id.1) ∧ W.cell? ⟨w.heap.size, 1, none⟩ = some (.int .i64 x.op.id.2) ∧ W.cell? ⟨w.heap.size, 2, none⟩ = some (.int .i64 x.op.nth) ∧ W.cell? ⟨w.heap.size, 3, none⟩ = some (.iface x.t x.v)) (go_keep)
          (first
            | (go_at_call 211; refine (byId_q _ _ _ _ _ _ _ _ _ _ _).mono ?_; rintro e w1 ⟨rfl, hb1⟩; have hb1' := Hid.out (below_drew_left hb1); clear hb1; have d0 := keep hb1' c0; have d1 := keep hb1' c1; have d2 := keep hb1' c2; have d3 := keep hb1' c3; have e0 := keep hb1' b0; have e1 := keep hb1' b1; have e2 := keep hb1' b2; have e3 := keep hb1' b3; have HB1 := hid hb1'; clear hb1'))
        go_wp2
        go_roundw
        case rel => exact ⟨k, m, hk, by omega, by omega, rfl, rfl, HBL.out.trans (HB1.out.mono (Nat.le_trans (by simp) HBL.out.size))⟩
        case measure => simp [intOf]; omega
    · obtain rfl : k = k0 := by omega
      obtain rfl : b = k := by omega
      by_cases hend : b < l.length
      · obtain ⟨g, rfl⟩ := HF.out 0 (by omega)
        obtain ⟨c0, c1, c2, c3⟩ := ownMOps.cells HH.out b hend
        replace c0 := keep HBE.out c0
        replace c1 := keep HBE.out c1
        replace c2 := keep HBE.out c2
        replace c3 := keep HBE.out c3
        have hpos := HHI.out b hend (Nat.le_refl _)
        have hne : ¬ (cmpI l[b].op.id x.op.id = 0) := by omega
        have hb0 : (0 : Int) ≤ (b : Int) := Int.natCast_nonneg _
        have hb1 : (b : Int) < (l.length : Int) := by omega
        go_wp2_with fail
        go_region_held3 (fun W => W.cell? ⟨g, b * 4, none⟩ = some (.int .i64 l[b].op.id.1) ∧ W.cell? ⟨g, b * 4 + 1, none⟩ = some (.int .i64 l[b].op.id.2) ∧ W.cell? ⟨g, b * 4 + 2, none⟩ = some (.int .i64 l[b].op.nth) ∧ W.cell? ⟨g, b * 4 + 3, none⟩ = some (.iface l[b].t l[b].v) ∧
            W.cell? ⟨w.heap.size, 0, none⟩ = some (.int .i64 x.op.id.1) ∧ W.cell? ⟨w.heap.size, 1, none⟩ = some (.int .i64 x.op.id.2) ∧ W.cell? ⟨w.heap.size, 2, none⟩ = some (.int .i64 x.op.nth) ∧ W.cell? ⟨w.heap.size, 3, none⟩ = some (.iface x.t x.v)) (go_keep)
          (first
            | (go_at_call 211; refine (byId_q _ _ _ _ _ _ _ _ _ _ _).mono ?_; rintro e w1 ⟨rfl, hb1⟩; have hb1' := Hid.out (below_drew_left hb1); clear hb1; have d0 := keep hb1' c0; have d1 := keep hb1' c1; have d2 := keep hb1' c2; have d3 := keep hb1' c3; have e0 := keep hb1' b0; have e1 := keep hb1' b1; have e2 := keep hb1' b2; have e3 := keep hb1' b3; have HB1 := hid hb1'; clear hb1'))
        go_wp2
        go_ret2
        refine ⟨?_, HBE.out.trans (HB1.out.mono HBE.out.size)⟩
        have hz : (cmpI l[b].op.id x.op.id == 0) = false := by simpa using hne
        rw [show (cmpI (l[b].op.id.1, l[b].op.id.2) (x.op.id.1, x.op.id.2) == 0) = false from hz]
        rfl
      · have hke : b = l.length := by omega
        subst hke
        go_wp2_with fail
        go_quiet (fail)
        go_wp2
        go_ret2
        all_goals exact ⟨rfl, below_drewN HBE.out _⟩

end Go.Proofs.YtnkpogjiiohapaaGreatDoor

/-! GInsA: slices.Insert in the middle of a row of operations: copy at rows of several cells. -/
namespace Go.Proofs.YtnkpogjiiohapaaGreatDoor
open Go.RowKit Go.Proofs

/-- copy, of whatever size the elements are. -/
theorem run_copy_rowK {P : Program} (w : World) (dT sT ty elem : TypeId) (g o dLen dCap : Nat) (a : Addr) (sLen sCap k : Nat) (cur : Array Value) (t : TypeId) (cs : List Value)
    (hu : P.underlying dT = some (.slice elem)) (hs : (P.info? elem).map (·.size) = some k)
    (hg : w.heap[g]? = some (.cells cur t (0, 0))) (hn : cs.length = Nat.min sLen dLen * k)
    (hsrc : ∀ j v, cs[j]? = some v → w.cell? (a.add j) = some v) (hfit : o + cs.length ≤ cur.size) (h1 : ∀ v ∈ cs, v.oneCell' = true) :
    (Builtin.copy_ #[dT, sT] ty #[.slice (some ⟨g, o, none⟩) dLen dCap, .slice (some a) sLen sCap]).run P w =
      .ok (goInt (Nat.min sLen dLen)) (w.setRow g (cur.toList.take o ++ cs ++ cur.toList.drop (o + cs.length)).toArray) := by
  have hl := run_loadCells_list (P := P) w a cs hsrc
  have hst := run_storeCells_at P g o t cs 0 cur w hg (by simpa using hfit) h1
  cases hq : P.info? elem with
  | none => simp [hq] at hs
  | some i =>
    have hi : i.size = k := by simpa [hq] using hs
    rw [hn] at hl
    simp [Builtin.copy_, run_underlying hu, Builtin.lenOf, Builtin.firstCells, sizeOf, typeInfo, hq, hi, hl, hst]

/-- What the two copies leave. -/
theorem ins_cells {cur FL X : List Value} {c n i : Nat} (hcl : cur.length = c * 4) (hcur : cur.take (n * 4) = FL) (hX : X.length = 4) (hi : i < n) (hc : n + 1 ≤ c) :
    (cur.take ((i + 1) * 4) ++ FL.drop (i * 4) ++ cur.drop ((i + 1) * 4 + (FL.drop (i * 4)).length)).length = c * 4 ∧
    ∀ A1, A1 = cur.take ((i + 1) * 4) ++ FL.drop (i * 4) ++ cur.drop ((i + 1) * 4 + (FL.drop (i * 4)).length) → (A1.take (i * 4) ++ X ++ A1.drop (i * 4 + X.length)).length = c * 4 ∧ (A1.take (i * 4) ++ X ++ A1.drop (i * 4 + X.length)).take ((n + 1) * 4) = FL.take (i * 4) ++ X ++ FL.drop (i * 4) := by
  have hFl : FL.length = n * 4 := by rw [← hcur, List.length_take]; omega
  have hdl : (FL.drop (i * 4)).length = (n - i) * 4 := by rw [List.length_drop, hFl]; omega
  have h1 : (cur.take ((i + 1) * 4)).length = i * 4 + 4 := by rw [List.length_take]; omega
  refine ⟨by simp only [List.length_append, List.length_drop, h1, hdl, hFl, hcl]; omega, fun A1 hA => ?_⟩
  have ht : A1.take (i * 4) = FL.take (i * 4) := by
    rw [hA, List.append_assoc, List.take_append_of_le_length (by omega), List.take_take, ← hcur, List.take_take]
    congr 1
    omega
  have hd : A1.drop (i * 4 + X.length) = FL.drop (i * 4) ++ cur.drop ((i + 1) * 4 + (FL.drop (i * 4)).length) := by
    rw [hA, List.append_assoc, hX, ← h1, List.drop_left]
  rw [ht, hd]
  have htl : (FL.take (i * 4)).length = i * 4 := by rw [List.length_take]; omega
  refine ⟨by simp only [List.length_append, List.length_drop, htl, hdl, hFl, hcl, hX]; omega, ?_⟩
  rw [← List.append_assoc, List.take_append_of_le_length (by simp only [List.length_append, htl, hdl, hX]; omega), List.take_of_length_le (by simp only [List.length_append, htl, hdl, hX]; omega)]

theorem ins_flat {l : List MOp} {x : MOp} {i : Nat} (hi : i < l.length) : (l.take i ++ x :: l.drop i).flatMap mopC = (l.flatMap mopC).take (i * 4) ++ mopC x ++ (l.flatMap mopC).drop (i * 4) := by
  have hh : ((l.take i).flatMap mopC).length = i * 4 := by rw [flat_len mopC 4 (fun _ => rfl), List.length_take]; omega
  have e0 : l.flatMap mopC = (l.take i).flatMap mopC ++ (l.drop i).flatMap mopC := by rw [← List.flatMap_append, List.take_append_drop]
  have e1 : (l.take i).flatMap mopC = (l.flatMap mopC).take (i * 4) := by rw [e0, ← hh, List.take_left]
  have e2 : (l.drop i).flatMap mopC = (l.flatMap mopC).drop (i * 4) := by rw [e0, ← hh, List.drop_left]
  rw [List.flatMap_append, List.flatMap_cons, e1, e2, List.append_assoc]
theorem size_op : (Tryz.prog.info? 210).map (·.size) = some 4 := by kernel_rfl
theorem sizeOf_op (w : World) : (Go.sizeOf 210).run Tryz.prog w = .ok 4 w := by
  have h := size_op
  cases hq : Tryz.prog.info? 210 with
  | none => rw [hq] at h; cases h
  | some i =>
    rw [hq] at h
    have hi : i.size = 4 := by simpa using h
    simp [sizeOf, typeInfo, hq, hi]

set_option maxRecDepth 1000000 in
set_option maxHeartbeats 4000000 in
/-- There is room: in place. -/
theorem insert_shift {w : World} {b c : Nat} {l : List MOp} {cur : Array Value} (hb : w.heap[b]? = some (.cells cur 210 (0, 0))) (hsz : cur.size = c * 4) (hcur : cur.toList.take (l.length * 4) = l.flatMap mopC) (hc : l.length + 1 ≤ c) (hcm : c ≤ 9223372036854775807) (x : MOp) (g : Nat) (hgb : w.heap[g]? = some (.cells (mopC x).toArray 210 (0, 0))) (hne : g ≠ b) (i : Nat) (hi : i < l.length) (hl : l.length ≤ 100000) :
    Calls Tryz.prog 212 #[.slice (some ⟨b, 0, none⟩) l.length c, .int .i64 i, .slice (some ⟨g, 0, none⟩) 1 1] w fun e w' => e = .returned (.slice (some ⟨b, 0, none⟩) (l.length + 1) c) ∧ ownMOps 0 w' (.slice (some ⟨b, 0, none⟩) (l.length + 1) c) (l.take i ++ x :: l.drop i) ∧ Turned (fun k => k = b) w w' := by
  have hov : ∀ lb cb, (callFunc 233 #[.slice (some ⟨g, 0, none⟩) 1 1, .slice (some ⟨b, (i + 1) * 4, none⟩) lb cb]).run Tryz.prog w = .ok (.value (.bool false)) w := fun lb cb => by
    rw [run_callFunc_extern Tryz.func233 (by kernel_rfl) (by kernel_rfl) (by kernel_rfl) (e := Extern.SlicesOverlaps.overlaps #[202, 202] #[4]) (by kernel_rfl),
      Lib.run_overlaps_apart w 202 4 210 Tryz.underlying202 4 sizeOf_op ⟨g, 0, none⟩ ⟨b, (i + 1) * 4, none⟩ 1 1 lb cb hne 210 210 4 (c * 4) (by simp [World.shape?, hgb, mopC]) (by simp [World.shape?, hb, hsz]) (by omega) (by simp [World.frozen?, hgb]) (by simp [World.frozen?, hgb])]
    rfl
  have hz2 : ¬ ((i : Int) = (l.length : Int)) := by omega
  have hw1 : IntKind.i64.wrap ((i : Int) + 1) = (i : Int) + 1 := Go.IntWalk.i64_in _ (by omega)
  have hin : i ≤ l.length := by omega
  have htn : ((i : Int) + 1).toNat = i + 1 := by omega
  have hb2 : ¬ (c = i + 1) := by omega
  have hb3 : (i : Int) ≤ (l.length : Int) + 1 := by omega
  have hb4 : ¬ (c = i) := by omega
  have hb5 : ¬ ((c : Int) < (l.length : Int) + 1) := by omega
  have hi0 : (0 : Int) ≤ (i : Int) := Int.natCast_nonneg _
  have hb1 : (0 : Int) ≤ (i : Int) + 1 := by omega
  have mixed : Tryz.prog.follows .mixedOrders = true := by kernel_rfl
  have hi1 : (i : Int) ≤ (l.length : Int) := by omega
  have hfl : (l.flatMap mopC).length = l.length * 4 := flat_len mopC 4 (fun _ => rfl) l
  have hcl : cur.toList.length = c * 4 := by simpa using hsz
  have hcell : ∀ j v, (l.flatMap mopC)[j]? = some v → w.cell? ⟨b, j, none⟩ = some v := fun j v hj => by
    rw [cell_of_row w b j cur 210 (0, 0) hb]
    rw [← hcur, List.getElem?_take] at hj
    split at hj
    · simpa using hj
    · cases hj
  have h1c : ∀ v ∈ l.flatMap mopC, v.oneCell' = true := fun v hv => by
    obtain ⟨o, _, ho⟩ := List.mem_flatMap.1 hv
    exact wf_mop o v ho
  obtain ⟨A1, hA1⟩ : ∃ A1, A1 = (cur.toList.take ((i + 1) * 4) ++ (l.flatMap mopC).drop (i * 4) ++ cur.toList.drop ((i + 1) * 4 + ((l.flatMap mopC).drop (i * 4)).length)).toArray := ⟨_, rfl⟩
  have hdl : ((l.flatMap mopC).drop (i * 4)).length = (l.length - i) * 4 := by rw [List.length_drop, hfl]; omega
  have hcp1 : ∀ ty dc sc, (Builtin.copy_ #[202, 202] ty #[.slice (some ⟨b, (i + 1) * 4, none⟩) (l.length - i) dc, .slice (some ⟨b, i * 4, none⟩) (l.length + 1 - i) sc]).run Tryz.prog w.drew = .ok (goInt (l.length - i : Nat)) (w.drew.setRow b A1) := fun ty dc sc => by
    have hmin : Nat.min (l.length + 1 - i) (l.length - i) = l.length - i := by simp only [Nat.min_def]; split <;> omega
    have := run_copy_rowK (P := Tryz.prog) w.drew 202 202 ty 210 b ((i + 1) * 4) (l.length - i) dc ⟨b, i * 4, none⟩ (l.length + 1 - i) sc 4 cur 210 ((l.flatMap mopC).drop (i * 4)) Tryz.underlying202 size_op hb (by rw [hdl, hmin]) (fun j v hj => by
      rw [Addr.add_lit]
      exact hcell _ v (by rwa [List.getElem?_drop] at hj)) (by rw [hdl, hsz]; omega) (fun v hv => h1c v (List.mem_of_mem_drop hv))
    rw [hmin, ← hA1] at this
    exact this
  obtain ⟨hA1l, hA2⟩ := ins_cells (X := mopC x) hcl hcur rfl hi hc
  have hA1s : A1.size = c * 4 := by rw [hA1]; simpa using hA1l
  obtain ⟨hA2l, hA2t⟩ := hA2 A1.toList (by rw [hA1])
  obtain ⟨A2, hA2e⟩ : ∃ A2, A2 = (A1.toList.take (i * 4) ++ mopC x ++ A1.toList.drop (i * 4 + (mopC x).length)).toArray := ⟨_, rfl⟩
  have hW1b : (w.drew.setRow b A1).heap[b]? = some (.cells A1 210 (0, 0)) := setRow_heap w.drew b cur A1 210 (0, 0) hb
  have hW1o : ∀ k, k ≠ b → (w.drew.setRow b A1).heap[k]? = w.heap[k]? := fun k hk => setRow_other w.drew b k A1 hk
  have hcp2 : ∀ ty dc, (Builtin.copy_ #[202, 202] ty #[.slice (some ⟨b, i * 4, none⟩) (l.length + 1 - i) dc, .slice (some ⟨g, 0, none⟩) 1 1]).run Tryz.prog (w.drew.setRow b A1) = .ok (goInt (1 : Nat)) ((w.drew.setRow b A1).setRow b A2) := fun ty dc => by
    have hmin : Nat.min 1 (l.length + 1 - i) = 1 := by simp only [Nat.min_def]; split <;> omega
    have := run_copy_rowK (P := Tryz.prog) (w.drew.setRow b A1) 202 202 ty 210 b (i * 4) (l.length + 1 - i) dc ⟨g, 0, none⟩ 1 1 4 A1 210 (mopC x) Tryz.underlying202 size_op hW1b (by rw [hmin]; rfl) (fun j v hj => by
      rw [Addr.add_lit, Nat.zero_add, cell_of_row _ g j _ 210 (0, 0) ((hW1o g hne).trans hgb)]
      simpa using hj) (by rw [hA1s]; show i * 4 + 4 ≤ _; omega) (wf_mop x)
    rw [hmin, ← hA2e] at this
    exact this
  have hW2b : ((w.drew.setRow b A1).setRow b A2).heap[b]? = some (.cells A2 210 (0, 0)) := setRow_heap _ b A1 A2 210 (0, 0) hW1b
  have hW2o : ∀ k, k ≠ b → ((w.drew.setRow b A1).setRow b A2).heap[k]? = w.heap[k]? := fun k hk => (setRow_other _ b k A2 hk).trans (hW1o k hk)
  have HR := hid (show ownMOps 0 ((w.drew.setRow b A1).setRow b A2) (.slice (some ⟨b, 0, none⟩) (l.length + 1) c) (l.take i ++ x :: l.drop i) from by
    have hlen : (l.take i ++ x :: l.drop i).length = l.length + 1 := by simp; omega
    have hflat := ins_flat (x := x) hi
    unfold ownMOps
    rw [hlen]
    refine ⟨by rw [flat_len mopC 4 (fun _ => rfl), hlen], .inr ⟨b, c, A2, rfl, Nat.zero_le _, hW2b, hc, by unfold maxLen; omega, by rw [hA2e]; simpa using hA2l, ?_⟩⟩
    rw [hflat, ← hA2t, hA2e])
  have HT := hid (show Turned (fun k => k = b) w ((w.drew.setRow b A1).setRow b A2) from ⟨rfl, rfl, rfl, by rw [setRow_size, setRow_size]; exact Nat.le_refl _, fun k _ hk => hW2o k hk⟩)
  clear hA2e hA1 hA2t hA2l hA2 hA1l hW2o hW1o hcell h1c
  go_enter Tryz.func212, Tryz.ntmps212
  go_wp2_with (simp only [hov])
  go_region_law_o (refine step_copy_runI rfl _ _ 202 202 rfl (.slice (some ⟨b, (i + 1) * 4, none⟩) (l.length - i) (c - (i + 1))) (.slice (some ⟨b, i * 4, none⟩) (l.length + 1 - i) (c - i)) (by simp [Act.eval, Act.put]) (by simp [Act.eval, Act.put]) (hcp1 _ _ _) ?_)
  go_wp2_with (at_builtin; refine wpList_copy_runI _ rfl _ _ 202 202 rfl _ _ rfl rfl (hcp2 _ _) ?_)
  go_ret
  exact ⟨rfl, HR.out, HT.out⟩

end Go.Proofs.YtnkpogjiiohapaaGreatDoor

/-! PHistE: A copy's history: insert behind all others; doneIn. -/
namespace Go.Proofs.YtnkpogjiiohapaaGreatDoor
open Go.RowKit
attribute [local go_sem ↓] Go.wp_at_zero Go.wp_at_succ

def ptrC (k : Nat) : List Value := [.pointer (some ⟨k, 0, none⟩)]
def ownDocs (B : Nat) (w : World) (v : Value) (l : List Nat) : Prop := w.ownsRow B 101 1 v l.length (l.flatMap ptrC)
theorem set5_2 {w : World} {g : Nat} {a b c d e u : Value} {t : TypeId} (h : w.heap[g]? = some (.cells #[a, b, c, d, e] t (0, 0))) : (w.setCell ⟨g, 2, none⟩ u).heap[g]? = some (.cells #[a, b, u, d, e] t (0, 0)) := by
  have hl := blk_lt h
  obtain ⟨_, he⟩ := Array.getElem?_eq_some_iff.1 h
  simp [World.setCell, hl, Array.getElem_modify_self, he]
theorem set5_3 {w : World} {g : Nat} {a b c d e u : Value} {t : TypeId} (h : w.heap[g]? = some (.cells #[a, b, c, d, e] t (0, 0))) : (w.setCell ⟨g, 3, none⟩ u).heap[g]? = some (.cells #[a, b, c, u, e] t (0, 0)) := by
  have hl := blk_lt h
  obtain ⟨_, he⟩ := Array.getElem?_eq_some_iff.1 h
  simp [World.setCell, hl, Array.getElem_modify_self, he]
theorem Turned.of_grown {S : Nat → Prop} {w w' : World} {row : Option Nat} (h : w.grownBy w' row) (hs : ∀ k, row = some k → S k) : Turned S w w' :=
  ⟨h.os, h.tape, h.output, h.size, fun k hk hn => h.block k hk (fun e => hn (hs k e.symm))⟩
theorem setCell_other {w : World} {g o k : Nat} {u : Value} (h : k ≠ g) : (w.setCell ⟨g, o, none⟩ u).heap[k]? = w.heap[k]? := by
  simp [World.setCell, Array.getElem?_modify, Ne.symm h]
theorem Turned.setC {S : Nat → Prop} {w : World} {g o : Nat} (u : Value) (hg : S g) : Turned S w (w.setCell ⟨g, o, none⟩ u) :=
  ⟨rfl, rfl, rfl, by simp [World.setCell], fun k _ hn => setCell_other (fun e => hn (e ▸ hg))⟩
theorem newOr.mono {w w' : World} {v v' : Value} (h : newOr w' v v') (hs : w.heap.size ≤ w'.heap.size) : newOr w v v' := h.imp id fun h k hk => Nat.le_trans hs (h k hk)
theorem newOr.trans {w w' : World} {u v z : Value} (h : newOr w u v) (k : newOr w' v z) (hs : w.heap.size ≤ w'.heap.size) : newOr w u z := by
  rcases k with k | k
  · rw [newOr, k]; exact h
  · exact .inr fun j hj => Nat.le_trans hs (k j hj)

end Go.Proofs.YtnkpogjiiohapaaGreatDoor
