/- Our own text (GInsB, GHistB, PHistF, GHistC). -/
import Derived.Shelf.Spec.SlicesInsertGrow
import Derived.Deep.RegionLaw
import Derived.Test.YtnkpogjiiohapaaGreatDoorA13
import Derived.Test.YtnkpogjiiohapaaGreatDoorA12
set_option linter.unusedSimpArgs false
set_option linter.unusedVariables false

/-! GInsB: slices.Insert in the middle of a row of operations, where there is no room. -/
namespace Go.Proofs.YtnkpogjiiohapaaGreatDoor
open Go.RowKit Go.Proofs

theorem info_op : (Tryz.prog.info? 210).map (fun i => (i.zero, i.size, i.bytes)) = some (some (.agg #[.int .i64 0, .int .i64 0, .int .i64 0, .nilIface]), 4, 40) := by kernel_rfl
/-- What the two copies leave of a new row. -/
theorem ins_cells2 {ROW FL X Z : List Value} {n i : Nat} (hF : FL.length = n * 4) (hX : X.length = 4) (hi : i < n) (hR : ROW = FL.take (i * 4) ++ Z) (hZ : (n + 1 - i) * 4 ≤ Z.length) :
    ∀ A1, A1 = ROW.take (i * 4) ++ X ++ ROW.drop (i * 4 + X.length) → A1.length = ROW.length ∧ (A1.take ((i + 1) * 4) ++ FL.drop (i * 4) ++ A1.drop ((i + 1) * 4 + (FL.drop (i * 4)).length)).length = ROW.length ∧ (A1.take ((i + 1) * 4) ++ FL.drop (i * 4) ++ A1.drop ((i + 1) * 4 + (FL.drop (i * 4)).length)).take ((n + 1) * 4) = FL.take (i * 4) ++ X ++ FL.drop (i * 4) := by
  intro A1 hA
  have htl : (FL.take (i * 4)).length = i * 4 := by rw [List.length_take]; omega
  have hdl : (FL.drop (i * 4)).length = (n - i) * 4 := by rw [List.length_drop, hF]; omega
  have hRl : ROW.length = i * 4 + Z.length := by rw [hR, List.length_append, htl]
  have ht : ROW.take (i * 4) = FL.take (i * 4) := by rw [hR, List.take_append_of_le_length (by omega), List.take_take, Nat.min_self]
  have hA1l : A1.length = ROW.length := by
    rw [hA, ht]
    simp only [List.length_append, List.length_drop, htl, hX, hRl]
    omega
  have h4 : A1.take ((i + 1) * 4) = FL.take (i * 4) ++ X := by
    rw [hA, ht]
    have e : (FL.take (i * 4) ++ X).length = (i + 1) * 4 := by rw [List.length_append, htl, hX]; omega
    rw [← e, List.take_left]
  refine ⟨hA1l, ?_, ?_⟩
  · rw [h4]
    simp only [List.length_append, List.length_drop, htl, hX, hF, hA1l, hRl]
    omega
  · rw [h4, List.take_append_of_le_length (by simp only [List.length_append, htl, hX, hdl]; omega), List.take_of_length_le (by simp only [List.length_append, htl, hX, hdl]; omega)]

set_option maxRecDepth 1000000 in
set_option maxHeartbeats 4000000 in
/-- There is no room: a new row. -/
theorem insert_grow {w : World} {b : Nat} {l : List MOp} {cur : Array Value} (hb : w.heap[b]? = some (.cells cur 210 (0, 0))) (hcur : cur.toList.take (l.length * 4) = l.flatMap mopC) (x : MOp) (g : Nat) (hgb : w.heap[g]? = some (.cells (mopC x).toArray 210 (0, 0))) (i : Nat) (hi : i < l.length) (hl : l.length ≤ 100000) :
    Calls Tryz.prog 212 #[.slice (some ⟨b, 0, none⟩) l.length l.length, .int .i64 i, .slice (some ⟨g, 0, none⟩) 1 1] w fun e w' => ∃ G, e = .returned (.slice (some ⟨w.heap.size, 0, none⟩) (l.length + 1) G) ∧ ownMOps 0 w' (.slice (some ⟨w.heap.size, 0, none⟩) (l.length + 1) G) (l.take i ++ x :: l.drop i) ∧ Below w.heap.size w w' := by
  obtain ⟨i0, hi0, hz0, hzs, hzb⟩ := info_parts info_op
  have hfl : (l.flatMap mopC).length = l.length * 4 := flat_len mopC 4 (fun _ => rfl) l
  have hbl := blk_lt hb
  have hgl := blk_lt hgb
  have hcell : ∀ j v, (l.flatMap mopC)[j]? = some v → w.cell? ⟨b, j, none⟩ = some v := fun j v hj => by
    rw [cell_of_row w b j cur 210 (0, 0) hb]
    rw [← hcur, List.getElem?_take] at hj
    split at hj
    · simpa using hj
    · cases hj
  have h1c : ∀ v ∈ l.flatMap mopC, v.oneCell' = true := fun v hv => by
    obtain ⟨o, _, ho⟩ := List.mem_flatMap.1 hv
    exact wf_mop o v ho
  have hik : i + (l.length + 1 - i) = l.length + 1 := by omega
  have hkk : (l.length : Int) + 1 - (i : Int) = ((l.length + 1 - i : Nat) : Int) := by omega
  have hold : (Builtin.firstCells i0.size i (.slice (some ⟨b, 0, none⟩) i l.length)).run Tryz.prog w.drew = .ok ((l.flatMap mopC).take (i * 4)).toArray w.drew := by
    rw [hzs]
    exact run_firstCells_some w.drew 4 i ⟨b, 0, none⟩ i l.length ((l.flatMap mopC).take (i * 4)) (by rw [List.length_take, hfl]; omega) (fun j v hj => by
      rw [Addr.add_lit, Nat.zero_add]
      rw [List.getElem?_take] at hj
      split at hj
      · exact hcell j v hj
      · cases hj)
  have hrz : ∀ ty, (Builtin.append_ #[202, 3] ty #[.slice (some ⟨b, 0, none⟩) i l.length, .int .i64 ((l.length : Int) + 1 - (i : Int))]).run Tryz.prog w =
      .ok (.slice (some ⟨w.heap.size, 0, none⟩) (l.length + 1) (grownCap w (l.length + 1) l.length 210)) (w.drew.alloc (.cells (((l.flatMap mopC).take (i * 4)).toArray ++ Builtin.zeroCells (Value.agg #[.int .i64 0, .int .i64 0, .int .i64 0, .nilIface]).cells (l.length + 1 - i) ++ Builtin.zeroCells (Value.agg #[.int .i64 0, .int .i64 0, .int .i64 0, .nilIface]).cells (grownCap w (l.length + 1) l.length 210 - (l.length + 1))) 210)) := fun ty => by
    have h := Lib.run_append_grow_zeros (P := Tryz.prog) w 202 3 ty 210 i0 _ .i64 .i64 Tryz.underlying202 Tryz.underlying3 hi0 hz0 (some ⟨b, 0, none⟩) i l.length ((l.flatMap mopC).take (i * 4)) hold (l.length + 1 - i) (by omega) (by omega) (by omega) (by omega) (by rw [hzb]; omega) (by rw [hzb, hik]; exact growslice_fits (by omega) (by omega))
    rw [hik] at h
    rw [hkk]
    exact h
  obtain ⟨G, hG⟩ : ∃ G, G = grownCap w (l.length + 1) l.length 210 := ⟨_, rfl⟩
  have hGn : l.length + 1 ≤ G := by rw [hG]; exact grownCap_ge w _ _ _
  have hG63 : G ≤ 9223372036854775807 := by
    have := grownCap_le_maxLen w (l.length + 1) l.length 210 (by unfold maxLen; omega)
    rw [← hG] at this
    unfold maxLen at this
    omega
  rw [← hG] at hrz
  obtain ⟨Z, hZ⟩ : ∃ Z : List Value, Z = (Builtin.zeroCells (Value.agg #[.int .i64 0, .int .i64 0, .int .i64 0, .nilIface]).cells (l.length + 1 - i) ++ Builtin.zeroCells (Value.agg #[.int .i64 0, .int .i64 0, .int .i64 0, .nilIface]).cells (G - (l.length + 1))).toList := ⟨_, rfl⟩
  obtain ⟨ROW, hROW⟩ : ∃ ROW : Array Value, ROW = ((l.flatMap mopC).take (i * 4)).toArray ++ Builtin.zeroCells (Value.agg #[.int .i64 0, .int .i64 0, .int .i64 0, .nilIface]).cells (l.length + 1 - i) ++ Builtin.zeroCells (Value.agg #[.int .i64 0, .int .i64 0, .int .i64 0, .nilIface]).cells (G - (l.length + 1)) := ⟨_, rfl⟩
  rw [← hROW] at hrz
  have hRl : ROW.toList = (l.flatMap mopC).take (i * 4) ++ Z := by rw [hROW, hZ]; simp [List.append_assoc]
  have hzc : ∀ k, (Builtin.zeroCells (Value.agg #[.int .i64 0, .int .i64 0, .int .i64 0, .nilIface]).cells k).size = k * 4 := fun k => by
    simp [Builtin.zeroCells, Value.cells]
    try omega
  have hZl : Z.length = (l.length + 1 - i) * 4 + (G - (l.length + 1)) * 4 := by rw [hZ]; simp [hzc]
  have hRs : ROW.size = G * 4 := by
    have := congrArg List.length hRl
    rw [List.length_append, List.length_take, hfl, hZl] at this
    simp only [Array.length_toList] at this
    omega
  have hW1 : ((w.alloc (.cells ROW 210)).drew).heap[w.heap.size]? = some (.cells ROW 210 (0, 0)) := blk_new w _
  have hO1 : ∀ k, k < w.heap.size → ((w.alloc (.cells ROW 210)).drew).heap[k]? = w.heap[k]? := fun k hk => ((Below.refl w.heap.size w).alloc (Nat.le_refl _) (.cells ROW 210)).drew.block k hk
  obtain ⟨A1, hA1⟩ : ∃ A1, A1 = (ROW.toList.take (i * 4) ++ mopC x ++ ROW.toList.drop (i * 4 + (mopC x).length)).toArray := ⟨_, rfl⟩
  obtain ⟨h1l, h2l, h2t⟩ := ins_cells2 (X := mopC x) hfl rfl hi hRl (by rw [hZl]; omega) A1.toList (by rw [hA1])
  have hA1s : A1.size = G * 4 := by
    have : A1.toList.length = ROW.toList.length := h1l
    simpa [hRs] using this
  have hcpA : ∀ ty dc, (Builtin.copy_ #[202, 202] ty #[.slice (some ⟨w.heap.size, i * 4, none⟩) (l.length + 1 - i) dc, .slice (some ⟨g, 0, none⟩) 1 1]).run Tryz.prog (w.alloc (.cells ROW 210)).drew = .ok (goInt (1 : Nat)) ((w.alloc (.cells ROW 210)).drew.setRow w.heap.size A1) := fun ty dc => by
    have hmin : Nat.min 1 (l.length + 1 - i) = 1 := by simp only [Nat.min_def]; split <;> omega
    have := run_copy_rowK (P := Tryz.prog) (w.alloc (.cells ROW 210)).drew 202 202 ty 210 w.heap.size (i * 4) (l.length + 1 - i) dc ⟨g, 0, none⟩ 1 1 4 ROW 210 (mopC x) Tryz.underlying202 size_op hW1 (by rw [hmin]; rfl) (fun j v hj => by
      rw [Addr.add_lit, Nat.zero_add, cell_of_row _ g j _ 210 (0, 0) ((hO1 g hgl).trans hgb)]
      simpa using hj) (by rw [hRs]; show i * 4 + 4 ≤ _; omega) (wf_mop x)
    rw [hmin, ← hA1] at this
    exact this
  have hW2 : (((w.alloc (.cells ROW 210)).drew.setRow w.heap.size A1).drew).heap[w.heap.size]? = some (.cells A1 210 (0, 0)) := setRow_heap _ _ ROW A1 210 (0, 0) hW1
  have hO2 : ∀ k, k < w.heap.size → (((w.alloc (.cells ROW 210)).drew.setRow w.heap.size A1).drew).heap[k]? = w.heap[k]? := fun k hk => (setRow_other _ _ k A1 (by omega)).trans (hO1 k hk)
  obtain ⟨A2, hA2⟩ : ∃ A2, A2 = (A1.toList.take ((i + 1) * 4) ++ (l.flatMap mopC).drop (i * 4) ++ A1.toList.drop ((i + 1) * 4 + ((l.flatMap mopC).drop (i * 4)).length)).toArray := ⟨_, rfl⟩
  have hdl : ((l.flatMap mopC).drop (i * 4)).length = (l.length - i) * 4 := by rw [List.length_drop, hfl]; omega
  have hcpB : ∀ ty dc sc, (Builtin.copy_ #[202, 202] ty #[.slice (some ⟨w.heap.size, (i + 1) * 4, none⟩) (l.length - i) dc, .slice (some ⟨b, i * 4, none⟩) (l.length - i) sc]).run Tryz.prog (((w.alloc (.cells ROW 210)).drew.setRow w.heap.size A1).drew) = .ok (goInt (l.length - i : Nat)) ((((w.alloc (.cells ROW 210)).drew.setRow w.heap.size A1).drew).setRow w.heap.size A2) := fun ty dc sc => by
    have hmin : Nat.min (l.length - i) (l.length - i) = l.length - i := by simp only [Nat.min_def]; split <;> omega
    have := run_copy_rowK (P := Tryz.prog) (((w.alloc (.cells ROW 210)).drew.setRow w.heap.size A1).drew) 202 202 ty 210 w.heap.size ((i + 1) * 4) (l.length - i) dc ⟨b, i * 4, none⟩ (l.length - i) sc 4 A1 210 ((l.flatMap mopC).drop (i * 4)) Tryz.underlying202 size_op hW2 (by rw [hdl, hmin]) (fun j v hj => by
      rw [Addr.add_lit, World.cell?_of_block (w := w) (hO2 b hbl)]
      exact hcell _ v (by rwa [List.getElem?_drop] at hj)) (by rw [hdl, hA1s]; omega) (fun v hv => h1c v (List.mem_of_mem_drop hv))
    rw [hmin, ← hA2] at this
    exact this
  have hW3 : ((((w.alloc (.cells ROW 210)).drew.setRow w.heap.size A1).drew).setRow w.heap.size A2).heap[w.heap.size]? = some (.cells A2 210 (0, 0)) := setRow_heap _ _ A1 A2 210 (0, 0) hW2
  have hO3 : ∀ k, k < w.heap.size → ((((w.alloc (.cells ROW 210)).drew.setRow w.heap.size A1).drew).setRow w.heap.size A2).heap[k]? = w.heap[k]? := fun k hk => (setRow_other _ _ k A2 (by omega)).trans (hO2 k hk)
  have HR := hid (show ownMOps 0 ((((w.alloc (.cells ROW 210)).drew.setRow w.heap.size A1).drew).setRow w.heap.size A2) (.slice (some ⟨w.heap.size, 0, none⟩) (l.length + 1) G) (l.take i ++ x :: l.drop i) from by
    have hlen : (l.take i ++ x :: l.drop i).length = l.length + 1 := by simp; omega
    unfold ownMOps
    rw [hlen]
    refine ⟨by rw [flat_len mopC 4 (fun _ => rfl), hlen], .inr ⟨w.heap.size, G, A2, rfl, Nat.zero_le _, hW3, hGn, by unfold maxLen; omega, ?_, ?_⟩⟩
    · rw [hA2]
      have : _ = ROW.toList.length := h2l
      simpa [hRs] using this
    · rw [ins_flat hi, ← h2t, hA2])
  have HB := hid (show Below w.heap.size w ((((w.alloc (.cells ROW 210)).drew.setRow w.heap.size A1).drew).setRow w.heap.size A2) from ⟨rfl, rfl, rfl, by rw [setRow_size]; show w.heap.size ≤ ((w.alloc (.cells ROW 210)).drew.setRow w.heap.size A1).heap.size; rw [setRow_size]; show w.heap.size ≤ (w.alloc (.cells ROW 210)).heap.size; simp, hO3⟩)
  have hz2 : ¬ ((i : Int) = (l.length : Int)) := by omega
  have hw1 : IntKind.i64.wrap ((i : Int) + 1) = (i : Int) + 1 := Go.IntWalk.i64_in _ (by omega)
  have hin : i ≤ l.length := by omega
  have htn : ((i : Int) + 1).toNat = i + 1 := by omega
  have hGi : ¬ (G = i) := by omega
  have hGim : ¬ (G = i + 1) := by omega
  have hci : ¬ (l.length = i) := by omega
  have hb1 : (0 : Int) ≤ (i : Int) + 1 := by omega
  have hb3 : (i : Int) ≤ (l.length : Int) := by omega
  have hb4 : (i : Int) ≤ (l.length : Int) + 1 := by omega
  have hi0' : (0 : Int) ≤ (i : Int) := Int.natCast_nonneg _
  have mixed : Tryz.prog.follows .mixedOrders = true := by kernel_rfl
  clear hA2 hA1 hROW hZ hG hRl hZl hzc h1l h2l h2t hkk hik hold hcell h1c hO1 hO2 hO3 hW1 hW2 hW3
  go_enter Tryz.func212, Tryz.ntmps212
  go_wp2_with (first
    | (at_builtin; refine Lib.wpList_append_run _ rfl _ _ _ _ rfl _ _ rfl rfl _ _ (hrz _) ?_)
    | (at_builtin; refine wpList_copy_runI _ rfl _ _ 202 202 rfl _ _ rfl rfl (hcpA _ _) ?_))
  go_region_law_o (refine step_copy_runI rfl _ _ 202 202 rfl (.slice (some ⟨w.heap.size, (i + 1) * 4, none⟩) (l.length - i) (G - (i + 1))) (.slice (some ⟨b, i * 4, none⟩) (l.length - i) (l.length - i)) (by simp [Act.eval, Act.put]) (by simp [Act.eval, Act.put]) (hcpB _ _ _) ?_)
  go_wp2
  go_ret
  exact ⟨G, rfl, HR.out, HB.out⟩

/-- WHEREVER IT IS PUT: the row with one operation more. -/
theorem insertOps_any {w : World} {v : Value} {l : List MOp} (h : ownMOps 0 w v l) (x : MOp) (g : Nat) (hgb : w.heap[g]? = some (.cells (mopC x).toArray 210 (0, 0))) (hne : v.ownBlock ≠ some g) (i : Nat) (hi : i ≤ l.length) (hl : l.length ≤ 100000) :
    Calls Tryz.prog 212 #[v, .int .i64 i, .slice (some ⟨g, 0, none⟩) 1 1] w fun e w' => ∃ v', e = .returned v' ∧ ownMOps 0 w' v' (l.take i ++ x :: l.drop i) ∧ Turned (fun k => v.ownBlock = some k) w w' ∧ newOr w v v' := by
  rcases Nat.eq_or_lt_of_le hi with he | hlt
  · subst he
    have hc : ∀ j u, (mopC x)[j]? = some u → w.cell? ⟨g, j, none⟩ = some u := fun j u hj => by
      rw [cell_of_row w g j _ 210 (0, 0) hgb]
      simpa using hj
    refine (insert_end_q h x g (hc 0 _ rfl) (hc 1 _ rfl) (hc 2 _ rfl) (hc 3 _ rfl) hl).mono fun e w' hh => ?_
    obtain ⟨v', h1, h2, h3, h4⟩ := hh
    refine ⟨v', h1, ?_, Turned.of_grown h3 fun k hk => hk, h4⟩
    rw [List.take_of_length_le (Nat.le_refl _), List.drop_of_length_le (Nat.le_refl _)]
    exact h2
  · rcases h.2 with ⟨_, h0⟩ | ⟨b, c, cur, rfl, _, hb, hlc, hcm, hsz, hcur⟩
    · omega
    · unfold maxLen at hcm
      have hgb' : g ≠ b := fun e => hne (by rw [e]; rfl)
      by_cases hroom : l.length + 1 ≤ c
      · refine (insert_shift hb hsz hcur hroom (by omega) x g hgb hgb' i hlt hl).mono fun e w' hh => ?_
        exact ⟨_, hh.1, by
          have := hh.2.1
          unfold ownMOps at this ⊢
          have hlen : (l.take i ++ x :: l.drop i).length = l.length + 1 := by simp; omega
          rw [hlen] at this ⊢
          exact this, hh.2.2.mono fun k hk => by rw [hk]; rfl, .inl rfl⟩
      · obtain rfl : c = l.length := by omega
        refine (insert_grow hb hcur x g hgb i hlt hl).mono fun e w' hh => ?_
        obtain ⟨G, h1, h2, h3⟩ := hh
        exact ⟨_, h1, h2, Turned.of_below h3, .inr fun k hk => by cases hk; exact Nat.le_refl _⟩

end Go.Proofs.YtnkpogjiiohapaaGreatDoor

/-! GHistB: History: an operation is put where the order of Ids has it. -/
namespace Go.Proofs.YtnkpogjiiohapaaGreatDoor
open Go.RowKit
attribute [local go_sem ↓] Go.wp_at_zero Go.wp_at_succ

/-- The history's block. -/
def isHs (w : World) (hb sp su : Nat) (vo vr : Value) (d : Nat) : Prop := w.heap[hb]? = some (.cells #[.int .i64 sp, .int .i64 su, vo, vr, .pointer (some ⟨d, 0, none⟩)] 204 (0, 0))

set_option maxRecDepth 1000000 in
set_option maxHeartbeats 2000000 in
theorem histInsert_any {w : World} {hb sp su : Nat} {vo vr : Value} {d : Nat} {l : List MOp} (h : isHs w hb sp su vo vr d) (ho : ownMOps 0 w vo l) (x : MOp) (k0 : Nat) (hk0 : k0 ≤ l.length) (hlo : ∀ i (hi : i < l.length), i < k0 → cmpI l[i].op.id x.op.id < 0) (hhi : ∀ i (hi : i < l.length), k0 ≤ i → 0 < cmpI l[i].op.id x.op.id) (hl : l.length ≤ 100000) :
    Calls Tryz.prog 189 #[.pointer (some ⟨hb, 0, none⟩), .agg #[.int .i64 x.op.id.1, .int .i64 x.op.id.2, .int .i64 x.op.nth, .iface x.t x.v]] w fun e w' => ∃ vo', e = .returned (.int .i64 k0) ∧ isHs w' hb sp su vo' vr d ∧ ownMOps 0 w' vo' (l.take k0 ++ x :: l.drop k0) ∧ newOr w vo vo' ∧ Turned (fun k => k = hb ∨ vo.ownBlock = some k) w w' := by
  have HX := hid h
  have HLN := hid (show (l.take k0 ++ x :: l.drop k0).length = l.length + 1 by simp; omega)
  obtain ⟨c0, c1, c2, c3, c4⟩ := blk5 h
  clear c0 c1 c3 c4
  have hhl := blk_lt h
  clear h
  obtain ⟨b0, b1, b2, b3⟩ := boxed4 w (.int .i64 x.op.id.1) (.int .i64 x.op.id.2) (.int .i64 x.op.nth) (.iface x.t x.v) 210
  have HB0 := hid ((Below.refl w.heap.size w).alloc (Nat.le_refl _) (.cells #[.int .i64 x.op.id.1, .int .i64 x.op.id.2, .int .i64 x.op.nth, .iface x.t x.v] 210))
  have HS := hid (fun W (hb : Below w.heap.size w W) => bsearch_any (owns_keep ho hb) x k0 hk0 hlo hhi hl)
  obtain ⟨a, c, rfl, hlc, hcm, hf⟩ := owns_form ho
  unfold maxLen at hcm
  clear hf hlo hhi
  have HO := hid ho; clear ho
  replace c2 := keep HB0.out c2
  go_enter Tryz.func189, Tryz.ntmps189
  go_wp2_with fail
  go_region_held3 (fun W => W.cell? ⟨hb, 2, none⟩ = some (.slice a l.length c) ∧ W.cell? ⟨w.heap.size, 0, none⟩ = some (.int .i64 x.op.id.1) ∧ W.cell? ⟨w.heap.size, 1, none⟩ = some (.int .i64 x.op.id.2) ∧ W.cell? ⟨w.heap.size, 2, none⟩ = some (.int .i64 x.op.nth) ∧ W.cell? ⟨w.heap.size, 3, none⟩ = some (.iface x.t x.v)) (go_keep)
    (first
      | (go_at_call 210; refine (HS.out _ HB0.out.drew).mono ?_; rintro e w1 ⟨rfl, hb1⟩; have hb1' := Hid.out (below_drew_left hb1); clear hb1; replace c2 := keep hb1' c2; replace b0 := keep hb1' b0; replace b1 := keep hb1' b1; replace b2 := keep hb1' b2; replace b3 := keep hb1' b3; have HB1 := hid (HB0.out.trans (hb1'.mono HB0.out.size)); clear hb1'))
  have HBA := hid ((Below.refl w1.heap.size w1).alloc (Nat.le_refl _) (.cells #[.int .i64 x.op.id.1, .int .i64 x.op.id.2, .int .i64 x.op.nth, .iface x.t x.v] 210)).drew
  have HI := hid (insertOps_any (w := (w1.alloc (.cells #[.int .i64 x.op.id.1, .int .i64 x.op.id.2, .int .i64 x.op.nth, .iface x.t x.v] 210)).drew) (owns_keep (owns_keep HO.out HB1.out) HBA.out) x w1.heap.size (blk_new w1 _) (fun e => by have := (World.ownsRow.lt (owns_keep HO.out HB1.out) _ e).2; omega) k0 hk0 hl)
  have HT1 := hid ((Turned.of_below (S := fun k => k = hb ∨ (Value.slice a l.length c).ownBlock = some k) HB1.out).trans (Turned.of_below HBA.out))
  have HX1 := hid (blk_keep (blk_keep HX.out HB1.out) HBA.out)
  have hne : (Value.slice a l.length c).ownBlock ≠ some hb := fun e => by
    obtain ⟨cur, hc⟩ := own_type HO.out e
    exact absurd (cells_type hc HX.out) (by decide)
  have HNE := hid hne; clear hne
  have hz1 := HB1.out.size
  have hnw := World.new_ne w1 ⟨hb, 2, none⟩ c2
  have hb1l : hb < w1.heap.size := by omega
  have hk1 : (0 : Int) ≤ (k0 : Int) := Int.natCast_nonneg _
  go_wp2_with fail
  go_region_with (first
    | (go_at_call 212; refine HI.out.mono ?_; rintro e w2 ⟨v', rfl, ho2, hg2, hn2⟩; have HO2 := hid ho2; have HT2 := hid (HT1.out.trans (hg2.mono (fun k hk => .inr hk))); have HX2 := hid ((hg2.other hb (blk_lt HX1.out) HNE.out).trans HX1.out); have HN2 := hid hn2; clear ho2 hg2 hn2; obtain ⟨a', c', hve, hlc', hcm', hf'⟩ := owns_form HO2.out; rw [HLN.out] at hve; subst hve; clear hlc' hcm' hf'; have c2' := (blk5 HX2.out).2.2.1; have hfz := blk_fz HX2.out 2; have hb2 := blk_lt HX2.out))
  all_goals go_wp2
  all_goals go_ret
  all_goals
    have hne2 : (Value.slice a' (l.length + 1) c').ownBlock ≠ some hb := fun e => by
      obtain ⟨cur, hc⟩ := own_type HO2.out e
      exact absurd (cells_type hc HX2.out) (by decide)
    refine ⟨.slice a' (l.length + 1) c', rfl, ?_, row_other HO2.out hne2 _, HN2.out.mono ?_, HT2.out.trans (Turned.setC _ (.inl rfl))⟩
    · exact set5_2 HX2.out
    · exact Nat.le_trans HB1.out.size HBA.out.size

end Go.Proofs.YtnkpogjiiohapaaGreatDoor

/-! PHistF: A copy's history: do, of one operation behind all others. -/
namespace Go.Proofs.YtnkpogjiiohapaaGreatDoor
open Go.RowKit
attribute [local go_sem ↓] Go.wp_at_zero Go.wp_at_succ

theorem own_turned {S : Nat → Prop} {w w' : World} {base : Nat} {e : TypeId} {size : Nat} {v : Value} {n : Nat} {xs : List Value} (h : w.ownsRow base e size v n xs) (ht : Turned S w w') (hs : ∀ g c f, w.heap[g]? = some (.cells c e f) → ¬ S g) : w'.ownsRow base e size v n xs :=
  row_blk h (fun g hg => by
    obtain ⟨c, hc⟩ := own_type h hg
    exact ht.other g (blk_lt hc) (hs g _ _ hc))
theorem wf_ptr (k : Nat) : ∀ u ∈ ptrC k, u.oneCell' = true := by
  intro u hu; simp [ptrC] at hu; subst hu; rfl
theorem cells_ptr {w : World} {g k : Nat} (h0 : w.cell? ⟨g, 0, none⟩ = some (.pointer (some ⟨k, 0, none⟩))) : ∀ j u, (ptrC k)[j]? = some u → w.cell? ⟨g, j, none⟩ = some u := by
  intro j u hu
  match j with
  | 0 => simp [ptrC] at hu; rw [← hu]; exact h0
  | j + 1 => simp [ptrC] at hu
theorem blk1 {w : World} {g : Nat} {a : Value} {t : TypeId} {f : Nat × Nat} (h : w.heap[g]? = some (.cells #[a] t f)) : w.cell? ⟨g, 0, none⟩ = some a := by simp [World.cell?, h]
theorem isQ.kept {S : Nat → Prop} {w w' : World} {d bo be : Nat} {os : List (PId × CQObj)} {els : List (PId × CQEl)} (h : isQ w d bo be os els) (ht : Turned S w w') (hs : ∀ k, S k → ∃ c t f, w.heap[k]? = some (.cells c t f) ∧ t ≠ 174) : isQ w' d bo be os els := by
  have hmap : ∀ (b : Nat) (es : Array MapEntry) (clk : Nat), w.heap[b]? = some (.map es clk) → w'.heap[b]? = w.heap[b]? := fun b es clk hb => ht.other b (blk_lt hb) fun hS => by
    obtain ⟨c, t, f, hc, _⟩ := hs b hS
    rw [hb] at hc; cases hc
  have hv : ∀ v vs, isVals w v vs → isVals w' v vs := fun v vs hv => by
    refine hv.imp id ?_
    rintro ⟨b, es, clk, e, hm⟩
    exact ⟨b, es, clk, e, hm.blockK (hmap b _ _ hm.blk)⟩
  obtain ⟨es, clk, hmo⟩ := h.ho
  obtain ⟨es2, clk2, hme⟩ := h.he
  refine ⟨?_, ⟨es, clk, hmo.blockK (hmap _ _ _ hmo.blk)⟩, ⟨es2, clk2, hme.blockK (hmap _ _ _ hme.blk)⟩, fun p hp => ⟨?_, fun q hq => hv _ _ ((h.hk p hp).2 q hq)⟩, fun p hp => hv _ _ (h.hv p hp)⟩
  · rw [ht.other d (blk_lt h.hd) fun hS => ?_]
    · exact h.hd
    · obtain ⟨c, t, f, hc, hne⟩ := hs d hS
      exact hne (cells_type hc h.hd)
  · refine (h.hk p hp).1.imp id ?_
    rintro ⟨b, es, clk, e, hm⟩
    exact ⟨b, es, clk, e, hm.blockK (hmap b _ _ hm.blk)⟩
theorem isChg.keep {w w' : World} {c : Value} {q : QChg} (h : isChg w c q) (hb : Below w.heap.size w w') : isChg w' c q := by
  rcases q with l | ⟨x, b⟩ | ⟨o, key, x, val, gs⟩ | ⟨o, key, x, gs⟩
  · exact h
  · exact h
  · obtain ⟨s, e, hi⟩ := h; exact ⟨s, e, owns_keep hi hb⟩
  · obtain ⟨s, e, hi⟩ := h; exact ⟨s, e, owns_keep hi hb⟩
theorem isOpAt.keep {w w' : World} {g i : Nat} {o : QOp} (h : isOpAt w g i o) (hb : Below w.heap.size w w') : isOpAt w' g i o := by
  obtain ⟨h0, h1, h2, c, h3, h4⟩ := h
  exact ⟨Go.Proofs.YtnkpogjiiohapaaGreatDoor.keep hb h0, Go.Proofs.YtnkpogjiiohapaaGreatDoor.keep hb h1, Go.Proofs.YtnkpogjiiohapaaGreatDoor.keep hb h2, c, Go.Proofs.YtnkpogjiiohapaaGreatDoor.keep hb h3, h4.keep hb⟩

end Go.Proofs.YtnkpogjiiohapaaGreatDoor

/-! GHistC: History with a surplus: which state is the last one, how many are done in it. -/
namespace Go.Proofs.YtnkpogjiiohapaaGreatDoor
open Go.RowKit
attribute [local go_sem ↓] Go.wp_at_zero Go.wp_at_succ

set_option maxRecDepth 1000000 in
set_option maxHeartbeats 2000000 in
theorem doneIn_s {w : World} {hb sp su : Nat} {vo vr : Value} {d : Nat} (h : isHs w hb sp su vo vr d) (k : Nat) (hk : k ≤ 10000) (hs : sp ≤ 50) (hsu : su ≤ 50) :
    Calls Tryz.prog 132 #[.pointer (some ⟨hb, 0, none⟩), .int .i64 k] w fun e w' => e = .returned (.int .i64 ((k * sp - su : Nat) : Int)) ∧ Below w.heap.size w w' := by
  obtain ⟨c0, c1, c2, c3, c4⟩ := blk5 h
  clear c2 c3 c4
  have hm : k * sp ≤ 10000 * 50 := Nat.mul_le_mul hk hs
  obtain ⟨m, hme⟩ : ∃ m : Nat, m = k * sp := ⟨_, rfl⟩
  have hmi : (k : Int) * (sp : Int) = (m : Int) := by rw [hme]; simp
  rw [← hme] at hm ⊢
  clear hme
  go_enter Tryz.func132, Tryz.ntmps132
  go_wp2_with fail
  go_region
  all_goals go_wp2
  all_goals go_ret
  all_goals
    refine ⟨?_, (Below.refl _ w).drew⟩
    show Ending.returned (.int .i64 (max 0 ((m : Int) - (su : Int)))) = _
    rw [show max (0 : Int) ((m : Int) - (su : Int)) = ((m - su : Nat) : Int) by omega]

set_option maxRecDepth 1000000 in
set_option maxHeartbeats 2000000 in
theorem lastWithin_s {w : World} {hb sp su : Nat} {vo vr : Value} {d : Nat} (h : isHs w hb sp su vo vr d) (k : Nat) (hk : k ≤ 10000) (hs1 : 1 ≤ sp) (hs : sp ≤ 50) (hsu : su ≤ 50) :
    Calls Tryz.prog 131 #[.pointer (some ⟨hb, 0, none⟩), .int .i64 k] w fun e w' => e = .returned (.int .i64 (((su + k) / sp : Nat) : Int)) ∧ Below w.heap.size w w' := by
  obtain ⟨c0, c1, c2, c3, c4⟩ := blk5 h
  clear c2 c3 c4
  have hsp0 : ¬ ((sp : Int) = 0) := by omega
  have hsp1 : ¬ (sp = 0) := by omega
  have hle : (su + k) / sp ≤ su + k := Nat.div_le_self _ _
  go_enter Tryz.func131, Tryz.ntmps131
  go_wp2_with fail
  go_region
  all_goals go_wp2
  all_goals go_ret
  all_goals
    refine ⟨?_, (Below.refl _ w).drew⟩
    show Ending.returned (.int .i64 (((su : Int) + (k : Int)) / (sp : Int))) = _
    rw [show ((su : Int) + (k : Int)) / (sp : Int) = (((su + k) / sp : Nat) : Int) by simp]

theorem docp_cell {w : World} {g n cap : Nat} {l : List Nat} (h : ownDocs 0 w (.slice (some ⟨g, 0, none⟩) n cap) l) (i : Nat) (hi : i < l.length) : w.cell? ⟨g, i, none⟩ = some (.pointer (some ⟨l[i], 0, none⟩)) := by
  have hn : n = l.length := by
    rcases h.2 with ⟨e, _⟩ | ⟨g', c', cur, e, _⟩
    · simp at e
    · simp only [Value.slice.injEq] at e; exact e.2.1
  subst hn
  have := owns_cell (f := ptrC) (k := 1) (fun _ => rfl) h rfl i hi 0 (by omega)
  simpa [ptrC] using this
theorem set5_4 {w : World} {g : Nat} {a b c d e u : Value} {t : TypeId} (h : w.heap[g]? = some (.cells #[a, b, c, d, e] t (0, 0))) : (w.setCell ⟨g, 4, none⟩ u).heap[g]? = some (.cells #[a, b, c, d, u] t (0, 0)) := by
  obtain ⟨hl, he⟩ := Array.getElem?_eq_some_iff.1 h
  simp [World.setCell, hl, Array.getElem_modify_self, he]
theorem run_clear_none {P : Program} (w : World) (t e ty : TypeId) (z : Value) (ht : P.underlying t = some (.slice e)) (hv : ∀ w, (zeroValue e).run P w = .ok z w) (a : Option Addr) (c : Nat) : (Builtin.clear_ #[t] ty #[.slice a 0 c]).run P w = .ok (.tuple #[]) w := by
  cases a <;> simp [Builtin.clear_, run_underlying ht, hv, Builtin.zeroCells, storeCells]
theorem zero_docp (w : World) : (zeroValue 101).run Tryz.prog w = .ok (.pointer none) w := by kernel_rfl

set_option maxRecDepth 1000000 in
set_option maxHeartbeats 4000000 in
/-- Nothing is dropped. -/
theorem goBack_all {w : World} {hb sp su : Nat} {vo vr : Value} {d : Nat} (h : isHs w hb sp su vo vr d) {rs : List Nat} (hr : ownDocs 0 w vr rs) (k : Nat) (hk : k ≤ 9000) (hs1 : 1 ≤ sp) (hs : sp ≤ 50) (hsu : su ≤ 50) (L : Nat) (hL : (su + k) / sp = L) (hl : L + 1 = rs.length) {bo be dl : Nat} (hdl : rs[L]? = some dl) {D : QDoc} (hq : isQ w dl bo be D.1 D.2) :
    Calls Tryz.prog 190 #[.pointer (some ⟨hb, 0, none⟩), .int .i64 k] w fun e w' => ∃ d' bo' be', e = .returned (.int .i64 ((L * sp - su : Nat) : Int)) ∧ isHs w' hb sp su vo vr d' ∧ isQ w' d' bo' be' D.1 D.2 ∧ (w.heap.size ≤ d' ∧ w.heap.size ≤ bo' ∧ w.heap.size ≤ be' ∧ bo' ≠ be') ∧ Turned (fun k => k = hb) w w' := by
  have HLW := hid (lastWithin_s h k (by omega) hs1 hs hsu)
  rw [hL] at HLW
  have hL1 : L ≤ su + k := by rw [← hL]; exact Nat.div_le_self _ _
  clear hL
  obtain ⟨hLl, hdle⟩ := List.getElem?_eq_some_iff.1 hdl
  clear hdl
  obtain ⟨a, c, rfl, hlc, hcm, hf⟩ := owns_form hr
  unfold maxLen at hcm
  obtain ⟨g, rfl⟩ := hf L (by omega)
  have cL := docp_cell hr L (by omega)
  rw [hdle] at cL
  clear hdle
  have HX := hid h
  obtain ⟨c0, c1, c2, c3, c4⟩ := blk5 h
  clear c0 c1 c2 c4 hf
  go_enter Tryz.func190, Tryz.ntmps190
  go_wp2_with fail
  refine HLW.out.mono ?_
  rintro e w1 ⟨rfl, hb1⟩
  have d3 := keep hb1 c3
  have dL := keep hb1 cL
  have HB1 := hid hb1
  have hcln := fun a' c' ty => run_clear_none (P := Tryz.prog) w1 200 101 ty (.pointer none) Tryz.underlying200 zero_docp a' c'
  have hL0 : (0 : Int) ≤ (L : Int) := Int.natCast_nonneg _
  have hl2 : rs.length = L + 1 := hl.symm
  rw [hl2] at d3 hlc
  have HL2 := hid hl2
  have hLc : ¬ (c < L + 1) := by omega
  have hgh : g ≠ hb := fun e => by
    obtain ⟨cur, hc⟩ := own_type hr (g := g) rfl
    rw [e] at hc
    exact absurd (cells_type hc h) (by decide)
  have hX1 := blk_keep h hb1
  have hz3 := blk_fz hX1 3
  have hcL : c ≠ L + 1 ∨ c = L + 1 := by omega
  have HC := hid (fun W (ht : Turned (fun k => k = hb) w W) => docClone_q (hq.kept ht (fun k e => ⟨_, _, _, e ▸ HX.out, by decide⟩)))
  have HT1 := hid (show Turned (fun k => k = hb) w (w1.setCell ⟨hb, 3, none⟩ (.slice (some ⟨g, 0, none⟩) (L + 1) c)) from (Turned.of_below hb1).trans (Turned.setC _ rfl))
  rw [hl2] at hX1
  have HX2 := hid (set5_3 (u := .slice (some ⟨g, 0, none⟩) (L + 1) c) hX1)
  have e2 : (w1.setCell ⟨hb, 3, none⟩ (.slice (some ⟨g, 0, none⟩) (L + 1) c)).cell? ⟨g, L, none⟩ = some (.pointer (some ⟨dl, 0, none⟩)) := by
    simp only [World.cell?]
    rw [setCell_other hgh]
    simpa [World.cell?] using dL
  clear hb1 hl hl2 c3 cL h hr hq hX1
  rcases hcL with hcL | rfl
  all_goals go_wp2_with (first
    | (go_at_call 213; refine (HC.out _ HT1.out).mono ?_; rintro e w3 ⟨⟨d', bo', be', rfl, hq3, hd3, hbo3, hbe3, hne3⟩, hb3⟩; have HQ3 := hid hq3; have HB3 := hid hb3; have HN3 := hid (And.intro hd3 (And.intro hbo3 (And.intro hbe3 hne3))); have HX3 := hid (blk_keep HX2.out hb3); have hz4 := blk_fz HX3.out 4; have c4 := (blk5 HX3.out).2.2.2.2; clear hq3 hb3 hd3 hbo3 hbe3 hne3))
  all_goals
    have HX4 := hid (set5_4 (u := .pointer (some ⟨d', 0, none⟩)) HX3.out)
    have HQ4 := hid (HQ3.out.kept (Turned.setC (S := fun k => k = hb) (w := w3) (g := hb) (o := 4) (.pointer (some ⟨d', 0, none⟩)) rfl) (fun k e => ⟨_, _, _, e ▸ HX3.out, by decide⟩))
    have HT4 := hid ((HT1.out.trans (Turned.of_below HB3.out)).trans (Turned.setC (S := fun k => k = hb) (w := w3) (g := hb) (o := 4) (.pointer (some ⟨d', 0, none⟩)) rfl))
    have HDN := hid (doneIn_s (su := su) (sp := sp) HX4.out L (by omega) hs hsu)
    refine HDN.out.mono ?_
    rintro e w5 ⟨rfl, hb5⟩
    have HB5 := hid hb5; clear hb5
    go_wp2
    go_ret
    have hsz := HT1.out.size
    refine ⟨d', bo', be', rfl, ?_, HQ4.out.keep HB5.out, ⟨Nat.le_trans hsz HN3.out.1, Nat.le_trans hsz HN3.out.2.1, Nat.le_trans hsz HN3.out.2.2.1, HN3.out.2.2.2⟩, HT4.out.trans (Turned.of_below HB5.out)⟩
    have := blk_keep HX4.out HB5.out
    unfold isHs
    rw [HL2.out]
    exact this

end Go.Proofs.YtnkpogjiiohapaaGreatDoor
