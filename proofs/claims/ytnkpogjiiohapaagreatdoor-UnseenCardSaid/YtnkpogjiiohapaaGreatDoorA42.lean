/- Our own text (GTrimB). -/
import Derived.Test.YtnkpogjiiohapaaGreatDoorA16
import Derived.Test.YtnkpogjiiohapaaGreatDoorA14
set_option linter.unusedSimpArgs false
set_option linter.unusedVariables false

/-! GTrimB: slices.Delete from the front of a row: at documents, at operations. -/
namespace Go.Proofs.YtnkpogjiiohapaaGreatDoor
open Go.RowKit
attribute [local go_sem ↓] Go.wp_at_zero Go.wp_at_succ

/-- Values laid over a row from a place on. -/
def putL (cur : Array Value) (o : Nat) : List Value → Array Value
  | [] => cur
  | v :: r => putL (cur.setIfInBounds o v) (o + 1) r
theorem putL_size : ∀ (vs : List Value) (cur : Array Value) (o : Nat), (putL cur o vs).size = cur.size
  | [], _, _ => rfl
  | v :: r, cur, o => by
    unfold putL
    rw [putL_size r, Array.size_setIfInBounds]
theorem putL_get : ∀ (vs : List Value) (cur : Array Value) (o j : Nat), (putL cur o vs)[j]? = if o ≤ j ∧ j < o + vs.length ∧ j < cur.size then vs[j - o]? else cur[j]?
  | [], cur, o, j => by
    unfold putL
    rw [if_neg (by simp; omega)]
  | v :: r, cur, o, j => by
    unfold putL
    rw [putL_get r, Array.size_setIfInBounds, List.length_cons]
    by_cases h1 : j = o
    · subst h1
      rw [if_neg (by omega)]
      by_cases h2 : j < cur.size
      · rw [if_pos ⟨Nat.le_refl _, by omega, h2⟩, Nat.sub_self, Array.getElem?_setIfInBounds, if_pos rfl, if_pos h2]
        rfl
      · rw [if_neg (by omega), Array.getElem?_setIfInBounds, if_pos rfl, if_neg h2]
        exact (Array.getElem?_eq_none (by omega)).symm
    · by_cases h2 : o + 1 ≤ j ∧ j < o + 1 + r.length ∧ j < cur.size
      · rw [if_pos h2, if_pos ⟨by omega, by omega, h2.2.2⟩]
        obtain ⟨k, hk⟩ : ∃ k, j - o = k + 1 := ⟨j - o - 1, by omega⟩
        rw [hk, show j - (o + 1) = k by omega]
        rfl
      · rw [if_neg h2, if_neg (by omega), Array.getElem?_setIfInBounds, if_neg (fun e => h1 e.symm)]
theorem setCells_row {g : Nat} {t : TypeId} : ∀ (vs : List Value) (o : Nat) (w : World) (cur : Array Value), w.heap[g]? = some (.cells cur t (0, 0)) → (w.setCells g o vs).heap[g]? = some (.cells (putL cur o vs) t (0, 0))
  | [], _, _, _, h => h
  | v :: r, o, w, cur, h => setCells_row r (o + 1) (w.setCell ⟨g, o, none⟩ v) (cur.setIfInBounds o v) (setRow h)
theorem setCells_oth {g : Nat} : ∀ (vs : List Value) (o : Nat) (W : World) (q : Nat), q ≠ g → (W.setCells g o vs).heap[q]? = W.heap[q]?
  | [], _, _, _, _ => rfl
  | v :: r, o, W, q, h => (setCells_oth r (o + 1) (W.setCell ⟨g, o, none⟩ v) q h).trans (setCell_other h)
theorem setCells_turned {g : Nat} : ∀ (vs : List Value) (o : Nat) (W : World), Turned (fun k => k = g) W (W.setCells g o vs)
  | [], _, W => Turned.of_below (Below.refl _ _)
  | v :: r, o, W => (Turned.setC (S := fun k => k = g) (g := g) (o := o) v rfl).trans (setCells_turned r (o + 1) (W.setCell ⟨g, o, none⟩ v))
/-- What is left of a row whose front is gone. -/
theorem del_take {cur : Array Value} {news zs : List Value} (h : news.length ≤ cur.size) : (putL (putL cur 0 news) news.length zs).toList.take news.length = news := by
  apply List.ext_getElem?
  intro j
  rw [List.getElem?_take]
  by_cases hj : j < news.length
  · rw [if_pos hj, Array.getElem?_toList, putL_get, if_neg (by omega), putL_get, if_pos ⟨Nat.zero_le _, by omega, by omega⟩, Nat.sub_zero]
  · rw [if_neg hj, List.getElem?_eq_none (by omega)]
/-- 'clear' of a row of elements of more than one cell. -/
theorem run_clear_rows {P : Program} (w : World) (t e ty : TypeId) (z : Value) (ht : P.underlying t = some (.slice e)) (hv : ∀ w, (zeroValue e).run P w = .ok z w) (h1 : ∀ u ∈ (Builtin.zeroCells z.cells 1).toList, u.oneCell' = true) (b o n c : Nat) (hn : 0 < n)
    (hc : ∀ j, j < n * z.cells.size → (w.cell? ⟨b, o + j, none⟩).isSome = true) (hf : ∀ j, j < n * z.cells.size → w.frozen? ⟨b, o + j, none⟩ = false) :
    (Builtin.clear_ #[t] ty #[.slice (some ⟨b, o, none⟩) n c]).run P w = .ok (.tuple #[]) (w.setCells b o (Builtin.zeroCells z.cells n).toList) := by
  have hl : (Builtin.zeroCells z.cells n).toList.length = n * z.cells.size := by simp [Builtin.zeroCells]
  have hst := run_storeCells_cells (P := P) b o (Builtin.zeroCells z.cells n).toList 0 w (by rw [hl]; simpa using hc) (by rw [hl]; simpa using hf) (by
    intro v hv'
    simp only [Builtin.zeroCells, Array.toList_map, List.mem_map, Array.toList_range, List.mem_range] at hv'
    obtain ⟨i, hi, rfl⟩ := hv'
    refine h1 _ ?_
    simp only [Builtin.zeroCells, Array.toList_map, List.mem_map, Array.toList_range, List.mem_range]
    have hs : 0 < z.cells.size := Nat.pos_of_ne_zero fun e => by rw [e, Nat.mul_zero] at hi; omega
    exact ⟨i % z.cells.size, by rw [Nat.one_mul]; exact Nat.mod_lt _ hs, by rw [Nat.mod_mod]⟩)
  simp only [Nat.add_zero] at hst
  obtain ⟨m, rfl⟩ : ∃ m, n = m + 1 := ⟨n - 1, by omega⟩
  simp [Builtin.clear_, run_underlying ht, hv, hst]

theorem zero_operT (W : World) : (zeroValue 210).run Tryz.prog W = .ok (.agg #[.int .i64 0, .int .i64 0, .int .i64 0, .nilIface]) W := by kernel_rfl

set_option maxRecDepth 1000000 in
set_option maxHeartbeats 4000000 in
theorem deleteOps {w : World} {v : Value} {n : Nat} {xs : List Value} (h : w.ownsRow 0 210 4 v n xs) (h1 : ∀ u ∈ xs, u.oneCell' = true) {m : Nat} (hm : m ≤ n) :
    Calls Tryz.prog 135 #[v, .int .i64 0, .int .i64 m] w fun e w' => ∃ v', e = .returned v' ∧ w'.ownsRow 0 210 4 v' (n - m) (xs.drop (m * 4)) ∧ Turned (fun j => v.ownBlock = some j) w w' ∧ v'.ownBlock = v.ownBlock := by
  by_cases h0 : m = 0
  · subst h0
    obtain ⟨a, c, rfl, hc1, hc2, hf⟩ := owns_form h
    unfold maxLen at hc2
    have HH := hid h; have HF := hid hf; clear h h1 hf
    rcases Nat.eq_zero_or_pos n with hn | hn
    · subst hn
      cases a with
      | none =>
        go_enter Tryz.func135, Tryz.ntmps135
        go_wp2
        all_goals go_ret
        all_goals exact ⟨_, rfl, by simpa using HH.out, Turned.of_below (Below.refl _ _), rfl⟩
      | some ad =>
        obtain ⟨g, rfl⟩ : ∃ g, ad = ⟨g, 0, none⟩ := by
          rcases HH.out.2 with ⟨e, _⟩ | ⟨g, cap, cur, e, _⟩
          · cases e
          · injection e with e1; injection e1 with e1; exact ⟨g, e1⟩
        go_enter Tryz.func135, Tryz.ntmps135
        go_wp2
        all_goals go_ret
        all_goals exact ⟨_, rfl, by simpa using HH.out, Turned.of_below (Below.refl _ _), rfl⟩
    · obtain ⟨g, rfl⟩ := HF.out 0 hn
      have hnI : (0 : Int) ≤ (n : Int) := by omega
      have hnc : (n : Int) ≤ (c : Int) := by omega
      go_enter Tryz.func135, Tryz.ntmps135
      go_wp2
      all_goals go_ret
      all_goals exact ⟨_, rfl, by simpa using HH.out, Turned.of_below (Below.refl _ _), rfl⟩
  · obtain ⟨a, c, rfl, hc1, hc2, hf⟩ := owns_form h
    obtain ⟨g, rfl⟩ := hf 0 (by omega)
    unfold maxLen at hc2
    obtain ⟨cur, hcur, hsz, hxs⟩ : ∃ cur, w.heap[g]? = some (.cells cur 210 (0, 0)) ∧ cur.size = c * 4 ∧ cur.toList.take (n * 4) = xs := by
      rcases h.2 with ⟨e, _⟩ | ⟨g', cap, cur, e, _, hb, _, _, hs, ht⟩
      · cases e
      · simp only [Value.slice.injEq, Option.some.injEq, Addr.mk.injEq] at e
        obtain ⟨⟨rfl, _⟩, _, rfl⟩ := e
        exact ⟨cur, hb, hs, ht⟩
    have hxl : xs.length = n * 4 := h.1
    obtain ⟨news, hnews⟩ : ∃ news, news = xs.drop (m * 4) := ⟨_, rfl⟩
    have hlen : news.length = (n - m) * 4 := by rw [hnews, List.length_drop, hxl]; omega
    have hcell : ∀ t, t < c * 4 → (w.cell? ⟨g, t, none⟩).isSome = true := fun t ht => by
      have : t < cur.size := by omega
      simp [World.cell?, hcur, this]
    have hfz : ∀ t, w.frozen? ⟨g, t, none⟩ = false := blk_fz hcur
    have hget : ∀ j u, xs[j]? = some u → w.cell? ⟨g, j, none⟩ = some u := fun j u hu => by
      rw [← hxs, List.getElem?_take] at hu
      split at hu
      · rw [Array.getElem?_toList] at hu
        simp [World.cell?, hcur, hu]
      · cases hu
    obtain ⟨A, hA, hsrc⟩ : ∃ A : Addr, (if c = m then some (⟨g, 0, none⟩ : Addr) else some ⟨g, m * 4, none⟩) = some A ∧ Hid (∀ t u, news[t]? = some u → w.drew.cell? (A.add t) = some u) := by
      by_cases hcm : c = m
      · refine ⟨⟨g, 0, none⟩, by simp [hcm], fun t u hu => ?_⟩
        have h0' : news.length = 0 := by rw [hlen]; have : n - m = 0 := by omega
                                         rw [this, Nat.zero_mul]
        rw [List.length_eq_zero_iff.1 h0'] at hu
        simp at hu
      · refine ⟨⟨g, m * 4, none⟩, by simp [hcm], fun t u hu => ?_⟩
        have e : (⟨g, m * 4, none⟩ : Addr).add t = ⟨g, m * 4 + t, none⟩ := by unfold Addr.add; split <;> simp_all
        rw [e]
        rw [hnews, List.getElem?_drop] at hu
        exact hget _ _ hu
    have s1 : Hid (news.length = (n - m) * 4) := hlen
    have s2 : Hid (∀ u ∈ news, u.oneCell' = true) := fun u hu => h1 u (by rw [hnews] at hu; exact List.mem_of_mem_drop hu)
    have s3 : Hid (∀ t, t < news.length → (w.drew.cell? ⟨g, 0 + 0 * 4 + t, none⟩).isSome = true ∧ w.drew.frozen? ⟨g, 0 + 0 * 4 + t, none⟩ = false) := fun t ht => by
      rw [show 0 + 0 * 4 + t = t by omega]
      exact ⟨hcell t (by omega), hfz t⟩
    obtain ⟨W1, hW1⟩ : ∃ W1, W1 = w.drew.setCells g (0 + 0 * 4) news := ⟨_, rfl⟩
    have hcur1 : W1.heap[g]? = some (.cells (putL cur 0 news) 210 (0, 0)) := by rw [hW1]; exact setCells_row news _ w.drew cur hcur
    have hsz1 : (putL cur 0 news).size = c * 4 := (putL_size _ _ _).trans hsz
    obtain ⟨i0, hi0, hz0, hz1, hz2⟩ := info_parts (show (Tryz.prog.info? 210).map (fun i => (i.zero, i.size, i.bytes)) = some (some (.agg #[.int .i64 0, .int .i64 0, .int .i64 0, .nilIface]), 4, 40) by kernel_rfl)
    have hcl : ∀ ty, (Builtin.clear_ #[202] ty #[.slice (some ⟨g, (n - m) * 4, none⟩) (n - (n - m)) (c - (n - m))]).run Tryz.prog W1 = .ok (.tuple #[]) (W1.setCells g ((n - m) * 4) (Builtin.zeroCells (Value.cells (.agg #[.int .i64 0, .int .i64 0, .int .i64 0, .nilIface])) (n - (n - m))).toList) := fun ty => run_clear_rows W1 _ _ ty _ Tryz.underlying202 zero_operT (fun u hu => List.all_eq_true.1 (show ((Builtin.zeroCells (Value.cells (.agg #[.int .i64 0, .int .i64 0, .int .i64 0, .nilIface])) 1).toList.all Value.oneCell') = true by kernel_rfl) u hu) g ((n - m) * 4) (n - (n - m)) _ (by omega) (fun j hj => by
        have hj' : j < (n - (n - m)) * 4 := hj
        have : (n - m) * 4 + j < (putL cur 0 news).size := by omega
        simp [World.cell?, hcur1, this]) (fun j _ => blk_fz hcur1 _)
    have HT1 := hid (show Turned (fun k => k = g) w W1 by rw [hW1]; exact (Turned.of_below (Below.refl _ _).drew).trans (setCells_turned _ _ _))
    have HC1 := hid hcur1
    have HS1 := hid (And.intro hsz1 (And.intro hlen (And.intro hsz hnews)))
    have hW : Hid (W1 = w.drew.setCells g (0 + 0 * 4) news) := hW1
    have hmc : (m : Int) ≤ (c : Int) := by omega
    have hmn : (m : Int) ≤ (n : Int) := by omega
    have hm0 : (0 : Int) ≤ (m : Int) := Int.natCast_nonneg _
    have hnI : (0 : Int) ≤ (n : Int) := Int.natCast_nonneg _
    have hnc : (n : Int) ≤ (c : Int) := by omega
    have hmz : ¬ (0 : Int) = (m : Int) := by omega
    have hne : ¬ c = n - m := by omega
    clear hW1 hcur1 hsz1 hcell hfz hget hlen hsz hnews hxl hxs hcur h h1 hf
    go_enter Tryz.func135, Tryz.ntmps135
    have hmx : Tryz.prog.follows Departure.mixedOrders = true := by kernel_rfl
    go_wp2_with fail
    go_region_law_o (refine step_append_room rfl (.tmp 22) (.tmp 25) 202 rfl 210 i0 4 Tryz.underlying202 hi0 hz1 g 0 0 c (by simp [Act.eval, Act.put]) A (n - m) (c - m) news (by simp [Act.eval, Act.put]) s1.out hsrc.out s2.out (by omega) s3.out ?_; rw [← hW.out])
    go_wp2
    go_ret
    obtain ⟨q1, q2, q3, q4⟩ := HS1.out
    refine ⟨_, rfl, ⟨by rw [← q4]; exact q2, .inr ⟨g, c, _, rfl, Nat.zero_le _, setCells_row _ _ W1 _ HC1.out, by omega, by unfold maxLen; omega, ?_, ?_⟩⟩, ?_, rfl⟩
    · rw [putL_size]; exact q1
    · rw [← q2, ← q4]
      exact del_take (by rw [q2, q3]; omega)
    · exact (HT1.out.trans (setCells_turned _ _ _)).mono fun k e => by rw [e]; rfl

set_option maxRecDepth 1000000 in
set_option maxHeartbeats 4000000 in
theorem deleteDocs {w : World} {v : Value} {n : Nat} {xs : List Value} (h : w.ownsRow 0 101 1 v n xs) (h1 : ∀ u ∈ xs, u.oneCell' = true) {m : Nat} (hm : m ≤ n) :
    Calls Tryz.prog 133 #[v, .int .i64 0, .int .i64 m] w fun e w' => ∃ v', e = .returned v' ∧ w'.ownsRow 0 101 1 v' (n - m) (xs.drop (m * 1)) ∧ Turned (fun j => v.ownBlock = some j) w w' ∧ v'.ownBlock = v.ownBlock := by
  by_cases h0 : m = 0
  · subst h0
    obtain ⟨a, c, rfl, hc1, hc2, hf⟩ := owns_form h
    unfold maxLen at hc2
    have HH := hid h; have HF := hid hf; clear h h1 hf
    rcases Nat.eq_zero_or_pos n with hn | hn
    · subst hn
      cases a with
      | none =>
        go_enter Tryz.func133, Tryz.ntmps133
        go_wp2
        all_goals go_ret
        all_goals exact ⟨_, rfl, by simpa using HH.out, Turned.of_below (Below.refl _ _), rfl⟩
      | some ad =>
        obtain ⟨g, rfl⟩ : ∃ g, ad = ⟨g, 0, none⟩ := by
          rcases HH.out.2 with ⟨e, _⟩ | ⟨g, cap, cur, e, _⟩
          · cases e
          · injection e with e1; injection e1 with e1; exact ⟨g, e1⟩
        go_enter Tryz.func133, Tryz.ntmps133
        go_wp2
        all_goals go_ret
        all_goals exact ⟨_, rfl, by simpa using HH.out, Turned.of_below (Below.refl _ _), rfl⟩
    · obtain ⟨g, rfl⟩ := HF.out 0 hn
      have hnI : (0 : Int) ≤ (n : Int) := by omega
      have hnc : (n : Int) ≤ (c : Int) := by omega
      go_enter Tryz.func133, Tryz.ntmps133
      go_wp2
      all_goals go_ret
      all_goals exact ⟨_, rfl, by simpa using HH.out, Turned.of_below (Below.refl _ _), rfl⟩
  · obtain ⟨a, c, rfl, hc1, hc2, hf⟩ := owns_form h
    obtain ⟨g, rfl⟩ := hf 0 (by omega)
    unfold maxLen at hc2
    obtain ⟨cur, hcur, hsz, hxs⟩ : ∃ cur, w.heap[g]? = some (.cells cur 101 (0, 0)) ∧ cur.size = c * 1 ∧ cur.toList.take (n * 1) = xs := by
      rcases h.2 with ⟨e, _⟩ | ⟨g', cap, cur, e, _, hb, _, _, hs, ht⟩
      · cases e
      · simp only [Value.slice.injEq, Option.some.injEq, Addr.mk.injEq] at e
        obtain ⟨⟨rfl, _⟩, _, rfl⟩ := e
        exact ⟨cur, hb, hs, ht⟩
    have hxl : xs.length = n * 1 := h.1
    obtain ⟨news, hnews⟩ : ∃ news, news = xs.drop (m * 1) := ⟨_, rfl⟩
    have hlen : news.length = (n - m) * 1 := by rw [hnews, List.length_drop, hxl]; omega
    have hcell : ∀ t, t < c * 1 → (w.cell? ⟨g, t, none⟩).isSome = true := fun t ht => by
      have : t < cur.size := by omega
      simp [World.cell?, hcur, this]
    have hfz : ∀ t, w.frozen? ⟨g, t, none⟩ = false := blk_fz hcur
    have hget : ∀ j u, xs[j]? = some u → w.cell? ⟨g, j, none⟩ = some u := fun j u hu => by
      rw [← hxs, List.getElem?_take] at hu
      split at hu
      · rw [Array.getElem?_toList] at hu
        simp [World.cell?, hcur, hu]
      · cases hu
    obtain ⟨A, hA, hsrc⟩ : ∃ A : Addr, (if c = m then some (⟨g, 0, none⟩ : Addr) else some ⟨g, m, none⟩) = some A ∧ Hid (∀ t u, news[t]? = some u → w.drew.cell? (A.add t) = some u) := by
      by_cases hcm : c = m
      · refine ⟨⟨g, 0, none⟩, by simp [hcm], fun t u hu => ?_⟩
        have h0' : news.length = 0 := by rw [hlen]; have : n - m = 0 := by omega
                                         rw [this, Nat.zero_mul]
        rw [List.length_eq_zero_iff.1 h0'] at hu
        simp at hu
      · refine ⟨⟨g, m, none⟩, by simp [hcm], fun t u hu => ?_⟩
        have e : (⟨g, m, none⟩ : Addr).add t = ⟨g, m + t, none⟩ := by unfold Addr.add; split <;> simp_all
        rw [e]
        rw [hnews, List.getElem?_drop] at hu
        rw [Nat.mul_one] at hu
        exact hget _ _ hu
    have s1 : Hid (news.length = (n - m) * 1) := hlen
    have s2 : Hid (∀ u ∈ news, u.oneCell' = true) := fun u hu => h1 u (by rw [hnews] at hu; exact List.mem_of_mem_drop hu)
    have s3 : Hid (∀ t, t < news.length → (w.drew.cell? ⟨g, 0 + 0 * 1 + t, none⟩).isSome = true ∧ w.drew.frozen? ⟨g, 0 + 0 * 1 + t, none⟩ = false) := fun t ht => by
      rw [show 0 + 0 * 1 + t = t by omega]
      exact ⟨hcell t (by omega), hfz t⟩
    obtain ⟨W1, hW1⟩ : ∃ W1, W1 = w.drew.setCells g (0 + 0 * 1) news := ⟨_, rfl⟩
    have hcur1 : W1.heap[g]? = some (.cells (putL cur 0 news) 101 (0, 0)) := by rw [hW1]; exact setCells_row news _ w.drew cur hcur
    have hsz1 : (putL cur 0 news).size = c * 1 := (putL_size _ _ _).trans hsz
    obtain ⟨i0, hi0, hz0, hz1, hz2⟩ := info_parts (show (Tryz.prog.info? 101).map (fun i => (i.zero, i.size, i.bytes)) = some (some (.pointer none), 1, 8) by kernel_rfl)
    have hcl : ∀ ty, (Builtin.clear_ #[200] ty #[.slice (some ⟨g, n - m, none⟩) (n - (n - m)) (c - (n - m))]).run Tryz.prog W1 = .ok (.tuple #[]) (W1.setCells g (n - m) (Builtin.zeroCells (Value.cells (.pointer none)) (n - (n - m))).toList) := fun ty => run_clear_rows W1 _ _ ty _ Tryz.underlying200 zero_docp (fun u hu => List.all_eq_true.1 (show ((Builtin.zeroCells (Value.cells (.pointer none)) 1).toList.all Value.oneCell') = true by kernel_rfl) u hu) g (n - m) (n - (n - m)) _ (by omega) (fun j hj => by
        have hj' : j < (n - (n - m)) * 1 := hj
        have : (n - m) + j < (putL cur 0 news).size := by omega
        simp [World.cell?, hcur1, this]) (fun j _ => blk_fz hcur1 _)
    have HT1 := hid (show Turned (fun k => k = g) w W1 by rw [hW1]; exact (Turned.of_below (Below.refl _ _).drew).trans (setCells_turned _ _ _))
    have HC1 := hid hcur1
    have HS1 := hid (And.intro hsz1 (And.intro hlen (And.intro hsz hnews)))
    have hW : Hid (W1 = w.drew.setCells g (0 + 0 * 1) news) := hW1
    have hmc : (m : Int) ≤ (c : Int) := by omega
    have hmn : (m : Int) ≤ (n : Int) := by omega
    have hm0 : (0 : Int) ≤ (m : Int) := Int.natCast_nonneg _
    have hnI : (0 : Int) ≤ (n : Int) := Int.natCast_nonneg _
    have hnc : (n : Int) ≤ (c : Int) := by omega
    have hmz : ¬ (0 : Int) = (m : Int) := by omega
    have hne : ¬ c = n - m := by omega
    clear hW1 hcur1 hsz1 hcell hfz hget hlen hsz hnews hxl hxs hcur h h1 hf
    go_enter Tryz.func133, Tryz.ntmps133
    have hmx : Tryz.prog.follows Departure.mixedOrders = true := by kernel_rfl
    go_wp2_with fail
    go_region_law_o (refine step_append_room rfl (.tmp 22) (.tmp 25) 200 rfl 101 i0 1 Tryz.underlying200 hi0 hz1 g 0 0 c (by simp [Act.eval, Act.put]) A (n - m) (c - m) news (by simp [Act.eval, Act.put]) s1.out hsrc.out s2.out (by omega) s3.out ?_; rw [← hW.out])
    go_wp2
    go_ret
    obtain ⟨q1, q2, q3, q4⟩ := HS1.out
    refine ⟨_, rfl, ⟨by rw [← q4]; exact q2, .inr ⟨g, c, _, rfl, Nat.zero_le _, setCells_row _ _ W1 _ HC1.out, by omega, by unfold maxLen; omega, ?_, ?_⟩⟩, ?_, rfl⟩
    · rw [putL_size]; exact q1
    · have e1 : n - m = news.length := by rw [q2, Nat.mul_one]
      rw [← q4, e1, Nat.mul_one]
      exact del_take (by rw [q2, q3]; omega)
    · exact (HT1.out.trans (setCells_turned _ _ _)).mono fun k e => by rw [e]; rfl

end Go.Proofs.YtnkpogjiiohapaaGreatDoor
