/- Our own text (GHistD, PHistG, RefOwn, PRepA, PRepB). -/
import Derived.Test.YtnkpogjiiohapaaGreatDoorA14
import Derived.Test.YtnkpogjiiohapaaGreatDoorA04
import Derived.Test.YtnkpogjiiohapaaGreatDoorA09
import Derived.Test.YtnkpogjiiohapaaGreatDoorA11
set_option linter.unusedSimpArgs false
set_option linter.unusedVariables false

/-! GHistD: History: back to a state that is remembered, the later ones dropped. -/
namespace Go.Proofs.YtnkpogjiiohapaaGreatDoor
open Go.RowKit
attribute [local go_sem ↓] Go.wp_at_zero Go.wp_at_succ

/-- clear, over a row of one cell an element. -/
theorem run_clear_row {P : Program} (w : World) (t e ty : TypeId) (z : Value) (ht : P.underlying t = some (.slice e)) (hv : ∀ w, (zeroValue e).run P w = .ok z w) (hz : z.cells = #[z]) (h1 : z.oneCell' = true) (g o n c : Nat) (hn : 0 < n) (cur : Array Value) (t' : TypeId)
    (hg : w.heap[g]? = some (.cells cur t' (0, 0))) (hfit : o + n ≤ cur.size) :
    (Builtin.clear_ #[t] ty #[.slice (some ⟨g, o, none⟩) n c]).run P w = .ok (.tuple #[]) (w.setRow g (cur.toList.take o ++ List.replicate n z ++ cur.toList.drop (o + n)).toArray) := by
  have hzc : (Builtin.zeroCells z.cells n).toList = List.replicate n z := by
    rw [hz]
    simp [Builtin.zeroCells]
    apply List.ext_getElem
    · simp
    · intro i h1 h2
      simp [Nat.mod_one]
  have hst := run_storeCells_at P g o t' (List.replicate n z) 0 cur w hg (by simpa using hfit) (by intro v hv'; rw [List.eq_of_mem_replicate hv']; exact h1)
  simp only [Nat.add_zero, List.length_replicate] at hst
  obtain ⟨m, rfl⟩ : ∃ m, n = m + 1 := ⟨n - 1, by omega⟩
  simp [Builtin.clear_, run_underlying ht, hv, hzc, hst]

set_option maxRecDepth 1000000 in
set_option maxHeartbeats 4000000 in
/-- The later states are dropped. -/
theorem goBack_some {w : World} {hb sp su : Nat} {vo vr : Value} {d : Nat} (h : isHs w hb sp su vo vr d) {rs : List Nat} (hr : ownDocs 0 w vr rs) (k : Nat) (hk : k ≤ 9000) (hs1 : 1 ≤ sp) (hs : sp ≤ 50) (hsu : su ≤ 50) (L : Nat) (hL : (su + k) / sp = L) (hl : L + 1 < rs.length) {bo be dl : Nat} (hdl : rs[L]? = some dl) {D : QDoc} (hq : isQ w dl bo be D.1 D.2) :
    Calls Tryz.prog 190 #[.pointer (some ⟨hb, 0, none⟩), .int .i64 k] w fun e w' => ∃ g c d' bo' be', vr.ownBlock = some g ∧ e = .returned (.int .i64 ((L * sp - su : Nat) : Int)) ∧ isHs w' hb sp su vo (.slice (some ⟨g, 0, none⟩) (L + 1) c) d' ∧ ownDocs 0 w' (.slice (some ⟨g, 0, none⟩) (L + 1) c) (rs.take (L + 1)) ∧ isQ w' d' bo' be' D.1 D.2 ∧ (w.heap.size ≤ d' ∧ w.heap.size ≤ bo' ∧ w.heap.size ≤ be' ∧ bo' ≠ be') ∧ Turned (fun k => k = hb ∨ vr.ownBlock = some k) w w' := by
  have HLW := hid (lastWithin_s h k (by omega) hs1 hs hsu)
  rw [hL] at HLW
  have hL1 : L ≤ su + k := by rw [← hL]; exact Nat.div_le_self _ _
  clear hL
  obtain ⟨hLl, hdle⟩ := List.getElem?_eq_some_iff.1 hdl
  clear hdl
  obtain ⟨a, c, rfl, hlc, hcm, hf⟩ := owns_form hr
  unfold maxLen at hcm
  obtain ⟨g, rfl⟩ := hf L (by omega)
  have cL := docp_cell hr L (by omega)
  rw [hdle] at cL
  clear hdle
  have HX := hid h
  obtain ⟨c0, c1, c2, c3, c4⟩ := blk5 h
  clear c0 c1 c2 c4 hf
  go_enter Tryz.func190, Tryz.ntmps190
  go_wp2_with fail
  refine HLW.out.mono ?_
  rintro e w1 ⟨rfl, hb1⟩
  have d3 := keep hb1 c3
  have dL := keep hb1 cL
  have HB1 := hid hb1
  obtain ⟨cur, hcur⟩ := own_type hr (g := g) rfl
  have hgh : g ≠ hb := fun e => by
    rw [e] at hcur
    exact absurd (cells_type hcur h) (by decide)
  obtain ⟨hcs, hct⟩ : cur.size = c ∧ cur.toList.take rs.length = rs.flatMap ptrC := by
    rcases hr.2 with ⟨e, _⟩ | ⟨g', c', cur', e, _, hg', _, _, hs', ht'⟩
    · simp at e
    · simp only [Value.slice.injEq, Option.some.injEq, Addr.mk.injEq, and_true, true_and] at e
      obtain ⟨rfl, rfl⟩ := e
      rw [hcur] at hg'
      cases hg'
      exact ⟨by omega, by simpa using ht'⟩
  have hc1 : w1.heap[g]? = some (.cells cur 101 (0, 0)) := (hb1.block g (blk_lt hcur)).trans hcur
  obtain ⟨A, hA⟩ : ∃ A, A = (cur.toList.take (L + 1) ++ List.replicate (rs.length - (L + 1)) (Value.pointer none) ++ cur.toList.drop (L + 1 + (rs.length - (L + 1)))).toArray := ⟨_, rfl⟩
  obtain ⟨W2, hW2⟩ : ∃ W2, W2 = w1.setRow g A := ⟨_, rfl⟩
  have hcln : ∀ c' ty, (Builtin.clear_ #[200] ty #[.slice (some ⟨g, L + 1, none⟩) (rs.length - (L + 1)) c']).run Tryz.prog w1 = .ok (.tuple #[]) W2 := fun c' ty => by
    rw [hW2, hA]
    exact run_clear_row w1 200 101 ty (.pointer none) Tryz.underlying200 zero_docp rfl rfl g (L + 1) (rs.length - (L + 1)) c' (by omega) cur 101 hc1 (by omega)
  have hW2g : W2.heap[g]? = some (.cells A 101 (0, 0)) := by rw [hW2]; exact setRow_heap _ _ cur A _ _ hc1
  have hW2o : ∀ k, k ≠ g → W2.heap[k]? = w1.heap[k]? := fun k hk => by rw [hW2]; exact setRow_other _ _ k A hk
  have hAs : A.size = c := by rw [hA]; simp; omega
  have hAt : A.toList.take (L + 1) = (rs.take (L + 1)).flatMap ptrC := by
    have e1 : cur.toList.take (L + 1) = (rs.take (L + 1)).flatMap ptrC := by
      have e0 : rs.flatMap ptrC = (rs.take (L + 1)).flatMap ptrC ++ (rs.drop (L + 1)).flatMap ptrC := by rw [← List.flatMap_append, List.take_append_drop]
      have hh : ((rs.take (L + 1)).flatMap ptrC).length = L + 1 := by rw [flat_len ptrC 1 (fun _ => rfl), List.length_take]; omega
      have := congrArg (List.take (L + 1)) hct
      rw [List.take_take, e0] at this
      rw [show min (L + 1) rs.length = L + 1 by omega] at this
      rw [this]
      rw [List.take_append_of_le_length (by rw [hh]; exact Nat.le_refl _), List.take_of_length_le (by rw [hh]; exact Nat.le_refl _)]
    rw [hA]
    simp only [List.append_assoc]
    rw [List.take_append_of_le_length (by rw [List.length_take]; simp; omega), List.take_take, Nat.min_self]
    exact e1
  have hT2 : Turned (fun k => k = hb ∨ (Value.slice (some ⟨g, 0, none⟩) rs.length c).ownBlock = some k) w W2 := by
    refine (Turned.of_below hb1).trans ⟨by rw [hW2]; rfl, by rw [hW2]; rfl, by rw [hW2]; rfl, by rw [hW2, setRow_size]; exact Nat.le_refl _, fun k _ hk => hW2o k fun e => hk (.inr (by rw [e]; rfl))⟩
  have d3' : W2.cell? ⟨hb, 3, none⟩ = some (.slice (some ⟨g, 0, none⟩) rs.length c) := by
    rw [World.cell?_of_block (w := w1) (hW2o hb (Ne.symm hgh))]
    exact d3
  have dL' : W2.cell? ⟨g, L, none⟩ = some (.pointer (some ⟨dl, 0, none⟩)) := by
    have : A[L]? = some (.pointer (some ⟨dl, 0, none⟩)) := by
      have h1 : (A.toList.take (L + 1))[L]? = cur.toList[L]? := by
        rw [hA]
        simp only [List.append_assoc]
        rw [List.take_append_of_le_length (by rw [List.length_take]; simp; omega), List.take_take, Nat.min_self, List.getElem?_take, if_pos (by omega)]
      have h2 : (A.toList.take (L + 1))[L]? = A[L]? := by rw [List.getElem?_take, if_pos (by omega)]; simp
      rw [← h2, h1]
      have := dL
      rw [cell_of_row w1 g L cur _ _ hc1] at this
      simpa using this
    rw [cell_of_row W2 g L A _ _ hW2g]
    exact this
  have hL0 : (0 : Int) ≤ (L : Int) := Int.natCast_nonneg _
  have hlr : (L : Int) + 1 ≤ (rs.length : Int) := by omega
  have hcL : ¬ (c = L + 1) := by omega
  have hX1 : W2.heap[hb]? = _ := (hW2o hb (Ne.symm hgh)).trans (blk_keep h hb1)
  have hz3 := blk_fz hX1 3
  have HC := hid (fun W (ht : Turned (fun k => k = hb ∨ (Value.slice (some ⟨g, 0, none⟩) rs.length c).ownBlock = some k) w W) => docClone_q (hq.kept ht (fun k e => by
    rcases e with rfl | e
    · exact ⟨_, _, _, HX.out, by decide⟩
    · cases e
      exact ⟨_, _, _, hcur, by decide⟩)))
  have HT1 := hid (show Turned (fun k => k = hb ∨ (Value.slice (some ⟨g, 0, none⟩) rs.length c).ownBlock = some k) w (W2.setCell ⟨hb, 3, none⟩ (.slice (some ⟨g, 0, none⟩) (L + 1) c)) from hT2.trans (Turned.setC _ (.inl rfl)))
  have HX2 := hid (set5_3 (u := .slice (some ⟨g, 0, none⟩) (L + 1) c) hX1)
  have HG2 := hid (show (W2.setCell ⟨hb, 3, none⟩ (.slice (some ⟨g, 0, none⟩) (L + 1) c)).heap[g]? = some (.cells A 101 (0, 0)) by rw [setCell_other hgh]; exact hW2g)
  have e2 : (W2.setCell ⟨hb, 3, none⟩ (.slice (some ⟨g, 0, none⟩) (L + 1) c)).cell? ⟨g, L, none⟩ = some (.pointer (some ⟨dl, 0, none⟩)) := by
    rw [World.cell?_of_block (w := W2) (setCell_other hgh)]
    exact dL'
  have HAA := hid (And.intro hAs hAt)
  have HGH := hid hgh
  have hlc2 : L + 1 ≤ c := by omega
  clear hb1 c3 cL h hr hq hX1 hW2 hA hAs hAt hT2 hW2o hW2g hc1 hcs hct hcur dL
  go_wp2_with (first
    | (go_at_call 213; refine (HC.out _ HT1.out).mono ?_; rintro e w3 ⟨⟨d', bo', be', rfl, hq3, hd3, hbo3, hbe3, hne3⟩, hb3⟩; have HQ3 := hid hq3; have HB3 := hid hb3; have HN3 := hid (And.intro hd3 (And.intro hbo3 (And.intro hbe3 hne3))); have HX3 := hid (blk_keep HX2.out hb3); have hz4 := blk_fz HX3.out 4; have c4 := (blk5 HX3.out).2.2.2.2; clear hq3 hb3 hd3 hbo3 hbe3 hne3))
  have HG3 := hid (blk_keep HG2.out HB3.out)
  have HX4 := hid (set5_4 (u := .pointer (some ⟨d', 0, none⟩)) HX3.out)
  have HQ4 := hid (HQ3.out.kept (Turned.setC (S := fun k => k = hb ∨ (Value.slice (some ⟨g, 0, none⟩) rs.length c).ownBlock = some k) (w := w3) (g := hb) (o := 4) (.pointer (some ⟨d', 0, none⟩)) (.inl rfl)) (fun k e => by
    rcases e with rfl | e
    · exact ⟨_, _, _, HX3.out, by decide⟩
    · cases e
      exact ⟨_, _, _, HG3.out, by decide⟩))
  have HT4 := hid ((HT1.out.trans (Turned.of_below HB3.out)).trans (Turned.setC (S := fun k => k = hb ∨ (Value.slice (some ⟨g, 0, none⟩) rs.length c).ownBlock = some k) (w := w3) (g := hb) (o := 4) (.pointer (some ⟨d', 0, none⟩)) (.inl rfl)))
  have HDN := hid (doneIn_s (su := su) (sp := sp) HX4.out L (by omega) hs hsu)
  refine HDN.out.mono ?_
  rintro e w5 ⟨rfl, hb5⟩
  have HB5 := hid hb5; clear hb5
  go_wp2
  go_ret
  have hsz := HT1.out.size
  have hG5 : w5.heap[g]? = some (.cells A 101 (0, 0)) := blk_keep (w := w3.setCell ⟨hb, 4, none⟩ (.pointer (some ⟨d', 0, none⟩))) ((setCell_other HGH.out).trans HG3.out) HB5.out
  refine ⟨g, c, d', bo', be', rfl, rfl, blk_keep HX4.out HB5.out, ?_, HQ4.out.keep HB5.out, ⟨Nat.le_trans hsz HN3.out.1, Nat.le_trans hsz HN3.out.2.1, Nat.le_trans hsz HN3.out.2.2.1, HN3.out.2.2.2⟩, HT4.out.trans (Turned.of_below HB5.out)⟩
  have hlen : (rs.take (L + 1)).length = L + 1 := by rw [List.length_take]; omega
  unfold ownDocs
  rw [hlen]
  exact ⟨by rw [flat_len ptrC 1 (fun _ => rfl), hlen], .inr ⟨g, c, A, rfl, Nat.zero_le _, hG5, hlc2, by unfold maxLen; omega, by rw [HAA.out.1]; omega, by rw [Nat.mul_one]; exact HAA.out.2⟩⟩

end Go.Proofs.YtnkpogjiiohapaaGreatDoor

/-! PHistG: A copy's history: Add, of one operation behind all others. -/
namespace Go.Proofs.YtnkpogjiiohapaaGreatDoor
open Go.RowKit
attribute [local go_sem ↓] Go.wp_at_zero Go.wp_at_succ

theorem isChg.kept {S : Nat → Prop} {w w' : World} {c : Value} {q : QChg} (h : isChg w c q) (ht : Turned S w w') (hs : ∀ k, S k → ∃ c t f, w.heap[k]? = some (.cells c t f) ∧ t ≠ 36) : isChg w' c q := by
  have hi : ∀ s gs, isIds w s gs → isIds w' s gs := fun s gs hi => own_turned hi ht (fun g c f hg hS => by
    obtain ⟨c', t, f', hc, hne⟩ := hs g hS
    exact hne (cells_type hc hg))
  rcases q with l | ⟨x, b⟩ | ⟨o, key, x, val, gs⟩ | ⟨o, key, x, gs⟩
  · exact h
  · exact h
  · obtain ⟨s, e, h'⟩ := h; exact ⟨s, e, hi _ _ h'⟩
  · obtain ⟨s, e, h'⟩ := h; exact ⟨s, e, hi _ _ h'⟩

end Go.Proofs.YtnkpogjiiohapaaGreatDoor

/-! RefOwn: The reference's room with the blocks that are its own (F): what its calls leave of it, and that they leave all other blocks alone. -/
namespace Go.Proofs.YtnkpogjiiohapaaGreatDoor
open Go.RowKit

/-- What a call leaves alone that may write the blocks F alone; F': the blocks behind it. -/
structure Keeps (F F' : Nat → Prop) (w w' : World) : Prop where
  os : w'.os = w.os
  tape : w'.tape = w.tape
  output : w'.output = w.output
  size : w.heap.size ≤ w'.heap.size
  other : ∀ k, k < w.heap.size → ¬ F k → w'.heap[k]? = w.heap[k]?
  sub : ∀ k, F' k → F k ∨ w.heap.size ≤ k

theorem Keeps.of_below {F : Nat → Prop} {w w' : World} (h : Below w.heap.size w w') : Keeps F F w w' :=
  ⟨h.os, h.tape, h.output, h.size, fun k hk _ => h.block k hk, fun _ h => .inl h⟩

section
/-- What is asked of copy c's operations: S are those that it has, sorted; it has all of its own; their counters are small. -/
structure Own (N : Nat) (P : Nat → List POp) (has : Nat → Nat → Nat) (c : Nat) (S : List POp) : Prop where
  hc : c < N
  perm : S.Perm ((List.range N).flatMap fun i => (P i).take (has c i))
  sort : Sorted S
  all : has c c = (P c).length
  cnt : ∀ p ∈ S, p.id.1 ≤ 1000

theorem Own.top {N : Nat} {P : Nat → List POp} {has : Nat → Nat → Nat} {c : Nat} {S : List POp} (h : Own N P has c S) : topP S < 900000 := by
  obtain ⟨_, _, h3⟩ := topP_spec S
  rcases h3 with h3 | ⟨p, hp, h3⟩
  · omega
  · have := h.cnt p hp; omega

end

section
end

end Go.Proofs.YtnkpogjiiohapaaGreatDoor

/-! PRepA: One copy of the program's room in memory; what it may make; have. -/
namespace Go.Proofs.YtnkpogjiiohapaaGreatDoor
open Go.RowKit
attribute [local go_sem ↓] Go.wp_at_zero Go.wp_at_succ

section
end

theorem isVals.lt' {w : World} {b : Nat} {vs : List (PId × PVal)} (h : isVals w (some b) vs) : b < w.heap.size := by
  rcases h with ⟨h, _⟩ | ⟨b', es, clk, e, hm⟩
  · cases h
  · cases e; exact hm.lt
/-- All that it leads to is there. -/
theorem QOwn.there {w : World} {d bo be : Nat} {R : Nat → Prop} {os : List (PId × CQObj)} {els : List (PId × CQEl)} (h : QOwn bo be R os els) (hq : isQ w d bo be os els) : QOwn bo be (fun k => R k ∧ k < w.heap.size) os els := by
  refine ⟨h.ne, fun hb => h.ro hb.1, fun hb => h.re hb.1, fun p hp b hb => ⟨h.kv p hp b hb, ?_⟩, fun p hp k hk b hb => ⟨h.kk p hp k hk b hb, ?_⟩, fun p hp b hb => ⟨h.vals p hp b hb, ?_⟩⟩
  · exact isKeys.lt (hq.hk p hp) b hb
  · have := (hq.hk p hp).2 k hk
    rw [hb] at this
    exact this.lt'
  · have := hq.hv p hp
    rw [hb] at this
    exact this.lt'
theorem setRow {w : World} {g i : Nat} {cs : Array Value} {t : TypeId} {u : Value} (h : w.heap[g]? = some (.cells cs t (0, 0))) : (w.setCell ⟨g, i, none⟩ u).heap[g]? = some (.cells (cs.setIfInBounds i u) t (0, 0)) := by
  have hl := blk_lt h
  obtain ⟨_, he⟩ := Array.getElem?_eq_some_iff.1 h
  simp [World.setCell, hl, Array.getElem_modify_self, he]

theorem set6_1 {w : World} {g : Nat} {a b c d e f u : Value} {t : TypeId} (h : w.heap[g]? = some (.cells #[a, b, c, d, e, f] t (0, 0))) : (w.setCell ⟨g, 1, none⟩ u).heap[g]? = some (.cells #[a, u, c, d, e, f] t (0, 0)) := by
  have hl := blk_lt h
  obtain ⟨_, he⟩ := Array.getElem?_eq_some_iff.1 h
  simp [World.setCell, hl, Array.getElem_modify_self, he]

end Go.Proofs.YtnkpogjiiohapaaGreatDoor

/-! PRepB: One copy of the program's room: write. -/
namespace Go.Proofs.YtnkpogjiiohapaaGreatDoor
open Go.RowKit
attribute [local go_sem ↓] Go.wp_at_zero Go.wp_at_succ

theorem Keeps.before {F F' : Nat → Prop} {w W w' : World} (hb : Below w.heap.size w W) (h : Keeps F F' W w') : Keeps F F' w w' :=
  ⟨h.os.trans hb.os, h.tape.trans hb.tape, h.output.trans hb.output, Nat.le_trans hb.size h.size, fun k hk hF => (h.other k (Nat.lt_of_lt_of_le hk hb.size) hF).trans (hb.block k hk), fun k hk => (h.sub k hk).imp id fun h' => Nat.le_trans hb.size h'⟩
theorem Keeps.after {F F' : Nat → Prop} {w w' w'' : World} (h : Keeps F F' w w') (hb : Below w'.heap.size w' w'') : Keeps F F' w w'' :=
  ⟨hb.os.trans h.os, hb.tape.trans h.tape, hb.output.trans h.output, Nat.le_trans h.size hb.size, fun k hk hF => (hb.block k (Nat.lt_of_lt_of_le hk h.size)).trans (h.other k hk hF), h.sub⟩
theorem Keeps.setNew {F F' : Nat → Prop} {w w' : World} (h : Keeps F F' w w') {g o : Nat} (hg : w.heap.size ≤ g) (u : Value) : Keeps F F' w (w'.setCell ⟨g, o, none⟩ u) :=
  ⟨h.os, h.tape, h.output, by simpa [World.setCell] using h.size, fun k hk hF => (setCell_other (by omega)).trans (h.other k hk hF), h.sub⟩
theorem Keeps.trans {F F1 F2 : Nat → Prop} {w w1 w2 : World} (h : Keeps F F1 w w1) (k : Keeps F1 F2 w1 w2) : Keeps F F2 w w2 :=
  ⟨k.os.trans h.os, k.tape.trans h.tape, k.output.trans h.output, Nat.le_trans h.size k.size, fun i hi hF => (k.other i (Nat.lt_of_lt_of_le hi h.size) fun h1 => (h.sub i h1).elim hF fun h2 => by omega).trans (h.other i hi hF),
    fun i hi => (k.sub i hi).elim (fun h1 => h.sub i h1) fun h1 => .inr (Nat.le_trans h.size h1)⟩
section
end
end Go.Proofs.YtnkpogjiiohapaaGreatDoor
