/- Our own text (GTrimD). -/
import Derived.Deep.RegionHeld3
import Derived.Test.YtnkpogjiiohapaaGreatDoorA43
set_option linter.unusedSimpArgs false
set_option linter.unusedVariables false

/-! GTrimD: A copy's history in general: Forget. -/
namespace Go.Proofs.YtnkpogjiiohapaaGreatDoor
open Go.RowKit
attribute [local go_sem ↓] Go.wp_at_zero Go.wp_at_succ

/-- What Forget leaves. -/
def ForgD (hb sp : Nat) (ops : List MOp) (d bo be : Nat) (F I : Nat → Prop) (D0 : BDoc) (D : QDoc) (G : Nat) (w w' : World) : Prop := ∃ su' vo' vr' rs' F', HistG w' hb sp su' vo' vr' (ops.drop G) (ops.drop G).length rs' d bo be F' I (D0.1, D0.2 ++ (ops.take G).map (·.op)) D ∧ rs'.length = (su' + (ops.drop G).length) / sp + 1 ∧ Keeps F F' w w'
theorem drop_ptr (rs : List RDoc) (b : Nat) : ((rs.map (·.d)).flatMap ptrC).drop (b * 1) = ((rs.drop b).map (·.d)).flatMap ptrC := by
  have e : ∀ l : List Nat, l.flatMap ptrC = l.map fun k => Value.pointer (some ⟨k, 0, none⟩) := fun l => by unfold ptrC; exact List.map_eq_flatMap.symm
  rw [e, e, Nat.mul_one, List.map_drop, List.map_drop]
theorem drop_mops (ops : List MOp) (G : Nat) : (ops.flatMap mopC).drop (G * 4) = (ops.drop G).flatMap mopC := by
  by_cases h : G ≤ ops.length
  · have e : ops.flatMap mopC = (ops.take G).flatMap mopC ++ (ops.drop G).flatMap mopC := by rw [← List.flatMap_append, List.take_append_drop]
    have hl : ((ops.take G).flatMap mopC).length = G * 4 := by rw [flat_len mopC 4 (fun _ => rfl), List.length_take, Nat.min_eq_left h]
    rw [e, List.drop_append_of_le_length (by omega), List.drop_eq_nil_of_le (by omega), List.nil_append]
  · rw [List.drop_eq_nil_of_le (show ops.length ≤ G by omega), List.drop_eq_nil_of_le (by rw [flat_len mopC 4 (fun _ => rfl)]; omega)]
    rfl
theorem ptrs_wf (l : List Nat) : ∀ u ∈ l.flatMap ptrC, u.oneCell' = true := fun u hu => by
  obtain ⟨x, _, hx⟩ := List.mem_flatMap.1 hu
  exact wf_ptr x u hx
theorem mops_wf (l : List MOp) : ∀ u ∈ l.flatMap mopC, u.oneCell' = true := fun u hu => by
  obtain ⟨x, _, hx⟩ := List.mem_flatMap.1 hu
  exact wf_mop x u hx

set_option maxRecDepth 1000000 in
set_option maxHeartbeats 400000 in
theorem do_none {w : World} (d c : Nat) : Calls Tryz.prog 134 #[.pointer (some ⟨d, 0, none⟩), .slice none 0 c] w fun e w' => (∃ r, e = .returned r) ∧ w' = w := by
  go_enter Tryz.func134, Tryz.ntmps134
  go_wp2
  refine wp_loop_rounds 1 ?_
  rw [rounds_succ]
  go_wp2
  go_end0
  exact ⟨⟨_, rfl⟩, rfl⟩

section
/-- What Do makes of a state that is remembered. -/
def DoB (w : World) (dk b e : Nat) (R : Nat → Prop) (D : QDoc) (l : List QOp) (en : Ending) (w' : World) : Prop := (∃ r, en = .returned r) ∧ (∃ D', DoTo D l D' ∧ isQ w' dk b e D'.1 D'.2 ∧ QOwn b e R D'.1 D'.2) ∧ Turned (fun k => k = b ∨ k = e) w w'
/-- The next operations are done in it. -/
theorem HistG.doB {w : World} {hb sp su : Nat} {vo vr : Value} {ops : List MOp} {rs : List RDoc} {d bo be : Nat} {F I : Nat → Prop} {D0 : BDoc} {D : QDoc} {n : Nat} {W : World} (h : HistG w hb sp su vo vr ops n rs d bo be F I D0 D) (ht : Turned (fun k => k = hb ∨ vr.ownBlock = some k) w W) {base : Nat} (hb1 : base < rs.length) {k G : Nat} (hkG : k ≤ G) (hG : G ≤ ops.length) (hk : k ≤ 10000) {a : Option Addr} {c : Nat} (ha : (a = none ∧ G = k) ∨ ∃ g o, a = some ⟨g, o, none⟩ ∧ G - k ≤ c ∧ (G = k ∨ (vo.ownBlock = some g ∧ o = k * 4)) ∧ o ≤ 100000) :
    Calls Tryz.prog 134 #[.pointer (some ⟨rs[base].d, 0, none⟩), .slice a (G - k) c] W.drew fun e w' => DoB W.drew rs[base].d rs[base].b rs[base].e (fun j => ofR F rs bo be j ∨ W.drew.heap.size ≤ j) rs[base].D (((ops.map (·.op)).drop k).take (G - k)) e w' := by
  obtain ⟨q0, o0, n0⟩ := h.docs _ (List.getElem_mem hb1)
  have hkc : ∀ k, (k = hb ∨ vr.ownBlock = some k) → ∃ c t f, w.heap[k]? = some (.cells c t f) ∧ t ≠ 174 := fun k hk => by
    rcases hk with rfl | hk
    · exact ⟨_, _, _, h.blk, by decide⟩
    · obtain ⟨cur, hc⟩ := own_type h.mem hk
      exact ⟨_, _, _, hc, by decide⟩
  have q1 := (q0.kept ht hkc).keep (Below.refl W.heap.size W).drew
  have hsz := ht.size
  have o1 : QOwn rs[base].b rs[base].e (fun j => ofR F rs bo be j ∨ W.drew.heap.size ≤ j) rs[base].D.1 rs[base].D.2 := o0.mono (fun j hj => .inl hj) (fun hx => hx.elim o0.ro fun x => by have := h.lt _ (h.fr _ (List.getElem_mem hb1)).2.1; have : W.drew.heap.size = W.heap.size := rfl; omega) (fun hx => hx.elim o0.re fun x => by have := h.lt _ (h.fr _ (List.getElem_mem hb1)).2.2; have : W.drew.heap.size = W.heap.size := rfl; omega)
  have hll : (((ops.map (·.op)).drop k).take (G - k)).length = G - k := by simp; omega
  have hlen := h.len
  rcases ha with ⟨rfl, hGk⟩ | ⟨g, o, rfl, hc, hcase, ho⟩
  · have e0 : G - k = 0 := by omega
    rw [e0]
    refine (do_none _ _).mono ?_
    rintro e w' ⟨he, rfl⟩
    exact ⟨he, ⟨_, rfl, q1, o1⟩, Turned.of_below (Below.refl _ _)⟩
  · have := do_q (w := W.drew) (R := fun j => ofR F rs bo be j ∨ W.drew.heap.size ≤ j) q1 o1 n0 (fun j hj => .inr hj) g o c (((ops.map (·.op)).drop k).take (G - k)) (by rw [hll]; exact hc) (by rw [hll]; omega) ho (fun i hi => by
      rw [hll] at hi
      rcases hcase with hx | ⟨hg, rfl⟩
      · omega
      obtain ⟨av, cv, rfl, _, _, hf⟩ := owns_form h.row
      obtain ⟨g', rfl⟩ := hf 0 (by omega)
      obtain rfl : g' = g := by injection hg
      have hrow : ownMOps 0 W.drew (.slice (some ⟨g', 0, none⟩) ops.length cv) ops := row_blk h.row fun b hbk => by
        obtain ⟨cur, hcu⟩ := own_type h.row hbk
        refine ht.other b (blk_lt hcu) fun hS => ?_
        rcases hS with rfl | hS
        · exact absurd (cells_type hcu h.blk) (by decide)
        · obtain ⟨cur', hc'⟩ := own_type h.mem hS
          exact absurd (cells_type hcu hc') (by decide)
      obtain ⟨e0, e1, e2, e3⟩ := ownMOps.cells hrow (k + i) (by omega)
      have hop := (h.chg ops[k + i] (List.getElem_mem _)).keepI (w' := W.drew) (fun j hj => ht.other j (h.iI j hj) fun hS => h.nI j hj (hS.elim (fun e => e ▸ h.fh) (h.fv j))) (fun _ x => x)
      rw [show k * 4 + i * 4 = (k + i) * 4 by omega]
      simp only [List.getElem_take, List.getElem_drop, List.getElem_map]
      exact ⟨e0, e1, e2, _, e3, hop.chg⟩)
    rw [hll] at this
    exact this
end

theorem forg_ne {w : World} {hb sp su : Nat} {vo : Value} {g4 cr n : Nat} {ops : List MOp} {rs : List RDoc} {d bo be : Nat} {F I : Nat → Prop} {D0 : BDoc} {D : QDoc} (h : HistG w hb sp su vo (.slice (some ⟨g4, 0, none⟩) (rs.map (·.d)).length cr) ops n rs d bo be F I D0 D) {base : Nat} (hb1 : base < rs.length) : ¬ (hb = rs[base].b ∨ hb = rs[base].e) ∧ ¬ (g4 = rs[base].b ∨ g4 = rs[base].e) := by
  obtain ⟨q0, _, _⟩ := h.docs _ (List.getElem_mem hb1)
  obtain ⟨es, clk, hmo⟩ := q0.ho
  obtain ⟨es2, clk2, hme⟩ := q0.he
  have h1 := h.blk
  unfold isHs at h1
  obtain ⟨cur, h2⟩ := own_type h.mem (g := g4) rfl
  refine ⟨fun e => ?_, fun e => ?_⟩
  · rcases e with e | e
    · rw [e, hmo.blk] at h1; cases h1
    · rw [e, hme.blk] at h1; cases h1
  · rcases e with e | e
    · rw [e, hmo.blk] at h2; cases h2
    · rw [e, hme.blk] at h2; cases h2

theorem forg_row {w W W' : World} {hb sp su n : Nat} {vo vr : Value} {ops : List MOp} {rs : List RDoc} {d bo be : Nat} {F I : Nat → Prop} {D0 : BDoc} {D : QDoc} (h : HistG w hb sp su vo vr ops n rs d bo be F I D0 D) (ht : Turned (fun k => k = hb ∨ vr.ownBlock = some k) w W) {base : Nat} (hb1 : base < rs.length) (ht2 : Turned (fun k => k = rs[base].b ∨ k = rs[base].e) W.drew W') : ownMOps 0 W' vo ops := row_blk h.row fun b hbk => by
  obtain ⟨q0, _, _⟩ := h.docs _ (List.getElem_mem hb1)
  obtain ⟨es, clk, hmo⟩ := q0.ho
  obtain ⟨es2, clk2, hme⟩ := q0.he
  obtain ⟨cur, hcu⟩ := own_type h.row hbk
  rw [ht2.other b (Nat.lt_of_lt_of_le (blk_lt hcu) ht.size) (fun e => by
    rcases e with rfl | rfl
    · rw [hmo.blk] at hcu; cases hcu
    · rw [hme.blk] at hcu; cases hcu)]
  refine ht.other b (blk_lt hcu) fun hS => ?_
  rcases hS with rfl | hS
  · exact absurd (cells_type hcu h.blk) (by decide)
  · obtain ⟨cur', hc'⟩ := own_type h.mem hS
    exact absurd (cells_type hcu hc') (by decide)

/-- What is left when all is done. -/
theorem forg_end {w W W' w7 w9 : World} {hb sp su : Nat} {vo : Value} {g4 cr nl k4 : Nat} {ops : List MOp} {rs : List RDoc} {d bo be : Nat} {F I : Nat → Prop} {D0 : BDoc} {D : QDoc} (h : HistG w hb sp su vo (.slice (some ⟨g4, 0, none⟩) (rs.map (·.d)).length cr) ops ops.length rs d bo be F I D0 D) (hcnt : rs.length = (su + ops.length) / sp + 1) {base G t : Nat} (hG : G ≤ ops.length) (hbase : base = (su + G) / sp) (ht' : t = (su + G) % sp) (hb1 : base < rs.length)
    (ht : Turned (fun k => k = hb ∨ (Value.slice (some ⟨g4, 0, none⟩) (rs.map (·.d)).length cr).ownBlock = some k) w W) (ht2 : Turned (fun k => k = rs[base].b ∨ k = rs[base].e) W.drew W') {cs : Array Value} (hx7 : w7.heap[hb]? = some (.cells cs 204 (0, 0))) (hr : ownDocs 0 W' (.slice (some ⟨g4, 0, none⟩) nl k4) ((rs.drop base).map (·.d))) (hvo : ownMOps 0 W' vo ops) {v7 : Value} (hrow : ownMOps 0 w7 v7 (ops.drop G)) (ht7 : Turned (fun k => vo.ownBlock = some k) W' w7) (hv : v7.ownBlock = vo.ownBlock) (ht9 : Turned (fun k => k = hb) w7 w9) (hx9 : isHs w9 hb sp t v7 (.slice (some ⟨g4, 0, none⟩) nl k4) d) {Dn : QDoc}
    (hdo : DoTo rs[base].D (((ops.map (·.op)).drop (base * sp - su)).take (G - (base * sp - su))) Dn) (hq : isQ W' rs[base].d rs[base].b rs[base].e Dn.1 Dn.2) (ho : QOwn rs[base].b rs[base].e (fun j => ofR F rs bo be j ∨ W.drew.heap.size ≤ j) Dn.1 Dn.2) : ForgD hb sp ops d bo be F I D0 D G w w9 := by
  have hz := ht.size
  have hd : W.drew.heap.size = W.heap.size := rfl
  obtain ⟨f1, f2, f3⟩ := h.fr _ (List.getElem_mem hb1)
  have h7 : ∀ (k : Nat) (c : Array Value) (ty : TypeId) (f : Nat × Nat), W'.heap[k]? = some (.cells c ty f) → ty ≠ 210 → w7.heap[k]? = W'.heap[k]? := fun k c ty f hk hn => ht7.other k (blk_lt hk) fun hS => by
    obtain ⟨cur, hc⟩ := own_type hvo hS
    exact hn (cells_type hk hc)
  have h9 : ∀ (k : Nat) (c : Array Value) (ty : TypeId) (f : Nat × Nat), w7.heap[k]? = some (.cells c ty f) → ty ≠ 204 → w9.heap[k]? = w7.heap[k]? := fun k c ty f hk hn => ht9.other k (blk_lt hk) fun hS => by
    rw [hS] at hk
    exact hn (cells_type hk hx7)
  have hq9 : isQ w9 rs[base].d rs[base].b rs[base].e Dn.1 Dn.2 := (hq.kept ht7 fun k hk => by
    obtain ⟨cur, hc⟩ := own_type hvo hk
    exact ⟨_, _, _, hc, by decide⟩).kept ht9 fun k hk => by
    rw [hk]
    exact ⟨_, _, _, hx7, by decide⟩
  have hrow9 : ownMOps 0 w9 v7 (ops.drop G) := row_blk hrow fun g hg => by
    obtain ⟨cur, hc⟩ := own_type hrow hg
    exact h9 g _ _ _ hc (by decide)
  have hmem9 : ownDocs 0 w9 (.slice (some ⟨g4, 0, none⟩) nl k4) ((rs.drop base).map (·.d)) := row_blk hr fun g hg => by
    obtain ⟨cur, hc⟩ := own_type hr hg
    have e7 := h7 g _ _ _ hc (by decide)
    exact (h9 g _ _ _ (e7.trans hc) (by decide)).trans e7
  have hT : Turned (forgS hb vo (.slice (some ⟨g4, 0, none⟩) (rs.map (·.d)).length cr) rs[base].b rs[base].e) w w9 := ((((ht.mono fun k hk => hk.elim .inl fun x => .inr (.inr (.inl x))).trans (Turned.of_below (Below.refl W.heap.size W).drew)).trans (ht2.mono fun k hk => hk.elim (fun x => .inr (.inr (.inr (.inl x)))) fun x => .inr (.inr (.inr (.inr x))))).trans (ht7.mono fun k hk => .inr (.inl hk))).trans (ht9.mono fun k hk => .inl hk)
  rw [ht'] at hx9
  obtain ⟨F', a, b, c⟩ := h.forget hcnt hG hbase hb1 hT hx9 hrow9 hmem9 hv rfl hdo hq9 (ho.mono (fun k hk => hk.imp id fun x => by omega) (fun hx => hx.elim (fun x => x.2 (mem_maps.2 (.inl ⟨_, List.getElem_mem hb1, .inl rfl⟩))) fun x => by have := h.lt _ f2; omega) (fun hx => hx.elim (fun x => x.2 (mem_maps.2 (.inl ⟨_, List.getElem_mem hb1, .inr rfl⟩))) fun x => by have := h.lt _ f3; omega))
  exact ⟨_, _, _, _, F', a, b, c⟩
theorem ForgD.before {w w0 w' : World} {hb sp : Nat} {ops : List MOp} {d bo be : Nat} {F I : Nat → Prop} {D0 : BDoc} {D : QDoc} {G : Nat} (h : ForgD hb sp ops d bo be F I D0 D G w w') (hb0 : Below w0.heap.size w0 w) : ForgD hb sp ops d bo be F I D0 D G w0 w' := by
  obtain ⟨a1, a2, a3, a4, F', b1, b2, b3⟩ := h
  exact ⟨a1, a2, a3, a4, F', b1, b2, b3.before hb0⟩

set_option maxRecDepth 1000000 in
set_option maxHeartbeats 8000000 in
/-- FORGET. -/
theorem forget_any {w : World} {hb sp su : Nat} {vo vr : Value} {ops : List MOp} {rs : List RDoc} {d bo be : Nat} {F I : Nat → Prop} {D0 : BDoc} {D : QDoc} (h : HistG w hb sp su vo vr ops ops.length rs d bo be F I D0 D) (hcnt : rs.length = (su + ops.length) / sp + 1) {gk ck N : Nat} {st : Nat → Int} (hk : isKn w gk ck N st) (hcp : ∀ x ∈ ops, 0 ≤ x.op.id.2 ∧ x.op.id.2 < N) :
    Calls Tryz.prog 81 #[.pointer (some ⟨hb, 0, none⟩), .slice (some ⟨gk, 0, none⟩) N ck] w fun e w' => e = .returned (.int .i64 (leadN st ops)) ∧ ForgD hb sp ops d bo be F I D0 D (leadN st ops) w w' := by
  have hlen := h.len
  have hs1 := h.sp1
  have hs2 := h.sp2
  have hsu := h.su1
  have HLD := hid (leading_g h hk hcp)
  have hGl := lead_le st ops
  obtain ⟨G, hGe⟩ : ∃ G, G = leadN st ops := ⟨_, rfl⟩
  rw [← hGe] at HLD hGl ⊢
  clear hGe hk hcp
  obtain ⟨base, t, hbase, ht', hbt, htl⟩ := div_base (su := su) (G := G) hs1
  have hb1 : base < rs.length := by
    have := Nat.div_le_div_right (c := sp) (show su + G ≤ su + ops.length by omega)
    omega
  have hrl : rs.length ≤ 400 := by rw [hcnt]; have := Nat.div_le_self (su + ops.length) sp; omega
  have hdG : base * sp - su ≤ G := by omega
  have HLW := hid (fun W (hb' : Below w.heap.size w W) => lastWithin_s (h.keep hb').blk G (by omega) hs1 hs2 (by omega))
  rw [← hbase] at HLW
  have HDN := hid (fun W (hb' : Below w.heap.size w W) => doneIn_s (h.keep hb').blk base (by omega) hs2 (by omega))
  obtain ⟨dn, hdn⟩ : ∃ dn, dn = base * sp - su := ⟨_, rfl⟩
  rw [← hdn] at hdG HDN
  obtain ⟨ar, cr, rfl, hlr, hcr, hfr⟩ := owns_form h.mem
  unfold maxLen at hcr
  rw [List.length_map] at hlr hfr
  obtain ⟨gr, rfl⟩ := hfr 0 (by omega)
  have HH := hid (And.intro h hcnt)
  have HB0 := hid (And.intro hbase (And.intro ht' (And.intro hbt (And.intro htl hdn))))
  clear h hcnt hfr hbase ht' hbt htl hdn
  go_enter Tryz.func81, Tryz.ntmps81
  go_wp2_with fail
  refine HLD.out.mono ?_
  rintro e w1 ⟨rfl, hb1'⟩
  have HB1 := hid hb1'; clear hb1'
  go_wp2_with fail
  refine (HLW.out w1 HB1.out).mono ?_
  rintro e w2 ⟨rfl, hb2⟩
  have HB2 := hid (HB1.out.trans (hb2.mono HB1.out.size)); clear hb2
  go_wp2_with fail
  refine (HDN.out w2 HB2.out).mono ?_
  rintro e w3 ⟨rfl, hb3⟩
  have HB3 := hid (HB2.out.trans (hb3.mono HB2.out.size)); clear hb3
  have HH3 := hid (HH.out.1.keep HB3.out)
  have HDD := hid (deleteDocs HH3.out.mem (ptrs_wf _) (m := base) (by rw [List.length_map]; omega))
  rw [List.length_map] at HDD
  have hx3 := HH3.out.blk
  unfold isHs at hx3
  obtain ⟨c0, c1, c2, c3, c4⟩ := blk5 hx3
  rw [List.length_map] at c3
  have hxl := blk_lt hx3
  have HX3 := hid hx3
  clear hx3 HLD HLW HDN
  go_wp2_with fail
  refine HDD.out.mono ?_
  rintro e w4 ⟨v4, rfl, ho4, ht4, hv4⟩
  have row4 : ownDocs 0 w4 v4 ((rs.drop base).map (·.d)) := by
    unfold ownDocs
    rw [drop_ptr] at ho4
    rw [List.length_map, List.length_drop]
    exact ho4
  obtain ⟨a4, k4, rfl, hl4, hc4, hf4⟩ := owns_form row4
  obtain ⟨nl, hnl⟩ : ∃ nl, nl = rs.length - base := ⟨_, rfl⟩
  have hdl : ((rs.drop base).map (·.d)).length = nl := by rw [List.length_map, List.length_drop, hnl]
  have hnl0 : 0 < nl := by omega
  have hnlI : (0 : Int) < (nl : Int) := by omega
  obtain ⟨g4, rfl⟩ := hf4 0 (by rw [hdl]; omega)
  obtain rfl : g4 = gr := by injection hv4
  rw [hdl] at hl4
  unfold maxLen at hc4
  have r0 := docp_cell row4 0 (by rw [hdl]; omega)
  rw [List.getElem_map, List.getElem_drop] at r0
  have e00 : rs[base + 0]'(by omega) = rs[base] := rfl
  rw [e00] at r0
  have hne : hb ≠ g4 := fun e => by
    obtain ⟨cur, hc⟩ := own_type HH3.out.mem (g := g4) rfl
    rw [← e] at hc
    exact absurd (cells_type hc HX3.out) (by decide)
  have hx4 := (ht4.other hb hxl (fun e => hne (by injection e with e; exact e.symm))).trans HX3.out
  have hz4 := blk_fz hx4 3
  have x43 := (blk5 hx4).2.2.2.1
  have hx5 := set5_3 (u := .slice (some ⟨g4, 0, none⟩) nl k4) hx4
  have ht5 : Turned (fun k => k = hb ∨ (Value.slice (some ⟨g4, 0, none⟩) (rs.map (·.d)).length cr).ownBlock = some k) w3 (w4.setCell ⟨hb, 3, none⟩ (.slice (some ⟨g4, 0, none⟩) nl k4)) := (ht4.mono fun k hk => .inr hk).trans (Turned.setC _ (.inl rfl))
  have r5 : (w4.setCell ⟨hb, 3, none⟩ (.slice (some ⟨g4, 0, none⟩) nl k4)).cell? ⟨g4, 0, none⟩ = some (.pointer (some ⟨rs[base].d, 0, none⟩)) := by
    simp only [World.cell?]
    rw [setCell_other (Ne.symm hne)]
    simpa [World.cell?] using r0
  have HR4 := hid (show ownDocs 0 (w4.setCell ⟨hb, 3, none⟩ (.slice (some ⟨g4, 0, none⟩) nl k4)) (.slice (some ⟨g4, 0, none⟩) nl k4) ((rs.drop base).map (·.d)) from by rw [← hdl]; exact row_blk row4 fun g hg => setCell_other (fun e => by cases hg; exact hne e.symm))
  have HX5 := hid hx5; have HT5 := hid ht5
  have hxl4 := blk_lt hx4
  rw [hdl]
  have HNL := hid hnl
  clear ho4 ht4 hv4 row4 hf4 r0 e00 c0 c1 c2 c3 c4 hxl HDD hnl hdl
  obtain ⟨ao, co, hvo, hlo, hco, hfo⟩ := owns_form HH3.out.row
  subst hvo
  unfold maxLen at hco
  obtain ⟨d0, d1, d2, d3, d4⟩ := blk5 hx5
  have hxl5 := blk_lt hx5
  have hz5 := blk_fz hx5
  have ho0 : (0 : Int) ≤ (dn : Int) := Int.natCast_nonneg _
  have ho1 : (dn : Int) ≤ (G : Int) := by omega
  have ho2 : (G : Int) ≤ (co : Int) := by omega
  obtain ⟨go, rfl⟩ | ⟨rfl, hnil, hco0⟩ : (∃ go, ao = some ⟨go, 0, none⟩) ∨ (ao = none ∧ ops = [] ∧ co = 0) := by
    rcases HH3.out.row.2 with ⟨e, e2⟩ | ⟨g, cap, cur, e, _⟩
    · injection e with e1 _ e3; exact .inr ⟨e1, List.length_eq_zero_iff.1 e2, e3⟩
    · injection e with e1 _ _; exact .inl ⟨g, e1⟩
  · by_cases hcd : co = dn
    · subst hcd
      have HDO := hid (HH3.out.doB HT5.out hb1 hdG hGl (by omega) (a := some ⟨go, 0, none⟩) (c := 0) (.inr ⟨go, 0, rfl, by omega, .inl (by omega), by omega⟩))
      go_wp2_with fail
      obtain ⟨w5, hw5⟩ : ∃ w5, w5 = w4.setCell ⟨hb, 3, none⟩ (.slice (some ⟨g4, 0, none⟩) nl k4) := ⟨_, rfl⟩
      rw [← hw5] at HDO HX5 HT5 HR4 d0 d1 d2 d3 d4 hxl5 hz5 r5 ⊢
      clear hw5 x43 hz4 hxl4 hx4 hx5 ht5
      have hgl5 := World.block_lt_of_cell? _ _ r5
      have hnd : ¬ (hb = rs[base].b ∨ hb = rs[base].e) ∧ ¬ (g4 = rs[base].b ∨ g4 = rs[base].e) := forg_ne HH3.out hb1
      go_region_held3 (fun W => W.cell? ⟨hb, 3, none⟩ = some (.slice (some ⟨g4, 0, none⟩) nl k4) ∧ W.cell? ⟨g4, 0, none⟩ = some (.pointer (some ⟨rs[base].d, 0, none⟩)) ∧ W.cell? ⟨hb, 2, none⟩ = some (.slice (some ⟨go, 0, none⟩) ops.length co)) (first | exact HQ6.out | exact ⟨d3, r5, d2⟩)
        (first | (go_at_call 134; refine HDO.out.mono ?_; rintro e w6 ⟨⟨r, rfl⟩, ⟨Dn, hdo, hq6, ho6⟩, ht6⟩; have HQ6 := hid (And.intro (ht6.cell (w := w5.drew) hnd.1 d3) (And.intro (ht6.cell (w := w5.drew) hnd.2 r5) (ht6.cell (w := w5.drew) hnd.1 d2))); have HD6 := hid (And.intro hdo (And.intro hq6 ho6)); have HT6 := hid ht6; clear hdo hq6 ho6 ht6))
      have hx6 : w6.heap[hb]? = some (.cells #[.int .i64 sp, .int .i64 su, .slice (some ⟨go, 0, none⟩) ops.length co, .slice (some ⟨g4, 0, none⟩) nl k4, .pointer (some ⟨d, 0, none⟩)] 204 (0, 0)) := (HT6.out.other hb hxl5 hnd.1).trans HX5.out
      have HRW := hid (show ownMOps 0 w6 (.slice (some ⟨go, 0, none⟩) ops.length co) ops from forg_row HH3.out HT5.out hb1 HT6.out)
      have HR6 := hid (show ownDocs 0 w6 (.slice (some ⟨g4, 0, none⟩) nl k4) ((rs.drop base).map (·.d)) from row_blk HR4.out fun g hg => (by cases hg; exact HT6.out.other _ hgl5 hnd.2))
      have HDL := hid (deleteOps HRW.out (mops_wf _) (m := G) hGl)
      obtain ⟨f0, f1, f2, f3, f4⟩ := blk5 hx6
      have hfl := blk_lt hx6
      have HX6 := hid hx6
      clear hx6 d0 d1 d2 d3 d4 hxl5 hz5 r5 hgl5
      go_wp2_with fail
      refine HDL.out.mono ?_
      rintro e w7 ⟨v7, rfl, ho7, ht7, hv7⟩
      have row7 : ownMOps 0 w7 v7 (ops.drop G) := by
        unfold ownMOps
        rw [drop_mops] at ho7
        rw [List.length_drop]
        exact ho7
      obtain ⟨a7, c7, rfl, hl7, hc7, hf7⟩ := owns_form row7
      obtain ⟨nk, hnk⟩ : ∃ nk, nk = (ops.drop G).length := ⟨_, rfl⟩
      have hneo : hb ≠ go := fun e => by
        obtain ⟨cur, hc⟩ := own_type HRW.out (g := go) rfl
        rw [← e] at hc
        exact absurd (cells_type hc HX6.out) (by decide)
      have hx7 := (ht7.other hb hfl (fun e => hneo (by injection e with e; exact e.symm))).trans HX6.out
      have hx8 := set5_2 (u := .slice a7 (ops.drop G).length c7) hx7
      have HF := hid (fun (w9 : World) (ht9 : Turned (fun k => k = hb) w7 w9) (hx9 : isHs w9 hb sp t (.slice a7 (ops.drop G).length c7) (.slice (some ⟨g4, 0, none⟩) nl k4) d) => (forg_end HH3.out HH.out.2 hGl HB0.out.1 HB0.out.2.1 hb1 HT5.out HT6.out hx7 HR6.out HRW.out row7 ht7 hv7 ht9 hx9 (HB0.out.2.2.2.2 ▸ HD6.out.1) HD6.out.2.1 HD6.out.2.2).before HB3.out)
      rw [← hnk] at hx8 HF hl7 ⊢
      have z72 := blk_fz hx7 2
      obtain ⟨_, _, x72, _, _⟩ := blk5 hx7
      have hxl7 := blk_lt hx7
      obtain ⟨y0, y1, _, _, _⟩ := blk5 hx8
      have hz8 := blk_fz hx8 1
      have hyl := blk_lt hx8
      have HX8 := hid hx8
      have HNK := hid hnk
      unfold maxLen at hc7
      clear hnk ho7 ht7 hv7 row7 hf7 f0 f1 f2 f3 f4 hfl HDL
      have hsum : IntKind.i64.wrap ((su : Int) + (G : Int)) = (su : Int) + (G : Int) := Go.IntWalk.i64_in _ (by omega)
      have hm0 : ((su : Int) + (G : Int)) % (sp : Int) = (t : Int) := by rw [HB0.out.2.1]; simp
      have hm : ((su : Int) + (G : Int)).tmod (sp : Int) = ((su : Int) + (G : Int)) % (sp : Int) := Int.tmod_eq_emod_of_nonneg (by omega)
      have htl : t < sp := HB0.out.2.2.2.1
      have hw : IntKind.i64.wrap (((su : Int) + (G : Int)) % (sp : Int)) = ((su : Int) + (G : Int)) % (sp : Int) := by
        rw [hm0]
        exact Go.IntWalk.i64_in _ (by omega)
      have hn0 : ¬ (sp = 0) := by omega
      have HM0 := hid hm0
      clear hm0
      go_wp2_with fail
      go_region
      all_goals go_wp2
      all_goals go_ret
      all_goals (
        refine ⟨rfl, HF.out _ ?_ ?_⟩
        · first
            | exact ((Turned.setC (S := fun k => k = hb) (g := hb) (o := 2) _ rfl).trans (Turned.of_below (Below.refl _ _).drew)).trans (Turned.setC (S := fun k => k = hb) (g := hb) (o := 1) _ rfl)
            | exact ((Turned.setC (S := fun k => k = hb) (g := hb) (o := 2) _ rfl).trans (Turned.setC (S := fun k => k = hb) (g := hb) (o := 1) _ rfl)).trans (Turned.of_below (Below.refl _ _).drew)
        · have e8 := setRow (i := 1) (u := .int .i64 (((su : Int) + (G : Int)) % (sp : Int))) HX8.out
          rw [HM0.out] at e8 ⊢
          unfold isHs
          simp at e8
          exact e8)
    · have HDO := hid (HH3.out.doB HT5.out hb1 hdG hGl (by omega) (a := some ⟨go, dn * 4, none⟩) (c := co - dn) (.inr ⟨go, dn * 4, rfl, by omega, .inr ⟨rfl, rfl⟩, by omega⟩))
      go_wp2_with fail
      obtain ⟨w5, hw5⟩ : ∃ w5, w5 = w4.setCell ⟨hb, 3, none⟩ (.slice (some ⟨g4, 0, none⟩) nl k4) := ⟨_, rfl⟩
      rw [← hw5] at HDO HX5 HT5 HR4 d0 d1 d2 d3 d4 hxl5 hz5 r5 ⊢
      clear hw5 x43 hz4 hxl4 hx4 hx5 ht5
      have hgl5 := World.block_lt_of_cell? _ _ r5
      have hnd : ¬ (hb = rs[base].b ∨ hb = rs[base].e) ∧ ¬ (g4 = rs[base].b ∨ g4 = rs[base].e) := forg_ne HH3.out hb1
      go_region_held3 (fun W => W.cell? ⟨hb, 3, none⟩ = some (.slice (some ⟨g4, 0, none⟩) nl k4) ∧ W.cell? ⟨g4, 0, none⟩ = some (.pointer (some ⟨rs[base].d, 0, none⟩)) ∧ W.cell? ⟨hb, 2, none⟩ = some (.slice (some ⟨go, 0, none⟩) ops.length co)) (first | exact HQ6.out | exact ⟨d3, r5, d2⟩)
        (first | (go_at_call 134; refine HDO.out.mono ?_; rintro e w6 ⟨⟨r, rfl⟩, ⟨Dn, hdo, hq6, ho6⟩, ht6⟩; have HQ6 := hid (And.intro (ht6.cell (w := w5.drew) hnd.1 d3) (And.intro (ht6.cell (w := w5.drew) hnd.2 r5) (ht6.cell (w := w5.drew) hnd.1 d2))); have HD6 := hid (And.intro hdo (And.intro hq6 ho6)); have HT6 := hid ht6; clear hdo hq6 ho6 ht6))
      have hx6 : w6.heap[hb]? = some (.cells #[.int .i64 sp, .int .i64 su, .slice (some ⟨go, 0, none⟩) ops.length co, .slice (some ⟨g4, 0, none⟩) nl k4, .pointer (some ⟨d, 0, none⟩)] 204 (0, 0)) := (HT6.out.other hb hxl5 hnd.1).trans HX5.out
      have HRW := hid (show ownMOps 0 w6 (.slice (some ⟨go, 0, none⟩) ops.length co) ops from forg_row HH3.out HT5.out hb1 HT6.out)
      have HR6 := hid (show ownDocs 0 w6 (.slice (some ⟨g4, 0, none⟩) nl k4) ((rs.drop base).map (·.d)) from row_blk HR4.out fun g hg => (by cases hg; exact HT6.out.other _ hgl5 hnd.2))
      have HDL := hid (deleteOps HRW.out (mops_wf _) (m := G) hGl)
      obtain ⟨f0, f1, f2, f3, f4⟩ := blk5 hx6
      have hfl := blk_lt hx6
      have HX6 := hid hx6
      clear hx6 d0 d1 d2 d3 d4 hxl5 hz5 r5 hgl5
      go_wp2_with fail
      refine HDL.out.mono ?_
      rintro e w7 ⟨v7, rfl, ho7, ht7, hv7⟩
      have row7 : ownMOps 0 w7 v7 (ops.drop G) := by
        unfold ownMOps
        rw [drop_mops] at ho7
        rw [List.length_drop]
        exact ho7
      obtain ⟨a7, c7, rfl, hl7, hc7, hf7⟩ := owns_form row7
      obtain ⟨nk, hnk⟩ : ∃ nk, nk = (ops.drop G).length := ⟨_, rfl⟩
      have hneo : hb ≠ go := fun e => by
        obtain ⟨cur, hc⟩ := own_type HRW.out (g := go) rfl
        rw [← e] at hc
        exact absurd (cells_type hc HX6.out) (by decide)
      have hx7 := (ht7.other hb hfl (fun e => hneo (by injection e with e; exact e.symm))).trans HX6.out
      have hx8 := set5_2 (u := .slice a7 (ops.drop G).length c7) hx7
      have HF := hid (fun (w9 : World) (ht9 : Turned (fun k => k = hb) w7 w9) (hx9 : isHs w9 hb sp t (.slice a7 (ops.drop G).length c7) (.slice (some ⟨g4, 0, none⟩) nl k4) d) => (forg_end HH3.out HH.out.2 hGl HB0.out.1 HB0.out.2.1 hb1 HT5.out HT6.out hx7 HR6.out HRW.out row7 ht7 hv7 ht9 hx9 (HB0.out.2.2.2.2 ▸ HD6.out.1) HD6.out.2.1 HD6.out.2.2).before HB3.out)
      rw [← hnk] at hx8 HF hl7 ⊢
      have z72 := blk_fz hx7 2
      obtain ⟨_, _, x72, _, _⟩ := blk5 hx7
      have hxl7 := blk_lt hx7
      obtain ⟨y0, y1, _, _, _⟩ := blk5 hx8
      have hz8 := blk_fz hx8 1
      have hyl := blk_lt hx8
      have HX8 := hid hx8
      have HNK := hid hnk
      unfold maxLen at hc7
      clear hnk ho7 ht7 hv7 row7 hf7 f0 f1 f2 f3 f4 hfl HDL
      have hsum : IntKind.i64.wrap ((su : Int) + (G : Int)) = (su : Int) + (G : Int) := Go.IntWalk.i64_in _ (by omega)
      have hm0 : ((su : Int) + (G : Int)) % (sp : Int) = (t : Int) := by rw [HB0.out.2.1]; simp
      have hm : ((su : Int) + (G : Int)).tmod (sp : Int) = ((su : Int) + (G : Int)) % (sp : Int) := Int.tmod_eq_emod_of_nonneg (by omega)
      have htl : t < sp := HB0.out.2.2.2.1
      have hw : IntKind.i64.wrap (((su : Int) + (G : Int)) % (sp : Int)) = ((su : Int) + (G : Int)) % (sp : Int) := by
        rw [hm0]
        exact Go.IntWalk.i64_in _ (by omega)
      have hn0 : ¬ (sp = 0) := by omega
      have HM0 := hid hm0
      clear hm0
      go_wp2_with fail
      go_region
      all_goals go_wp2
      all_goals go_ret
      all_goals (
        refine ⟨rfl, HF.out _ ?_ ?_⟩
        · first
            | exact ((Turned.setC (S := fun k => k = hb) (g := hb) (o := 2) _ rfl).trans (Turned.of_below (Below.refl _ _).drew)).trans (Turned.setC (S := fun k => k = hb) (g := hb) (o := 1) _ rfl)
            | exact ((Turned.setC (S := fun k => k = hb) (g := hb) (o := 2) _ rfl).trans (Turned.setC (S := fun k => k = hb) (g := hb) (o := 1) _ rfl)).trans (Turned.of_below (Below.refl _ _).drew)
        · have e8 := setRow (i := 1) (u := .int .i64 (((su : Int) + (G : Int)) % (sp : Int))) HX8.out
          rw [HM0.out] at e8 ⊢
          unfold isHs
          simp at e8
          exact e8)
  · subst hnil
    obtain rfl : G = 0 := Nat.le_zero.1 hGl
    obtain rfl : dn = 0 := Nat.le_zero.1 hdG
    subst hco0
    have HDO := hid (HH3.out.doB HT5.out hb1 hdG hGl (by omega) (a := none) (c := 0) (.inl ⟨rfl, rfl⟩))
    go_wp2_with fail
    obtain ⟨w5, hw5⟩ : ∃ w5, w5 = w4.setCell ⟨hb, 3, none⟩ (.slice (some ⟨g4, 0, none⟩) nl k4) := ⟨_, rfl⟩
    rw [← hw5] at HDO HX5 HT5 HR4 d0 d1 d2 d3 d4 hxl5 hz5 r5 ⊢
    clear hw5 x43 hz4 hxl4 hx4 hx5 ht5
    have hgl5 := World.block_lt_of_cell? _ _ r5
    have hnd : ¬ (hb = rs[base].b ∨ hb = rs[base].e) ∧ ¬ (g4 = rs[base].b ∨ g4 = rs[base].e) := forg_ne HH3.out hb1
    go_region_held3 (fun W => W.cell? ⟨hb, 3, none⟩ = some (.slice (some ⟨g4, 0, none⟩) nl k4) ∧ W.cell? ⟨g4, 0, none⟩ = some (.pointer (some ⟨rs[base].d, 0, none⟩)) ∧ W.cell? ⟨hb, 2, none⟩ = some (.slice none 0 0)) (first | exact HQ6.out | exact ⟨d3, r5, d2⟩)
      (first | (go_at_call 134; refine HDO.out.mono ?_; rintro e w6 ⟨⟨r, rfl⟩, ⟨Dn, hdo, hq6, ho6⟩, ht6⟩; have HQ6 := hid (And.intro (ht6.cell (w := w5.drew) hnd.1 d3) (And.intro (ht6.cell (w := w5.drew) hnd.2 r5) (ht6.cell (w := w5.drew) hnd.1 d2))); have HD6 := hid (And.intro hdo (And.intro hq6 ho6)); have HT6 := hid ht6; clear hdo hq6 ho6 ht6))
    have hx6 : w6.heap[hb]? = some (.cells #[.int .i64 sp, .int .i64 su, .slice none 0 0, .slice (some ⟨g4, 0, none⟩) nl k4, .pointer (some ⟨d, 0, none⟩)] 204 (0, 0)) := (HT6.out.other hb hxl5 hnd.1).trans HX5.out
    have HRW := hid (show ownMOps 0 w6 (.slice none 0 0) ([] : List MOp) from forg_row HH3.out HT5.out hb1 HT6.out)
    have HR6 := hid (show ownDocs 0 w6 (.slice (some ⟨g4, 0, none⟩) nl k4) ((rs.drop base).map (·.d)) from row_blk HR4.out fun g hg => (by cases hg; exact HT6.out.other _ hgl5 hnd.2))
    have HDL := hid (deleteOps HRW.out (mops_wf _) (m := 0) hGl)
    obtain ⟨f0, f1, f2, f3, f4⟩ := blk5 hx6
    have hfl := blk_lt hx6
    have HX6 := hid hx6
    clear hx6 d0 d1 d2 d3 d4 hxl5 hz5 r5 hgl5
    go_wp2_with fail
    refine HDL.out.mono ?_
    rintro e w7 ⟨v7, rfl, ho7, ht7, hv7⟩
    have row7 : ownMOps 0 w7 v7 (([] : List MOp).drop 0) := by
      unfold ownMOps
      rw [drop_mops] at ho7
      rw [List.length_drop]
      exact ho7
    obtain ⟨a7, c7, rfl, hl7, hc7, hf7⟩ := owns_form row7
    obtain ⟨nk, hnk⟩ : ∃ nk, nk = (([] : List MOp).drop 0).length := ⟨_, rfl⟩
    have hx7 := (ht7.other hb hfl (fun e => by cases e)).trans HX6.out
    have hx8 := set5_2 (u := .slice a7 (([] : List MOp).drop 0).length c7) hx7
    have HF := hid (fun (w9 : World) (ht9 : Turned (fun k => k = hb) w7 w9) (hx9 : isHs w9 hb sp t (.slice a7 (([] : List MOp).drop 0).length c7) (.slice (some ⟨g4, 0, none⟩) nl k4) d) => (forg_end HH3.out HH.out.2 hGl HB0.out.1 HB0.out.2.1 hb1 HT5.out HT6.out hx7 HR6.out HRW.out row7 ht7 hv7 ht9 hx9 (HB0.out.2.2.2.2 ▸ HD6.out.1) HD6.out.2.1 HD6.out.2.2).before HB3.out)
    rw [← hnk] at hx8 HF hl7 ⊢
    have z72 := blk_fz hx7 2
    obtain ⟨_, _, x72, _, _⟩ := blk5 hx7
    have hxl7 := blk_lt hx7
    obtain ⟨y0, y1, _, _, _⟩ := blk5 hx8
    have hz8 := blk_fz hx8 1
    have hyl := blk_lt hx8
    have HX8 := hid hx8
    have HNK := hid hnk
    unfold maxLen at hc7
    clear hnk ho7 ht7 hv7 row7 hf7 f0 f1 f2 f3 f4 hfl HDL
    have hsum : IntKind.i64.wrap ((su : Int) + ((0 : Nat) : Int)) = (su : Int) + ((0 : Nat) : Int) := Go.IntWalk.i64_in _ (by omega)
    have hm0 : ((su : Int) + ((0 : Nat) : Int)) % (sp : Int) = (t : Int) := by rw [HB0.out.2.1]; simp
    have hm : ((su : Int) + ((0 : Nat) : Int)).tmod (sp : Int) = ((su : Int) + ((0 : Nat) : Int)) % (sp : Int) := Int.tmod_eq_emod_of_nonneg (by omega)
    have htl : t < sp := HB0.out.2.2.2.1
    have hw : IntKind.i64.wrap (((su : Int) + ((0 : Nat) : Int)) % (sp : Int)) = ((su : Int) + ((0 : Nat) : Int)) % (sp : Int) := by
      rw [hm0]
      exact Go.IntWalk.i64_in _ (by omega)
    have hn0 : ¬ (sp = 0) := by omega
    have HM0 := hid hm0
    clear hm0
    go_wp2_with fail
    go_region
    all_goals go_wp2
    all_goals go_ret
    all_goals (
      refine ⟨rfl, HF.out _ ?_ ?_⟩
      · first
          | exact ((Turned.setC (S := fun k => k = hb) (g := hb) (o := 2) _ rfl).trans (Turned.of_below (Below.refl _ _).drew)).trans (Turned.setC (S := fun k => k = hb) (g := hb) (o := 1) _ rfl)
          | exact ((Turned.setC (S := fun k => k = hb) (g := hb) (o := 2) _ rfl).trans (Turned.setC (S := fun k => k = hb) (g := hb) (o := 1) _ rfl)).trans (Turned.of_below (Below.refl _ _).drew)
      · have e8 := setRow (i := 1) (u := .int .i64 (t : Int)) HX8.out
        rw [show ((su : Int) % (sp : Int)) = (t : Int) by have h0 := HM0.out; simpa using h0]
        unfold isHs
        simp at e8
        exact e8)

end Go.Proofs.YtnkpogjiiohapaaGreatDoor
