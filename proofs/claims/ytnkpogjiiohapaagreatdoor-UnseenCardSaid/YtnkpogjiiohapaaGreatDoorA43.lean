/- Our own text (GTrimC). -/
import Derived.Test.YtnkpogjiiohapaaGreatDoorA18
import Derived.Test.YtnkpogjiiohapaaGreatDoorA41
import Derived.Test.YtnkpogjiiohapaaGreatDoorA42
set_option linter.unusedSimpArgs false
set_option linter.unusedVariables false

/-! GTrimC: A copy's history in general: what forgetting makes of it. -/
namespace Go.Proofs.YtnkpogjiiohapaaGreatDoor
open Go.RowKit

/-- The states that are left: the first has all that is forgotten done in it. -/
def leftR (rs : List RDoc) (base : Nat) (D' : QDoc) : List RDoc := match rs.drop base with
  | [] => []
  | r :: l => { r with D := D' } :: l
theorem left_len (rs : List RDoc) (base : Nat) (D' : QDoc) : (leftR rs base D').length = rs.length - base := by
  unfold leftR
  rw [← List.length_drop]
  cases rs.drop base <;> rfl
theorem left_d (rs : List RDoc) (base : Nat) (D' : QDoc) : (leftR rs base D').map (·.d) = (rs.drop base).map (·.d) := by
  unfold leftR
  cases rs.drop base <;> rfl
theorem left_maps (rs : List RDoc) (base : Nat) (D' : QDoc) (bo be : Nat) : mapsOf (leftR rs base D') bo be = mapsOf (rs.drop base) bo be := by
  unfold leftR mapsOf
  cases rs.drop base <;> rfl
theorem left_mem {rs : List RDoc} {base : Nat} {D' : QDoc} (hb : base < rs.length) {r : RDoc} (h : r ∈ leftR rs base D') : r = { rs[base] with D := D' } ∨ (r ∈ rs.drop (base + 1)) := by
  unfold leftR at h
  rw [List.drop_eq_getElem_cons hb] at h
  rcases List.mem_cons.1 h with h | h
  · exact .inl h
  · exact .inr h
theorem left_zero {rs : List RDoc} {base : Nat} {D' : QDoc} (hb : base < rs.length) (h : 0 < (leftR rs base D').length) : (leftR rs base D')[0].D = D' := by
  unfold leftR
  simp only [List.drop_eq_getElem_cons hb]
  rfl
theorem left_succ {rs : List RDoc} {base : Nat} {D' : QDoc} {j : Nat} (hb : base < rs.length) (h : j + 1 < (leftR rs base D').length) : (leftR rs base D')[j + 1] = rs[base + (j + 1)]'(by rw [left_len] at h; omega) := by
  have h' := h
  rw [left_len] at h'
  unfold leftR
  simp only [List.drop_eq_getElem_cons hb, List.getElem_cons_succ, List.getElem_drop]
  congr 1
  omega
theorem div_base {sp su G : Nat} (h1 : 1 ≤ sp) : ∃ b t, b = (su + G) / sp ∧ t = (su + G) % sp ∧ su + G = b * sp + t ∧ t < sp := ⟨_, _, rfl, rfl, by rw [Nat.mul_comm]; exact (Nat.div_add_mod _ _).symm, Nat.mod_lt _ h1⟩
/-- What a document has of its own are maps. -/
theorem QOwn.mapped {w : World} {d bo be : Nat} {R : Nat → Prop} {os : List (PId × CQObj)} {els : List (PId × CQEl)} (h : QOwn bo be R os els) (hq : isQ w d bo be os els) : QOwn bo be (fun k => R k ∧ ∃ es clk, w.heap[k]? = some (.map es clk)) os els := by
  refine ⟨h.ne, fun hb => h.ro hb.1, fun hb => h.re hb.1, fun p hp b hb => ⟨h.kv p hp b hb, ?_⟩, fun p hp k hk b hb => ⟨h.kk p hp k hk b hb, ?_⟩, fun p hp b hb => ⟨h.vals p hp b hb, ?_⟩⟩
  · have := (hq.hk p hp).1
    rw [hb] at this
    rcases this with h1 | ⟨b', es, clk, e, hm⟩
    · exact absurd h1.1 (by simp)
    · cases e
      exact ⟨es, clk, hm.blk⟩
  · have := (hq.hk p hp).2 k hk
    rw [hb] at this
    rcases this with h1 | ⟨b', es, clk, e, hm⟩
    · exact absurd h1.1 (by simp)
    · cases e
      exact ⟨es, clk, hm.blk⟩
  · have := hq.hv p hp
    rw [hb] at this
    rcases this with h1 | ⟨b', es, clk, e, hm⟩
    · exact absurd h1.1 (by simp)
    · cases e
      exact ⟨es, clk, hm.blk⟩
/-- The blocks that turn. -/
def forgS (hb : Nat) (vo vr : Value) (b e : Nat) (k : Nat) : Prop := k = hb ∨ vo.ownBlock = some k ∨ vr.ownBlock = some k ∨ k = b ∨ k = e

theorem HistG.forget {w w' : World} {hb sp su : Nat} {vo vr vo' vr' : Value} {ops : List MOp} {rs : List RDoc} {d bo be : Nat} {F I : Nat → Prop} {D0 : BDoc} {D : QDoc} (h : HistG w hb sp su vo vr ops ops.length rs d bo be F I D0 D) (hcnt : rs.length = (su + ops.length) / sp + 1) {G base : Nat} (hG : G ≤ ops.length) (hbase : base = (su + G) / sp) (hb1 : base < rs.length)
    (ht : Turned (forgS hb vo vr rs[base].b rs[base].e) w w') (hblk : isHs w' hb sp ((su + G) % sp) vo' vr' d) (hrow : ownMOps 0 w' vo' (ops.drop G)) (hmem : ownDocs 0 w' vr' ((rs.drop base).map (·.d))) (eo : vo'.ownBlock = vo.ownBlock) (er : vr'.ownBlock = vr.ownBlock) {D' : QDoc}
    (hdo : DoTo rs[base].D (((ops.map (·.op)).drop (base * sp - su)).take (G - (base * sp - su))) D') (hq : isQ w' rs[base].d rs[base].b rs[base].e D'.1 D'.2) (ho : QOwn rs[base].b rs[base].e (fun k => ofR F rs bo be k ∨ w.heap.size ≤ k) D'.1 D'.2) :
    ∃ F', HistG w' hb sp ((su + G) % sp) vo' vr' (ops.drop G) (ops.drop G).length (leftR rs base D') d bo be F' I (D0.1, D0.2 ++ (ops.take G).map (·.op)) D ∧ (leftR rs base D').length = ((su + G) % sp + (ops.drop G).length) / sp + 1 ∧ Keeps F F' w w' := by
  have hsp := h.sp1
  obtain ⟨b', t, hb', ht', hbt, htl⟩ := div_base (su := su) (G := G) hsp
  have hbb : base = b' := hbase.trans hb'.symm
  subst hbb
  have hdl := List.length_drop (i := G) (l := ops)
  have hr0 : rs[base] ∈ rs := List.getElem_mem _
  obtain ⟨q0, o0, n0⟩ := h.docs _ hr0
  have hmm : (mapsOf rs bo be).Nodup := h.maps
  -- the maps of the other documents
  have hsub : ∀ r ∈ rs.drop (base + 1), r ∈ rs := fun r hr => List.mem_of_mem_drop hr
  have hperm : mapsOf rs bo be = (rs.take base).flatMap (fun r => [r.b, r.e]) ++ ([rs[base].b, rs[base].e] ++ ((rs.drop (base + 1)).flatMap (fun r => [r.b, r.e]) ++ [bo, be])) := by
    have e0 : rs = rs.take base ++ rs[base] :: rs.drop (base + 1) := by rw [← List.drop_eq_getElem_cons hb1, List.take_append_drop]
    have e1 : rs.flatMap (fun r => [r.b, r.e]) = (rs.take base).flatMap (fun r => [r.b, r.e]) ++ ([rs[base].b, rs[base].e] ++ (rs.drop (base + 1)).flatMap (fun r => [r.b, r.e])) := (congrArg (List.flatMap fun r => [r.b, r.e]) e0).trans (by rw [List.flatMap_append, List.flatMap_cons])
    unfold mapsOf
    rw [e1, List.append_assoc, List.append_assoc]
  have hnd2 := (List.nodup_append.1 (hperm ▸ hmm)).2.1
  have hsep := (List.nodup_append.1 hnd2).2.2
  have hother : ∀ k ∈ (rs.drop (base + 1)).flatMap (fun r => [r.b, r.e]) ++ [bo, be], k ≠ rs[base].b ∧ k ≠ rs[base].e := fun k hk => ⟨fun e => hsep _ (by simp) k hk e.symm, fun e => hsep _ (by simp) k hk e.symm⟩
  obtain ⟨es0, clk0, hmo0⟩ := q0.ho
  obtain ⟨es1, clk1, hme0⟩ := q0.he
  -- cells of other types than those of the rows that turned
  have hcellk : ∀ (k : Nat) (c : Array Value) (ty : TypeId) (f : Nat × Nat), w.heap[k]? = some (.cells c ty f) → ty ≠ 204 → ty ≠ 210 → ty ≠ 101 → w'.heap[k]? = w.heap[k]? := fun k c ty f hk n1 n2 n3 => ht.other k (blk_lt hk) fun hS => by
    rcases hS with rfl | hS | hS | rfl | rfl
    · exact n1 (cells_type hk h.blk)
    · obtain ⟨cur, hc⟩ := own_type h.row hS
      exact n2 (cells_type hk hc)
    · obtain ⟨cur, hc⟩ := own_type h.mem hS
      exact n3 (cells_type hk hc)
    · rw [hmo0.blk] at hk; cases hk
    · rw [hme0.blk] at hk; cases hk
  have hmapk : ∀ (k : Nat) (es : Array MapEntry) (clk : Nat), w.heap[k]? = some (.map es clk) → k ≠ rs[base].b → k ≠ rs[base].e → w'.heap[k]? = w.heap[k]? := fun k es clk hk n1 n2 => ht.other k (by exact (Array.getElem?_eq_some_iff.1 hk).1) fun hS => by
    rcases hS with rfl | hS | hS | rfl | rfl
    · have := h.blk; unfold isHs at this; rw [hk] at this; cases this
    · obtain ⟨cur, hc⟩ := own_type h.row hS; rw [hk] at hc; cases hc
    · obtain ⟨cur, hc⟩ := own_type h.mem hS; rw [hk] at hc; cases hc
    · exact n1 rfl
    · exact n2 rfl
  have hS : ∀ k, forgS hb vo vr rs[base].b rs[base].e k → F k := fun k hS => by
    rcases hS with rfl | hS | hS | rfl | rfl
    · exact h.fh
    · exact h.fo k hS
    · exact h.fv k hS
    · exact (h.fr _ hr0).2.1
    · exact (h.fr _ hr0).2.2
  have hlm : ∀ k ∈ mapsOf rs bo be, k < w.heap.size := fun k hk => by
    rcases mem_maps.1 hk with ⟨r, hr, rfl | rfl⟩ | rfl | rfl
    · exact h.lt _ (h.fr r hr).2.1
    · exact h.lt _ (h.fr r hr).2.2
    · exact h.lt _ h.fbo
    · exact h.lt _ h.fbe
  have hML : mapsOf (leftR rs base D') bo be = [rs[base].b, rs[base].e] ++ ((rs.drop (base + 1)).flatMap (fun r => [r.b, r.e]) ++ [bo, be]) := by
    rw [left_maps]
    unfold mapsOf
    rw [List.drop_eq_getElem_cons hb1, List.flatMap_cons, List.append_assoc]
  have hin : ∀ k ∈ mapsOf (leftR rs base D') bo be, k ∈ mapsOf rs bo be := fun k hk => by
    rw [hperm]
    rw [hML] at hk
    exact List.mem_append_right _ hk
  have hRR : ∀ k, ofR F rs bo be k → ofR (fun k => F k ∨ (w.heap.size ≤ k ∧ k < w'.heap.size)) (leftR rs base D') bo be k := fun k hk => ⟨.inl hk.1, fun hx => hk.2 (hin k hx)⟩
  have hnR : ∀ k, k ∈ mapsOf (leftR rs base D') bo be → ¬ ofR (fun k => F k ∨ (w.heap.size ≤ k ∧ k < w'.heap.size)) (leftR rs base D') bo be k := fun k hk hx => hx.2 hk
  have hRk : ∀ k, (ofR F rs bo be k ∧ ∃ es clk, w.heap[k]? = some (.map es clk)) → w'.heap[k]? = w.heap[k]? := fun k hk => by
    obtain ⟨hk1, es, clk, hm⟩ := hk
    exact hmapk k es clk hm (fun e => hk1.2 (mem_maps.2 (.inl ⟨_, hr0, .inl e⟩))) (fun e => hk1.2 (mem_maps.2 (.inl ⟨_, hr0, .inr e⟩)))
  have hmap2 : ∀ {κ ν : Type} {ek : κ → Value} {ev : ν → Value} {m : List (κ × ν)} {es : Array MapEntry} {clk b : Nat}, isMap ek ev w b m es clk → b ∈ (rs.drop (base + 1)).flatMap (fun r => [r.b, r.e]) ++ [bo, be] → w'.heap[b]? = w.heap[b]? := fun hm hb => hmapk _ _ _ hm.blk (hother _ hb).1 (hother _ hb).2
  have hdoc : ∀ {d1 b1 e1 : Nat} {os : List (PId × CQObj)} {els : List (PId × CQEl)}, isQ w d1 b1 e1 os els → QOwn b1 e1 (ofR F rs bo be) os els → b1 ∈ (rs.drop (base + 1)).flatMap (fun r => [r.b, r.e]) ++ [bo, be] → e1 ∈ (rs.drop (base + 1)).flatMap (fun r => [r.b, r.e]) ++ [bo, be] → isQ w' d1 b1 e1 os els := fun {d1 b1 e1 os els} hq ho m1 m2 => by
    obtain ⟨_, _, hm1⟩ := hq.ho
    obtain ⟨_, _, hm2⟩ := hq.he
    exact hq.apart (ho.mapped hq) (hcellk _ _ _ _ hq.hd (by decide) (by decide) (by decide)) (hmap2 hm1 m1) (hmap2 hm2 m2) hRk
  have hdidE : (ops.map (·.op)).take ops.length = (ops.take G).map (·.op) ++ ((ops.drop G).map (·.op)).take (ops.drop G).length := by
    rw [← List.length_map (f := fun o : MOp => o.op), List.take_length, ← List.length_map (f := fun o : MOp => o.op), List.take_length, ← List.map_append, List.take_append_drop]
  have htake : ∀ m, (ops.map (·.op)).take (G + m) = (ops.take G).map (·.op) ++ ((ops.drop G).map (·.op)).take m := fun m => by
    rw [List.take_add, List.map_take, List.map_drop]
  refine ⟨fun k => F k ∨ (w.heap.size ≤ k ∧ k < w'.heap.size), ⟨hblk, hrow, fun o ho' => (h.chg o (List.mem_of_mem_drop ho')).keepI (fun k hk => ht.other k (h.iI k hk) fun hx => h.nI k hk (hS k hx)) (fun _ x => x), by rw [left_d]; exact hmem, h.sp1, h.sp2, Nat.mod_lt _ hsp, Nat.le_refl _, by rw [hdl]; have := h.len; omega, fun r hr => ?_, fun j hj => ?_, hdoc h.q h.own (by simp) (by simp), h.own.mono hRR (hnR _ (mem_maps.2 (.inr (.inl rfl)))) (hnR _ (mem_maps.2 (.inr (.inr rfl)))), h.nd, ?_, by rw [hML]; exact hnd2, .inl h.fh, fun k hk => .inl (h.fo k (eo ▸ hk)), fun k hk => .inl (h.fv k (er ▸ hk)), fun r hr => ?_, .inl h.fd, .inl h.fbo, .inl h.fbe, fun k hk => hk.elim (fun x => Nat.lt_of_lt_of_le (h.lt k x) ht.size) (·.2), fun k hI hF => hF.elim (h.nI k hI) fun x => by have := h.iI k hI; omega, fun k hI => Nat.lt_of_lt_of_le (h.iI k hI) ht.size⟩, ?_, ⟨ht.os, ht.tape, ht.output, ht.size, fun k hk hF => ht.other k hk fun hx => hF (hS k hx), fun k hk => hk.imp id (·.1)⟩⟩
  · rcases left_mem hb1 hr with rfl | hr
    · refine ⟨hq, (ho.there hq).mono (fun k hk => ?_) (hnR _ (by rw [hML]; simp)) (hnR _ (by rw [hML]; simp)), n0.does hdo⟩
      rcases hk.1 with hk1 | hk1
      · exact hRR k hk1
      · exact ⟨.inr ⟨hk1, hk.2⟩, fun hx => by have := hlm k (hin k hx); omega⟩
    · obtain ⟨a, b, c⟩ := h.docs r (hsub r hr)
      have m1 : r.b ∈ (rs.drop (base + 1)).flatMap (fun r => [r.b, r.e]) := List.mem_flatMap.2 ⟨r, hr, by simp⟩
      have m2 : r.e ∈ (rs.drop (base + 1)).flatMap (fun r => [r.b, r.e]) := List.mem_flatMap.2 ⟨r, hr, by simp⟩
      exact ⟨hdoc a b (List.mem_append_left _ m1) (List.mem_append_left _ m2), b.mono hRR (hnR _ (by rw [hML]; exact List.mem_append_right _ (List.mem_append_left _ m1))) (hnR _ (by rw [hML]; exact List.mem_append_right _ (List.mem_append_left _ m2))), c⟩
  · cases j with
    | zero =>
      rw [left_zero hb1 hj, Nat.zero_mul, Nat.zero_sub, List.take_zero]
      show DoTo D0.1 (D0.2 ++ (ops.take G).map (·.op) ++ []) D'
      have h1 := (h.does base hb1).append hdo
      rw [← List.take_add, show base * sp - su + (G - (base * sp - su)) = G + 0 by omega, htake, List.take_zero] at h1
      rw [List.append_assoc]
      exact h1
    | succ j =>
      have hj' := hj
      rw [left_len] at hj'
      rw [left_succ hb1 hj]
      have h1 := h.does (base + (j + 1)) (by omega)
      have e : (base + (j + 1)) * sp - su = G + ((j + 1) * sp - (su + G) % sp) := by
        have h2 : sp ≤ (j + 1) * sp := Nat.le_mul_of_pos_left sp (by omega)
        rw [Nat.add_mul]
        generalize (j + 1) * sp = X at *
        omega
      rw [e, htake] at h1
      show DoTo D0.1 (D0.2 ++ (ops.take G).map (·.op) ++ _) _
      rw [List.append_assoc]
      exact h1
  · have h1 := h.did
    rw [hdidE] at h1
    show DoTo D0.1 (D0.2 ++ (ops.take G).map (·.op) ++ _) _
    rw [List.append_assoc]
    exact h1
  · rcases left_mem hb1 hr with rfl | hr
    · exact ⟨.inl (h.fr _ hr0).1, .inl (h.fr _ hr0).2.1, .inl (h.fr _ hr0).2.2⟩
    · exact ⟨.inl (h.fr r (hsub r hr)).1, .inl (h.fr r (hsub r hr)).2.1, .inl (h.fr r (hsub r hr)).2.2⟩
  · rw [left_len, hcnt, hdl, ← ht']
    have e : su + ops.length = base * sp + (t + (ops.length - G)) := by omega
    rw [e, Nat.mul_comm, Nat.mul_add_div (by omega)]
    generalize (t + (ops.length - G)) / sp = X
    omega

end Go.Proofs.YtnkpogjiiohapaaGreatDoor
