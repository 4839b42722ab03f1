/- Our own text (RefAdd, RefWr, RefNext, RefWrote). -/
import Derived.Deep.DeepCutAuto
import Derived.Test.YtnkpogjiiohapaaGreatDoorR01
set_option linter.unusedSimpArgs false
set_option linter.unusedVariables false

/-! RefAdd: The contract of the reference's add. -/
namespace Go.Proofs.YtnkpogjiiohapaaGreatDoor
open Go.RowKit

theorem row_other {w : World} {base : Nat} {e : TypeId} {size : Nat} {v : Value} {n : Nat} {xs : List Value} (h : w.ownsRow base e size v n xs) {g o : Nat} (hg : v.ownBlock ≠ some g) (u : Value) : (w.setCell ⟨g, o, none⟩ u).ownsRow base e size v n xs := by
  refine ⟨h.1, ?_⟩
  rcases h.2 with hn | ⟨g', cap, cur, rfl, hb, hgg, rest⟩
  · exact .inl hn
  · exact .inr ⟨g', cap, cur, rfl, hb, by rw [Below.heap_setCell _ _ _ _ (by intro e; exact hg (congrArg some e))]; exact hgg, rest⟩
theorem row_grown {w w' : World} {row : Option Nat} {base : Nat} {e : TypeId} {size : Nat} {v : Value} {n : Nat} {xs : List Value} (h : w.ownsRow base e size v n xs) (hg : w.grownBy w' row) (hne : ∀ g, v.ownBlock = some g → some g ≠ row) : w'.ownsRow base e size v n xs := by
  refine ⟨h.1, ?_⟩
  rcases h.2 with hn | ⟨g', cap, cur, rfl, hb, hgg, rest⟩
  · exact .inl hn
  · exact .inr ⟨g', cap, cur, rfl, hb, by rw [hg.block g' (Array.getElem?_eq_some_iff.1 hgg).1 (hne g' rfl)]; exact hgg, rest⟩

theorem step_op {ops : Array Oper} {o : Oper} {a : Act} {w : World} {K : Act → World → Prop} {Q : Exit → Act → World → Prop} {E : Prop}
    (hg : o.guard = none) (s x : Operand) (ho : o.op = .call { callee := .builtin .append, args := #[s, x], argTypes := #[255, 255] }) (v : Value) (l : List COp) (hs : a.eval s = v)
    (hown : w.ownsRow 0 233 15 v l.length (l.flatMap opC)) (g c : Nat) (y : COp) (hx : a.eval x = .slice (some ⟨g, 0, none⟩) 1 c)
    (hnew : ∀ j u, (opC y)[j]? = some u → w.cell? ⟨g, j, none⟩ = some u) (h1 : ∀ u ∈ opC y, u.oneCell' = true) (hlen : l.length < 100000)
    (h : ∀ v' w', w'.ownsRow 0 233 15 v' (l.length + 1) ((l ++ [y]).flatMap opC) → w.grownBy w' v.ownBlock → newOr w v v' → K (a.put o.dst v') w') :
    if Region.wanted o (yielded ops a.tmps) = true then Oper.wp Tryz.prog o a w K Q else E :=
  step_app opC 15 144 255 233 (.agg #[.int .i64 0, .int .i64 0, .int .i64 0, .bool false, .int .i64 0, .int .i64 0, .string ⟨#[]⟩, .int .i64 0, .int .i64 0, .int .i64 0, .int .i64 0, .int .i64 0, .int .i64 0, .int .i64 0, .slice none 0 0]) (by kernel_rfl) Tryz.underlying255 rfl (by omega) (fun _ => rfl)
    hg s x ho 0 v l hs hown g c y hx hnew h1 (by omega) (by unfold maxLen; omega) (Nat.zero_le _) h

section
theorem isRoom.cellO {w : World} {r N : Nat} {vC vL : Value} {vops : Nat → Value} {cops : Nat → List COp} {cp : Nat → Nat → Value} {has : Nat → Nat → Nat} {gO cO : Nat} (h : isRoom w r N (.slice (some ⟨gO, 0, none⟩) N cO) vC vL vops cops cp has) {i : Nat} (hi : i < N) : w.cell? ⟨gO, i, none⟩ = some (vops i) := by
  rw [h.hO.cellAt i (by omega)]; simp [hi]
theorem isRoom.cellC {w : World} {r N : Nat} {vL : Value} {vops : Nat → Value} {cops : Nat → List COp} {cp : Nat → Nat → Value} {has : Nat → Nat → Nat} {vO : Value} {gC cC : Nat} (h : isRoom w r N vO (.slice (some ⟨gC, 0, none⟩) N cC) vL vops cops cp has) {c : Nat} (hc : c < N) : w.cell? ⟨gC, c * 4, none⟩ = some (cp c 0) := by
  have := owns_cell (f := fun c => [cp c 0, cp c 1, cp c 2, cp c 3]) (k := 4) (fun _ => rfl) h.hC (by simp) c (by simpa using hc) 0 (by omega)
  rw [Nat.add_zero] at this
  rw [this]; simp
theorem isRoom.cellH {w : World} {r N : Nat} {vC vL : Value} {vops : Nat → Value} {cops : Nat → List COp} {cp : Nat → Nat → Value} {has : Nat → Nat → Nat} {vO : Value} {gH cH c : Nat} (h : isRoom w r N vO vC vL vops cops cp has) (hc : c < N) (e : cp c 0 = .slice (some ⟨gH, 0, none⟩) N cH) {i : Nat} (hi : i < N) : w.cell? ⟨gH, i, none⟩ = some (.int .i64 (has c i)) := by
  have := h.hH c hc; rw [e] at this
  rw [this.cellAt i (by omega)]; simp [hi]
end

theorem op_cells {W : World} {o : COp} : ∀ j u, (opC o)[j]? = some u → (W.alloc (.cells #[.int .i64 o.p.id.1, .int .i64 o.p.id.2, .int .i64 o.p.kind, .bool o.p.list, .int .i64 o.p.object.1, .int .i64 o.p.object.2, .string o.p.key, .int .i64 o.p.element.1, .int .i64 o.p.element.2, .int .i64 o.p.behind.1, .int .i64 o.p.behind.2, .int .i64 o.p.num, .int .i64 o.p.obj.1, .int .i64 o.p.obj.2, o.vold] 233)).cell? ⟨W.heap.size, j, none⟩ = some u := by
  intro j u hu
  rw [World.cell?_alloc_at _ _ _ _ rfl]
  rw [← hu]
  simp [opC]

/-- Behind 'r.Ops[c] = append(r.Ops[c], p)'. -/
def AddMid (w2 : World) (o : COp) (vc : Value) (l : List COp) (gO c : Nat) (wc : World) : Prop :=
  ∃ W w3 v', Below w2.heap.size w2 W ∧ W.grownBy w3 vc.ownBlock ∧ newOr W vc v' ∧ w3.ownsRow 0 233 15 v' (l.length + 1) ((l ++ [o]).flatMap opC) ∧ wc = w3.setCell ⟨gO, c, none⟩ v'
section
theorem mid_block {w2 W w3 : World} {vc v' : Value} {gO c : Nat} (hbW : Below w2.heap.size w2 W) (hg : W.grownBy w3 vc.ownBlock) {k : Nat} (hk : k < w2.heap.size) (h1 : k ≠ gO) (h2 : some k ≠ vc.ownBlock) : (w3.setCell ⟨gO, c, none⟩ v').heap[k]? = w2.heap[k]? := by
  rw [Below.heap_setCell _ _ _ _ h1, hg.block k (Nat.lt_of_lt_of_le hk hbW.size) h2, hbW.block k hk]
theorem mid_cell {w2 W w3 : World} {vc v' : Value} {gO c : Nat} (hbW : Below w2.heap.size w2 W) (hg : W.grownBy w3 vc.ownBlock) {k o : Nat} {u : Value} (hc : w2.cell? ⟨k, o, none⟩ = some u) (h1 : k ≠ gO) (h2 : some k ≠ vc.ownBlock) : (w3.setCell ⟨gO, c, none⟩ v').cell? ⟨k, o, none⟩ = some u := by
  rw [World.cell?_of_block (w := w2) (a := ⟨k, o, none⟩) (mid_block hbW hg (World.block_lt_of_cell? w2 _ hc) h1 h2)]; exact hc
theorem mid_fz {w2 W w3 : World} {vc v' : Value} {gO c : Nat} (hbW : Below w2.heap.size w2 W) (hg : W.grownBy w3 vc.ownBlock) {k o : Nat} (hk : k < w2.heap.size) (hf : w2.frozen? ⟨k, o, none⟩ = false) (h1 : k ≠ gO) (h2 : some k ≠ vc.ownBlock) : (w3.setCell ⟨gO, c, none⟩ v').frozen? ⟨k, o, none⟩ = false := by
  rw [World.frozen?_of_block (w := w2) (a := ⟨k, o, none⟩) (mid_block hbW hg hk h1 h2)]; exact hf
end

theorem add_fin {w w2 W w3 : World} {r N : Nat} {vC vL : Value} {vops : Nat → Value} {cops : Nat → List COp} {cp : Nat → Nat → Value} {has : Nat → Nat → Nat} {gO cO gH cH c b : Nat} {v' u0 u1 : Value} {o : COp}
    (h : isRoom w r N (.slice (some ⟨gO, 0, none⟩) N cO) vC vL vops cops cp has) (ha : Apart N vops cp) (hc : c < N) (hcp : cp c 0 = .slice (some ⟨gH, 0, none⟩) N cH) (hb2 : Below w.heap.size w w2) (hbW : Below w2.heap.size w2 W)
    (hg3 : W.grownBy w3 (vops c).ownBlock) (hn3 : newOr W (vops c) v') (hown3 : w3.ownsRow 0 233 15 v' ((cops c).length + 1) ((cops c ++ [o]).flatMap opC)) (ho : isIds w o.vold o.p.old) (hb : w.heap.size ≤ b) (hbo : v'.ownBlock ≠ some b)
    (hfull : (cops c).length < 60) (hall : has c c = (cops c).length) :
    newOr w (vops c) v' ∧ isRoom ((((w3.setCell ⟨gO, c, none⟩ v').setCell ⟨gH, c, none⟩ (.int .i64 ((has c c : Int) + 1))).setCell ⟨b, 0, none⟩ u0).setCell ⟨b, 1, none⟩ u1) r N (.slice (some ⟨gO, 0, none⟩) N cO) vC vL (upd vops c v') (upd cops c (cops c ++ [o])) cp (fun d i => if d = c ∧ i = c then has c c + 1 else has d i) ∧
      Apart N (upd vops c v') cp ∧ w3.os = w.os ∧ w3.tape = w.tape ∧ w3.output = w.output ∧ w.heap.size ≤ w3.heap.size ∧
      (∀ k, k < w.heap.size → k ≠ gO → k ≠ gH → some k ≠ (vops c).ownBlock → ((((w3.setCell ⟨gO, c, none⟩ v').setCell ⟨gH, c, none⟩ (.int .i64 ((has c c : Int) + 1))).setCell ⟨b, 0, none⟩ u0).setCell ⟨b, 1, none⟩ u1).heap[k]? = w.heap[k]?) := by
  have hwW : Below w.heap.size w W := hb2.trans (hbW.mono hb2.size)
  obtain ⟨tO, hTO⟩ := own_type h.hO (g := gO) rfl
  obtain ⟨tH, hTH⟩ := own_type (h.hH c hc) (g := gH) (by rw [hcp]; rfl)
  have hOl : gO < w.heap.size := (Array.getElem?_eq_some_iff.1 hTO).1
  have hHl : gH < w.heap.size := (Array.getElem?_eq_some_iff.1 hTH).1
  have hOH : gO ≠ gH := by intro e; subst e; exact absurd (cells_type hTO hTH) (by decide)
  have hNT : ∀ (g : Nat) (cs : Array Value) (e : TypeId) (f : Nat × Nat), w.heap[g]? = some (.cells cs e f) → e ≠ 233 → some g ≠ (vops c).ownBlock := fun g cs e f hg he e' => by
    obtain ⟨cs', hcs'⟩ := own_type (h.hops c hc).1 e'.symm; exact he (cells_type hg hcs')
  have hoth : ∀ k, k < w.heap.size → k ≠ gO → k ≠ gH → some k ≠ (vops c).ownBlock → ((((w3.setCell ⟨gO, c, none⟩ v').setCell ⟨gH, c, none⟩ (.int .i64 ((has c c : Int) + 1))).setCell ⟨b, 0, none⟩ u0).setCell ⟨b, 1, none⟩ u1).heap[k]? = w.heap[k]? := by
    intro k hk h1 h2 h3
    rw [Below.heap_setCell _ _ _ _ (by show k ≠ b; omega), Below.heap_setCell _ _ _ _ (by show k ≠ b; omega), Below.heap_setCell _ _ _ _ h2, Below.heap_setCell _ _ _ _ h1, hg3.block k (by have := hwW.size; omega) h3, hwW.block k hk]
  have hnew : newOr w (vops c) v' := by
    rcases hn3 with hn | hn
    · exact .inl hn
    · exact .inr fun k hk => by have := hn k hk; have := hwW.size; omega
  have hbv : ∀ g, (vops c).ownBlock = some g → g < w.heap.size := fun g hg => (World.ownsRow.lt (h.hops c hc).1 g hg).2
  have hvO : v'.ownBlock ≠ some gO := by
    intro e
    obtain ⟨cs, hcs⟩ := own_type hown3 e
    rw [hg3.block gO (by have := hwW.size; omega) (hNT gO _ _ _ hTO (by decide)), hwW.block gO hOl] at hcs
    exact absurd (cells_type hTO hcs) (by decide)
  have hvH : v'.ownBlock ≠ some gH := by
    intro e
    obtain ⟨cs, hcs⟩ := own_type hown3 e
    rw [hg3.block gH (by have := hwW.size; omega) (hNT gH _ _ _ hTH (by decide)), hwW.block gH hHl] at hcs
    exact absurd (cells_type hTH hcs) (by decide)
  have hO3 : w3.ownsRow 0 255 1 (.slice (some ⟨gO, 0, none⟩) N cO) N ((List.range N).map vops) := row_grown (owns_keep h.hO hwW) hg3 (fun g hg => by
    have e : g = gO := by simp [Value.ownBlock] at hg; exact hg.symm
    rw [e]; exact hNT gO _ _ _ hTO (by decide))
  have hH3 : w3.ownsRow 0 3 1 (cp c 0) N ((List.range N).map fun i => Value.int .i64 (has c i)) := row_grown (owns_keep (h.hH c hc) hwW) hg3 (fun g hg => by
    have e : g = gH := by rw [hcp] at hg; simp [Value.ownBlock] at hg; exact hg.symm
    rw [e]; exact hNT gH _ _ _ hTH (by decide))
  have key := isRoom.add (W := (((w3.setCell ⟨gO, c, none⟩ v').setCell ⟨gH, c, none⟩ (.int .i64 ((has c c : Int) + 1))).setCell ⟨b, 0, none⟩ u0).setCell ⟨b, 1, none⟩ u1) (gO := gO) (gH := gH) (v' := v') (o := o) h ha hc rfl (by rw [hcp]; rfl) ?_ ?_ ?_ ?_ ?_ hoth hnew hfull hall
  · exact ⟨hnew, key.1, key.2, hg3.os.trans hwW.os, hg3.tape.trans hwW.tape, hg3.output.trans hwW.output, by have := hg3.size; have := hwW.size; omega, hoth⟩
  · refine row_other (row_other (row_other (World.ownsRow.stored hO3 c v').1 ?_ _) ?_ _) ?_ _ <;> (intro e; simp [Value.ownBlock] at e; omega)
  · have h1 := row_other (o := c) hH3 (g := gO) (by rw [hcp]; intro e; simp [Value.ownBlock] at e; omega) v'
    have h2 : ((w3.setCell ⟨gO, c, none⟩ v').setCell ⟨gH, c, none⟩ (.int .i64 ((has c c : Int) + 1))).ownsRow 0 3 1 (cp c 0) N (((List.range N).map fun i => Value.int .i64 (has c i)).set c (.int .i64 ((has c c : Int) + 1))) := by
      rw [hcp] at h1 ⊢; exact (World.ownsRow.stored h1 c _).1
    refine row_other (row_other h2 ?_ _) ?_ _ <;> (rw [hcp]; intro e; simp [Value.ownBlock] at e; omega)
  · exact row_other (row_other (row_other (row_other hown3 hvO _) hvH _) hbo _) hbo _
  · refine ⟨ho.1, ?_⟩
    rcases ho.2 with hn | ⟨g, cap, cur, e1, hbb, hg, rest⟩
    · exact .inl hn
    · refine .inr ⟨g, cap, cur, e1, hbb, ?_, rest⟩
      rw [hoth g (Array.getElem?_eq_some_iff.1 hg).1 (by intro e; subst e; exact absurd (cells_type hg hTO) (by decide)) (by intro e; subst e; exact absurd (cells_type hg hTH) (by decide)) (hNT g _ _ _ hg (by decide))]; exact hg
  · intro g cur hg
    exact hoth g (Array.getElem?_eq_some_iff.1 hg).1 (by intro e; subst e; exact absurd (cells_type hg hTO) (by decide)) (by intro e; subst e; exact absurd (cells_type hg hTH) (by decide)) (hNT g _ _ _ hg (by decide))

set_option maxRecDepth 1000000 in
set_option maxHeartbeats 3200000 in
theorem add_any {w : World} {r N : Nat} {vO vC vL : Value} {vops : Nat → Value} {cops : Nat → List COp} {cp : Nat → Nat → Value} {has : Nat → Nat → Nat} (h : isRoom w r N vO vC vL vops cops cp has) (ha : Apart N vops cp) (c : Nat) (hc : c < N)
    (hfull : (cops c).length < 60) (hall : has c c = (cops c).length) (hcnt : ∀ o ∈ hasOps cops (has c) N, o.p.id.1 ≤ 1000000)
    (i1 i2 kind ob1 ob2 e1 e2 be1 be2 n v1 v2 : Int) (lst : Bool) (key : ByteArray) (vold : Value) (old : List PId) (hold : isIds w vold old) :
    Calls Tryz.prog 145 #[.pointer (some ⟨r, 0, none⟩), .int .i64 c, .agg #[.int .i64 i1, .int .i64 i2, .int .i64 kind, .bool lst, .int .i64 ob1, .int .i64 ob2, .string key, .int .i64 e1, .int .i64 e2, .int .i64 be1, .int .i64 be2, .int .i64 n, .int .i64 v1, .int .i64 v2, vold]] w fun e w' =>
      e = .returned (.agg #[.int .i64 (maxC (hasOps cops (has c) N) + 1), .int .i64 c]) ∧ ∃ v', newOr w (vops c) v' ∧
        isRoom w' r N vO vC vL (upd vops c v') (upd cops c (cops c ++ [⟨⟨(maxC (hasOps cops (has c) N) + 1, c), kind, lst, (ob1, ob2), key, (e1, e2), (be1, be2), n, (v1, v2), old⟩, vold⟩])) cp (fun d i => if d = c ∧ i = c then has c c + 1 else has d i) ∧
        Apart N (upd vops c v') cp ∧ w'.os = w.os ∧ w'.tape = w.tape ∧ w'.output = w.output ∧ w.heap.size ≤ w'.heap.size ∧
        (∀ k, k < w.heap.size → some k ≠ vO.ownBlock → some k ≠ (cp c 0).ownBlock → some k ≠ (vops c).ownBlock → w'.heap[k]? = w.heap[k]?) := by
  obtain ⟨gO, cO, gC, cC, rfl, rfl, hcO, hcC, cellsO, cellsC⟩ := h.row (by omega)
  obtain ⟨gH, cH, hcp, hcH, cellsH⟩ := h.hasAt hc
  obtain ⟨ao, co, rfl, _, _, _⟩ := owns_form hold
  have hN := h.hN
  have hLl := hasOps_len cops (has c) N (fun i hi => h.hsz i hi)
  have HH := hid h; clear h
  have HA := hid ha; clear ha
  have HOLD := hid hold; clear hold
  clear cellsO cellsC cellsH
  have HCP := hid hcp; clear hcp
  have HALL := hid hall; clear hall
  have HMB := hid (maxC_bd (hasOps cops (has c) N) hcnt)
  clear hcnt
  generalize hLL : hasOps cops (has c) N = LL at *
  have HLL := hid hLL; clear hLL
  generalize hMX0 : maxC LL = MX
  have HMX0 := hid hMX0; clear hMX0
  go_enter Tryz.func145, Tryz.ntmps145
  go_wp2_with fail
  have HB0 : Hid (Below w.heap.size w ((w.alloc (.cells #[.int .i64 i1, .int .i64 i2, .int .i64 kind, .bool lst, .int .i64 ob1, .int .i64 ob2, .string key, .int .i64 e1, .int .i64 e2, .int .i64 be1, .int .i64 be2, .int .i64 n, .int .i64 v1, .int .i64 v2, .slice ao old.length co] 233)).alloc (.cells #[.int .i64 0, .int .i64 0] 36))) := ((Below.refl _ w).alloc (Nat.le_refl _) _).alloc (by simp) _
  refine (has_any (HH.out.keep HB0.out) c hc).mono ?_
  rintro e w1 ⟨v, rfl, hops, hb1⟩
  rw [HLL.out] at hops
  have p0 := keep (a := ⟨w.heap.size, 0, none⟩) (v := .int .i64 i1) hb1 (by simp [go_sem])
  have p1 := keep (a := ⟨w.heap.size, 1, none⟩) (v := .int .i64 i2) hb1 (by simp [go_sem])
  have p2 := keep (a := ⟨w.heap.size, 2, none⟩) (v := .int .i64 kind) hb1 (by simp [go_sem])
  have p3 := keep (a := ⟨w.heap.size, 3, none⟩) (v := .bool lst) hb1 (by simp [go_sem])
  have p4 := keep (a := ⟨w.heap.size, 4, none⟩) (v := .int .i64 ob1) hb1 (by simp [go_sem])
  have p5 := keep (a := ⟨w.heap.size, 5, none⟩) (v := .int .i64 ob2) hb1 (by simp [go_sem])
  have p6 := keep (a := ⟨w.heap.size, 6, none⟩) (v := .string key) hb1 (by simp [go_sem])
  have p7 := keep (a := ⟨w.heap.size, 7, none⟩) (v := .int .i64 e1) hb1 (by simp [go_sem])
  have p8 := keep (a := ⟨w.heap.size, 8, none⟩) (v := .int .i64 e2) hb1 (by simp [go_sem])
  have p9 := keep (a := ⟨w.heap.size, 9, none⟩) (v := .int .i64 be1) hb1 (by simp [go_sem])
  have p10 := keep (a := ⟨w.heap.size, 10, none⟩) (v := .int .i64 be2) hb1 (by simp [go_sem])
  have p11 := keep (a := ⟨w.heap.size, 11, none⟩) (v := .int .i64 n) hb1 (by simp [go_sem])
  have p12 := keep (a := ⟨w.heap.size, 12, none⟩) (v := .int .i64 v1) hb1 (by simp [go_sem])
  have p13 := keep (a := ⟨w.heap.size, 13, none⟩) (v := .int .i64 v2) hb1 (by simp [go_sem])
  have p14 := keep (a := ⟨w.heap.size, 14, none⟩) (v := .slice ao old.length co) hb1 (by simp [go_sem])
  have z0 := keep (a := ⟨w.heap.size + 1, 0, none⟩) (v := .int .i64 0) hb1 (by simp [go_sem])
  have z1 := keep (a := ⟨w.heap.size + 1, 1, none⟩) (v := .int .i64 0) hb1 (by simp [go_sem])
  have fz0 : ∀ j, w1.frozen? ⟨w.heap.size, j, none⟩ = false := fun j => by rw [hb1.frozen (p := ⟨w.heap.size, j, none⟩) (by simp; omega)]; simp [go_sem]
  have fz1 : ∀ j, w1.frozen? ⟨w.heap.size + 1, j, none⟩ = false := fun j => by rw [hb1.frozen (p := ⟨w.heap.size + 1, j, none⟩) (by simp)]; simp [go_sem]
  have hz1 : w.heap.size + 2 ≤ w1.heap.size := by have := hb1.size; simp at this; omega
  have hbw : Below w.heap.size w w1 := HB0.out.trans (hb1.mono (by simp; omega))
  have HBW := hid hbw; clear hbw hb1 HB0
  obtain ⟨la, lc, rfl, hlc, hlm, hlf⟩ := owns_form hops.1
  unfold maxLen at hlm
  have HOPS := hid hops; clear hops
  have HLF := hid hlf; clear hlf
  go_wp2
  go_loop [8, 9] (fun m i => ∃ k : Nat, k ≤ LL.length ∧ i = .int .i64 k ∧ m = .int .i64 (maxC (LL.take k))) (fun _ i => LL.length - (intOf i).toNat)
  case atStart => exact ⟨0, Nat.zero_le _, rfl, rfl⟩
  case round =>
    obtain ⟨k, hk, rfl, rfl⟩ := hrel
    by_cases hlt : k < LL.length
    · obtain ⟨g, rfl⟩ := HLF.out k hlt
      have o0 := isOps.cell HOPS.out rfl k hlt 0 (by omega)
      simp only [opC, List.getElem?_cons_zero, Nat.add_zero] at o0
      have HMX := hid (maxC_succ hlt)
      by_cases hgt : maxC (LL.take k) < LL[k].p.id.1
      · go_wp2
        go_round
        case rel => exact ⟨k + 1, by omega, by go_num, by rw [HMX.out, if_pos hgt]⟩
        case measure => simp [intOf]; omega
      · go_wp2
        go_round
        case rel => exact ⟨k + 1, by omega, by go_num, by rw [HMX.out, if_neg hgt]⟩
        case measure => simp [intOf]; omega
    · have hmb := HMB.out k hk
      rw [List.take_of_length_le (by omega)] at hmb
      rw [List.take_of_length_le (by omega)]
      rw [HMX0.out] at hmb
      rw [HMX0.out]
      go_wp2
      obtain ⟨w2, hw2⟩ : ∃ w2, w2 = (w1.setCell ⟨w.heap.size, 0, none⟩ (.int .i64 (MX + 1))).setCell ⟨w.heap.size, 1, none⟩ (.int .i64 c) := ⟨_, rfl⟩
      rw [← hw2]
      have q0 : w2.cell? ⟨w.heap.size, 0, none⟩ = some (.int .i64 (MX + 1)) := by rw [hw2]; simp [go_sem, p0, p0, p1]
      have q1 : w2.cell? ⟨w.heap.size, 1, none⟩ = some (.int .i64 c) := by rw [hw2]; simp [go_sem, p1, p0, p1]
      have q2 : w2.cell? ⟨w.heap.size, 2, none⟩ = some (.int .i64 kind) := by rw [hw2]; simp [go_sem, p2, p0, p1]
      have q3 : w2.cell? ⟨w.heap.size, 3, none⟩ = some (.bool lst) := by rw [hw2]; simp [go_sem, p3, p0, p1]
      have q4 : w2.cell? ⟨w.heap.size, 4, none⟩ = some (.int .i64 ob1) := by rw [hw2]; simp [go_sem, p4, p0, p1]
      have q5 : w2.cell? ⟨w.heap.size, 5, none⟩ = some (.int .i64 ob2) := by rw [hw2]; simp [go_sem, p5, p0, p1]
      have q6 : w2.cell? ⟨w.heap.size, 6, none⟩ = some (.string key) := by rw [hw2]; simp [go_sem, p6, p0, p1]
      have q7 : w2.cell? ⟨w.heap.size, 7, none⟩ = some (.int .i64 e1) := by rw [hw2]; simp [go_sem, p7, p0, p1]
      have q8 : w2.cell? ⟨w.heap.size, 8, none⟩ = some (.int .i64 e2) := by rw [hw2]; simp [go_sem, p8, p0, p1]
      have q9 : w2.cell? ⟨w.heap.size, 9, none⟩ = some (.int .i64 be1) := by rw [hw2]; simp [go_sem, p9, p0, p1]
      have q10 : w2.cell? ⟨w.heap.size, 10, none⟩ = some (.int .i64 be2) := by rw [hw2]; simp [go_sem, p10, p0, p1]
      have q11 : w2.cell? ⟨w.heap.size, 11, none⟩ = some (.int .i64 n) := by rw [hw2]; simp [go_sem, p11, p0, p1]
      have q12 : w2.cell? ⟨w.heap.size, 12, none⟩ = some (.int .i64 v1) := by rw [hw2]; simp [go_sem, p12, p0, p1]
      have q13 : w2.cell? ⟨w.heap.size, 13, none⟩ = some (.int .i64 v2) := by rw [hw2]; simp [go_sem, p13, p0, p1]
      have q14 : w2.cell? ⟨w.heap.size, 14, none⟩ = some (.slice ao old.length co) := by rw [hw2]; simp [go_sem, p14, p0, p1]
      have y0 : w2.cell? ⟨w.heap.size + 1, 0, none⟩ = some (.int .i64 0) := by rw [hw2]; simp [go_sem, z0]
      have y1 : w2.cell? ⟨w.heap.size + 1, 1, none⟩ = some (.int .i64 0) := by rw [hw2]; simp [go_sem, z1]
      have yf : ∀ j, w2.frozen? ⟨w.heap.size + 1, j, none⟩ = false := fun j => by rw [hw2]; simp [go_sem, fz1]
      have hb2 : Below w.heap.size w w2 := by rw [hw2]; exact (HBW.out.setCell (Nat.le_refl _) _).setCell (Nat.le_refl _) _
      have hz2 : w.heap.size + 2 ≤ w2.heap.size := by rw [hw2]; simpa [World.setCell] using hz1
      clear hw2 p0 p1 p2 p3 p4 p5 p6 p7 p8 p9 p10 p11 p12 p13 p14 z0 z1 fz0 fz1
      have HR2 := hid (HH.out.keep hb2)
      have c1 := HR2.out.c1
      have c2 := HR2.out.c2
      have kO := HR2.out.cellO hc
      have kC := HR2.out.cellC hc
      have kH := HR2.out.cellH hc HCP.out hc
      rw [HCP.out] at kC
      obtain ⟨va, vc, hvc, _, _, _⟩ := owns_form (HR2.out.hops c hc).1
      rw [hvc] at kO
      have HVC := hid hvc; clear hvc
      have hrl : r < w.heap.size := (Array.getElem?_eq_some_iff.1 HH.out.hr).1
      have hOl : gO < w.heap.size := (World.ownsRow.lt HH.out.hO gO rfl).2
      have hCl : gC < w.heap.size := (World.ownsRow.lt HH.out.hC gC rfl).2
      have hHl : gH < w.heap.size := (World.ownsRow.lt (HH.out.hH c hc) gH (by rw [HCP.out]; rfl)).2
      obtain ⟨tO, hTO⟩ := own_type HR2.out.hO (g := gO) rfl
      obtain ⟨tC, hTC⟩ := own_type HR2.out.hC (g := gC) rfl
      obtain ⟨tH, hTH⟩ := own_type (HR2.out.hH c hc) (g := gH) (by rw [HCP.out]; rfl)
      have hOr : gO ≠ r := by intro e; subst e; exact absurd (cells_type hTO HR2.out.hr) (by decide)
      have hOC : gO ≠ gC := by intro e; subst e; exact absurd (cells_type hTO hTC) (by decide)
      have hOH : gO ≠ gH := by intro e; subst e; exact absurd (cells_type hTO hTH) (by decide)
      have hHr : gH ≠ r := by intro e; subst e; exact absurd (cells_type hTH HR2.out.hr) (by decide)
      have hHC : gH ≠ gC := by intro e; subst e; exact absurd (cells_type hTH hTC) (by decide)
      have HNT : Hid (∀ (g : Nat) (cs : Array Value) (e : TypeId) (f : Nat × Nat), w2.heap[g]? = some (.cells cs e f) → e ≠ 233 → some g ≠ (vops c).ownBlock) := fun g cs e f hg he e' => by
        obtain ⟨cs', hcs'⟩ := own_type (HR2.out.hops c hc).1 e'.symm; exact he (cells_type hg hcs')
      have HTT := hid (And.intro hTO (And.intro hTC hTH)); clear hTO hTC hTH
      have HB2 := hid hb2; clear hb2
      have hcc := HR2.out.hle c c hc hc
      have hsz := HR2.out.hsz c hc
      have fO : w2.frozen? ⟨gO, c, none⟩ = false := World.ownsRow.frozenAt HR2.out.hO c
      have fH : w2.frozen? ⟨gH, c, none⟩ = false := by have := HR2.out.hH c hc; rw [HCP.out] at this; exact World.ownsRow.frozenAt this c
      have hOl2 : gO < w2.heap.size := by omega
      have hrl2 : r < w2.heap.size := by omega
      have hwl2 : w.heap.size < w2.heap.size := by omega
      have HON := hid (HNT.out gO _ _ _ HTT.out.1 (by decide))
      have HRN := hid (HNT.out r _ _ _ HR2.out.hr (by decide))
      go_cut [52] (fun _ wc => AddMid w2 ⟨⟨(MX + 1, c), kind, lst, (ob1, ob2), key, (e1, e2), (be1, be2), n, (v1, v2), old⟩, .slice ao old.length co⟩ (vops c) (cops c) gO c wc)
      case first =>
        go_region_law (refine step_op rfl (.tmp 49) (.tmp 51) rfl (.slice va (cops c).length vc) (cops c) (by simp [Act.eval, Act.put]) ?h1 w2.heap.size 1 ⟨⟨(MX + 1, c), kind, lst, (ob1, ob2), key, (e1, e2), (be1, be2), n, (v1, v2), old⟩, .slice ao old.length co⟩ (by simp [Act.eval, Act.put]) ?h2 ?h3 ?h4 ?_; (case h1 => rw [← HVC.out]; exact (HR2.out.hops c hc).1.alloc _); (case h2 => exact op_cells); (case h3 => exact fun u hu => by simp [opC] at hu; rcases hu with rfl | rfl | rfl | rfl | rfl | rfl | rfl | rfl | rfl | rfl | rfl | rfl | rfl | rfl | rfl <;> rfl); (case h4 => omega); intro v' w3 hown3 hg3 hn3; rw [← HVC.out] at hg3 hn3; have hbW : Below w2.heap.size w2 (w2.alloc (.cells #[.int .i64 (MX + 1), .int .i64 c, .int .i64 kind, .bool lst, .int .i64 ob1, .int .i64 ob2, .string key, .int .i64 e1, .int .i64 e2, .int .i64 be1, .int .i64 be2, .int .i64 n, .int .i64 v1, .int .i64 v2, .slice ao old.length co] 233)).drew := ((Below.refl _ w2).alloc (Nat.le_refl _) _).drew; have HW3 := hid (And.intro hbW (And.intro hg3 (And.intro hn3 hown3))); obtain ⟨a3, c3, hv3, _, _, _⟩ := owns_form hown3; subst hv3; have kO' : w3.cell? ⟨gO, c, none⟩ = some (.slice va (cops c).length vc) := hg3.cell (keep hbW kO) HON.out; have fO' : w3.frozen? ⟨gO, c, none⟩ = false := (World.frozen?_of_block (a := ⟨gO, c, none⟩) (hg3.block gO (by have := hbW.size; omega) HON.out)).trans ((hbW.frozen (p := ⟨gO, c, none⟩) (by show gO < _; omega)).trans fO); have c1' : w3.cell? ⟨r, 1, none⟩ = some (.slice (some ⟨gO, 0, none⟩) N cO) := hg3.cell (keep hbW c1) HRN.out; clear hn3 hown3 hbW hg3)
        all_goals (go_wp2_with fail; go_meet)
        all_goals exact ⟨_, w3, _, HW3.out.1, HW3.out.2.1, HW3.out.2.2.1, HW3.out.2.2.2, rfl⟩
      case rest =>
        obtain ⟨W, w3, v', hbW, hg3, hn3, hown3, hwc⟩ := hcut
        have HNr := hid (HNT.out r _ _ _ HR2.out.hr (by decide))
        have HNC := hid (HNT.out gC _ _ _ HTT.out.2.1 (by decide))
        have HNH := hid (HNT.out gH _ _ _ HTT.out.2.2 (by decide))
        have hlv : ∀ g, (vops c).ownBlock = some g → g < w.heap.size := fun g hg => (World.ownsRow.lt (HH.out.hops c hc).1 g hg).2
        have HNX := hid (show ∀ k, w.heap.size ≤ k → some k ≠ (vops c).ownBlock from fun k hk e => by have := hlv k e.symm; omega)
        have d2 := mid_cell (c := c) (v' := v') (gO := gO) hbW hg3 c2 hOr.symm HNr.out
        rw [← hwc] at d2
        have dC := mid_cell (c := c) (v' := v') (gO := gO) hbW hg3 kC hOC.symm HNC.out
        rw [← hwc] at dC
        have dH := mid_cell (c := c) (v' := v') (gO := gO) hbW hg3 kH hOH.symm HNH.out
        rw [← hwc] at dH
        have eH : wc.frozen? ⟨gH, c, none⟩ = false := by rw [hwc]; exact mid_fz hbW hg3 (by omega) fH hOH.symm HNH.out
        have t0 := mid_cell (c := c) (v' := v') (gO := gO) hbW hg3 q0 (by omega) (HNX.out _ (by omega))
        rw [← hwc] at t0
        have t1 := mid_cell (c := c) (v' := v') (gO := gO) hbW hg3 q1 (by omega) (HNX.out _ (by omega))
        rw [← hwc] at t1
        have x0 := mid_cell (c := c) (v' := v') (gO := gO) hbW hg3 y0 (by omega) (HNX.out _ (by omega))
        rw [← hwc] at x0
        have x1 := mid_cell (c := c) (v' := v') (gO := gO) hbW hg3 y1 (by omega) (HNX.out _ (by omega))
        rw [← hwc] at x1
        have xf : ∀ j, wc.frozen? ⟨w.heap.size + 1, j, none⟩ = false := fun j => by rw [hwc]; exact mid_fz hbW hg3 (by omega) (yf j) (by omega) (HNX.out _ (by omega))
        have HM := hid (And.intro hbW (And.intro hg3 (And.intro hn3 (And.intro hown3 hwc)))); clear hbW hg3 hn3 hown3 hwc hlv
        clear c1 c2 kO kC kH q0 q1 q2 q3 q4 q5 q6 q7 q8 q9 q10 q11 q12 q13 q14 y0 y1 yf fO fH
        have hgl3 : gH ≠ w.heap.size := by omega
        have hgl4 : gH ≠ w.heap.size + 1 := by omega
        have HBO := hid (show v'.ownBlock ≠ some (w.heap.size + 1) from fun e => by
          rcases HM.out.2.2.1 with hn | hn
          · have := (World.ownsRow.lt (HH.out.hops c hc).1 (w.heap.size + 1) (by rw [← hn]; exact e)).2; omega
          · have := hn _ e; have := HM.out.1.size; omega)
        go_wp2
        have FIN := add_fin (u0 := .int .i64 (MX + 1)) (u1 := .int .i64 c) HH.out HA.out hc HCP.out HB2.out HM.out.1 HM.out.2.1 HM.out.2.2.1 HM.out.2.2.2.1 HOLD.out (Nat.le_succ _) HBO.out hfull HALL.out
        rw [← HM.out.2.2.2.2] at FIN
        have hws : wc.os = w3.os ∧ wc.tape = w3.tape ∧ wc.output = w3.output ∧ wc.heap.size = w3.heap.size := by rw [HM.out.2.2.2.2]; simp [World.setCell]
        refine bodyPost_ret (v := .agg #[.int .i64 (MX + 1), .int .i64 c]) (by simp [results, Tryz.results145, go_sem, x0, x1]) rfl ⟨rfl, v', FIN.1, FIN.2.1, FIN.2.2.1, ?_, ?_, ?_, ?_, ?_⟩
        · exact hws.1.trans FIN.2.2.2.1
        · exact hws.2.1.trans FIN.2.2.2.2.1
        · exact hws.2.2.1.trans FIN.2.2.2.2.2.1
        · have := FIN.2.2.2.2.2.2.1
          have := hws.2.2.2
          simp [World.setCell]; omega
        · intro k hk h1 h2 h3
          refine FIN.2.2.2.2.2.2.2 k hk ?_ ?_ h3
          · intro e; exact h1 (by rw [e]; rfl)
          · intro e; exact h2 (by rw [e, HCP.out]; rfl)

end Go.Proofs.YtnkpogjiiohapaaGreatDoor

/-! RefWr: What a room must be to be written in, and what add leaves of it. -/
namespace Go.Proofs.YtnkpogjiiohapaaGreatDoor
open Go.RowKit

/-- One operation more of copy c: what has become of the room, and of the rest. -/
structure Added (w w' : World) (r N : Nat) (vO vC vL : Value) (vops : Nat → Value) (cops : Nat → List COp) (cp : Nat → Nat → Value) (has : Nat → Nat → Nat) (c : Nat) (o : COp) (v' : Value) : Prop where
  new : newOr w (vops c) v'
  room : isRoom w' r N vO vC vL (upd vops c v') (upd cops c (cops c ++ [o])) cp (fun d i => if d = c ∧ i = c then has c c + 1 else has d i)
  apart : Apart N (upd vops c v') cp
  os : w'.os = w.os
  tape : w'.tape = w.tape
  output : w'.output = w.output
  size : w.heap.size ≤ w'.heap.size
  other : ∀ k, k < w.heap.size → some k ≠ vO.ownBlock → some k ≠ (cp c 0).ownBlock → some k ≠ (vops c).ownBlock → w'.heap[k]? = w.heap[k]?

/-- What is asked of a room to write in copy c. -/
structure Writable (w : World) (r N : Nat) (vO vC vL : Value) (vops : Nat → Value) (cops : Nat → List COp) (cp : Nat → Nat → Value) (has : Nat → Nat → Nat) (c : Nat) (S : List POp) : Prop extends Shown w r N vO vC vL vops cops cp has c S where
  apart : Apart N vops cp
  all : has c c = (cops c).length
  cnt : ∀ o ∈ hasOps cops (has c) N, o.p.id.1 ≤ 1000000
theorem Writable.keepB {w w' : World} {r N : Nat} {vO vC vL : Value} {vops : Nat → Value} {cops : Nat → List COp} {cp : Nat → Nat → Value} {has : Nat → Nat → Nat} {c : Nat} {S : List POp} (h : Writable w r N vO vC vL vops cops cp has c S) (hb : Below w.heap.size w w') : Writable w' r N vO vC vL vops cops cp has c S :=
  { h.toShown.keep hb with apart := h.apart, all := h.all, cnt := h.cnt }

/-- The room behind what only made memory, and then one operation. -/
theorem Added.after {w w1 w' : World} {r N : Nat} {vO vC vL : Value} {vops : Nat → Value} {cops : Nat → List COp} {cp : Nat → Nat → Value} {has : Nat → Nat → Nat} {c : Nat} {o : COp} {v' : Value} (hb : Below w.heap.size w w1) (h : Added w1 w' r N vO vC vL vops cops cp has c o v') : Added w w' r N vO vC vL vops cops cp has c o v' :=
  ⟨h.new.imp id fun hh k hk => Nat.le_trans hb.size (hh k hk), h.room, h.apart, h.os.trans hb.os, h.tape.trans hb.tape, h.output.trans hb.output, Nat.le_trans hb.size h.size,
    fun k hk h1 h2 h3 => by rw [h.other k (Nat.lt_of_lt_of_le hk hb.size) h1 h2 h3, hb.block k hk]⟩

theorem add_w {w : World} {r N : Nat} {vO vC vL : Value} {vops : Nat → Value} {cops : Nat → List COp} {cp : Nat → Nat → Value} {has : Nat → Nat → Nat} {c : Nat} {S : List POp} (h : Writable w r N vO vC vL vops cops cp has c S) (hfull : (cops c).length < 60)
    (i1 i2 kind ob1 ob2 e1 e2 be1 be2 n v1 v2 : Int) (lst : Bool) (key : ByteArray) (vold : Value) (old : List PId) (hold : isIds w vold old) :
    Calls Tryz.prog 145 #[.pointer (some ⟨r, 0, none⟩), .int .i64 c, .agg #[.int .i64 i1, .int .i64 i2, .int .i64 kind, .bool lst, .int .i64 ob1, .int .i64 ob2, .string key, .int .i64 e1, .int .i64 e2, .int .i64 be1, .int .i64 be2, .int .i64 n, .int .i64 v1, .int .i64 v2, vold]] w fun e w' =>
      e = .returned (.agg #[.int .i64 (maxC (hasOps cops (has c) N) + 1), .int .i64 c]) ∧ ∃ v', Added w w' r N vO vC vL vops cops cp has c ⟨⟨(maxC (hasOps cops (has c) N) + 1, c), kind, lst, (ob1, ob2), key, (e1, e2), (be1, be2), n, (v1, v2), old⟩, vold⟩ v' :=
  (add_any h.room h.apart c h.hc hfull h.all h.cnt i1 i2 kind ob1 ob2 e1 e2 be1 be2 n v1 v2 lst key vold old hold).mono fun _ _ ⟨he, v', a1, a2, a3, a4, a5, a6, a7, a8⟩ => ⟨he, v', a1, a2, a3, a4, a5, a6, a7, a8⟩

end Go.Proofs.YtnkpogjiiohapaaGreatDoor

/-! RefNext: From one written operation to the next: the room behind add may be written in again. -/
namespace Go.Proofs.YtnkpogjiiohapaaGreatDoor
open Go.RowKit

/-- The operations that copy c has behind one more of its own: the others', with the new one behind its own. -/
theorem hasOps_add {cops : Nat → List COp} {has F : Nat → Nat} {N c : Nat} (hc : c < N) (hall : has c = (cops c).length) (hFc : F c = has c + 1) (hF : ∀ i, i ≠ c → F i = has i) (o : COp) :
    (hasOps (upd cops c (cops c ++ [o])) F N).Perm (hasOps cops has N ++ [o]) := by
  have key : ∀ k, k ≤ N → (hasOps (upd cops c (cops c ++ [o])) F k).Perm (hasOps cops has k ++ if c < k then [o] else []) := by
    intro k
    induction k with
    | zero => intro _; simp [hasOps]
    | succ k ih =>
      intro hk
      rw [hasOps_succ, hasOps_succ]
      have h1 := ih (by omega)
      by_cases e : k = c
      · subst e
        rw [if_neg (by omega), List.append_nil] at h1
        rw [if_pos (by omega), upd_same, hFc, hall]
        rw [List.take_of_length_le (by simp), List.take_of_length_le (Nat.le_refl _), List.append_assoc]
        exact h1.append_right _
      · rw [upd_ne _ _ e, hF k e]
        by_cases hlt : c < k
        · rw [if_pos hlt] at h1
          rw [if_pos (by omega)]
          refine (h1.append_right _).trans ?_
          rw [List.append_assoc, List.append_assoc]
          exact List.Perm.append_left _ List.perm_append_comm
        · rw [if_neg hlt, List.append_nil] at h1
          rw [if_neg (by omega), List.append_nil]
          exact h1.append_right _
  have := key N (Nat.le_refl _)
  rwa [if_pos hc] at this

theorem maxC_ge (l : List COp) : ∀ o ∈ l, o.p.id.1 ≤ maxC l := by
  have key : ∀ (l : List COp) (m : Int), m ≤ l.foldl (fun m o => if m < o.p.id.1 then o.p.id.1 else m) m ∧ ∀ o ∈ l, o.p.id.1 ≤ l.foldl (fun m o => if m < o.p.id.1 then o.p.id.1 else m) m := by
    intro l
    induction l with
    | nil => intro m; simp
    | cons x l ih =>
      intro m
      have h := ih (if m < x.p.id.1 then x.p.id.1 else m)
      rw [List.foldl_cons]
      refine ⟨Int.le_trans ?_ h.1, fun o ho => ?_⟩
      · split <;> omega
      · rcases List.mem_cons.1 ho with rfl | ho
        · refine Int.le_trans ?_ h.1
          split <;> omega
        · exact h.2 o ho
  exact (key l 0).2

/-- Behind one operation more the room may be written in again, and shows what it shows with it. -/
theorem Added.next {w w' : World} {r N : Nat} {vO vC vL : Value} {vops : Nat → Value} {cops : Nat → List COp} {cp : Nat → Nat → Value} {has : Nat → Nat → Nat} {c : Nat} {S : List POp} {o : COp} {v' : Value}
    (h : Writable w r N vO vC vL vops cops cp has c S) (ha : Added w w' r N vO vC vL vops cops cp has c o v') (ho : o.p.id = (maxC (hasOps cops (has c) N) + 1, (c : Int))) (hb : maxC (hasOps cops (has c) N) < 1000000) :
    Writable w' r N vO vC vL (upd vops c v') (upd cops c (cops c ++ [o])) cp (fun d i => if d = c ∧ i = c then has c c + 1 else has d i) c (S ++ [o.p]) := by
  have hp := hasOps_add (cops := cops) (has := has c) (F := fun i => if c = c ∧ i = c then has c c + 1 else has c i) (N := N) h.hc h.all (by simp) (fun i hi => by simp [hi]) o
  have hmem : ∀ x ∈ hasOps (upd cops c (cops c ++ [o])) (fun i => if c = c ∧ i = c then has c c + 1 else has c i) N, x ∈ hasOps cops (has c) N ∨ x = o := fun x hx => by
    have := hp.mem_iff.1 hx
    rcases List.mem_append.1 this with h1 | h1
    · exact .inl h1
    · exact .inr (by simpa using h1)
  have hlt : ∀ p ∈ S, p.id.1 ≤ maxC (hasOps cops (has c) N) := fun p hp' => by
    obtain ⟨x, hx, rfl⟩ := List.mem_map.1 (h.perm.mem_iff.1 hp')
    exact maxC_ge _ x hx
  refine { room := ha.room, hc := h.hc, perm := ?_, sort := ?_, apart := ha.apart, all := ?_, cnt := ?_ }
  · refine (h.perm.append_right [o.p]).trans ?_
    rw [show (hasOps cops (has c) N).map COp.p ++ [o.p] = (hasOps cops (has c) N ++ [o]).map COp.p by simp]
    exact (hp.map _).symm
  · unfold Sorted
    rw [List.pairwise_append]
    refine ⟨h.sort, by simp, fun a ha' b hb' => ?_⟩
    simp at hb'; subst hb'
    have := hlt a ha'
    rw [ho]
    simp [idLess]; omega
  · simp [upd_same, h.all]
  · intro x hx
    rcases hmem x hx with h1 | rfl
    · exact h.cnt x h1
    · rw [ho]; show maxC (hasOps cops (has c) N) + 1 ≤ 1000000; omega

end Go.Proofs.YtnkpogjiiohapaaGreatDoor

/-! RefWrote: What several written operations leave of the room; the greatest counter by the sorted list. -/
namespace Go.Proofs.YtnkpogjiiohapaaGreatDoor
open Go.RowKit

/-- The greatest counter of some operations. -/
def topP (S : List POp) : Int := S.foldl (fun m p => if m < p.id.1 then p.id.1 else m) 0
theorem topP_map (l : List COp) : maxC l = topP (l.map COp.p) := by
  unfold maxC topP
  rw [List.foldl_map]
theorem topP_spec (S : List POp) : 0 ≤ topP S ∧ (∀ p ∈ S, p.id.1 ≤ topP S) ∧ (topP S = 0 ∨ ∃ p ∈ S, p.id.1 = topP S) := by
  have key : ∀ (S : List POp) (m : Int), m ≤ S.foldl (fun m p => if m < p.id.1 then p.id.1 else m) m ∧ (∀ p ∈ S, p.id.1 ≤ S.foldl (fun m p => if m < p.id.1 then p.id.1 else m) m) ∧
      (S.foldl (fun m p => if m < p.id.1 then p.id.1 else m) m = m ∨ ∃ p ∈ S, p.id.1 = S.foldl (fun m p => if m < p.id.1 then p.id.1 else m) m) := by
    intro S
    induction S with
    | nil => intro m; simp
    | cons x S ih =>
      intro m
      obtain ⟨h1, h2, h3⟩ := ih (if m < x.id.1 then x.id.1 else m)
      rw [List.foldl_cons]
      refine ⟨Int.le_trans ?_ h1, fun p hp => ?_, ?_⟩
      · split <;> omega
      · rcases List.mem_cons.1 hp with rfl | hp
        · refine Int.le_trans ?_ h1
          split <;> omega
        · exact h2 p hp
      · rcases h3 with h3 | ⟨p, hp, h3⟩
        · rw [h3]
          split
          · exact .inr ⟨x, List.mem_cons_self, rfl⟩
          · exact .inl rfl
        · exact .inr ⟨p, List.mem_cons_of_mem _ hp, h3⟩
  exact key S 0
theorem topP_perm {S T : List POp} (h : S.Perm T) : topP S = topP T := by
  obtain ⟨a1, a2, a3⟩ := topP_spec S
  obtain ⟨b1, b2, b3⟩ := topP_spec T
  refine Int.le_antisymm ?_ ?_
  · rcases a3 with a3 | ⟨p, hp, a3⟩
    · omega
    · rw [← a3]; exact b2 p (h.mem_iff.1 hp)
  · rcases b3 with b3 | ⟨p, hp, b3⟩
    · omega
    · rw [← b3]; exact a2 p (h.mem_iff.2 hp)
theorem topP_snoc (S : List POp) (o : POp) (h : o.id.1 = topP S + 1) : topP (S ++ [o]) = topP S + 1 := by
  show (S ++ [o]).foldl (fun m p => if m < p.id.1 then p.id.1 else m) 0 = topP S + 1
  rw [List.foldl_append]
  show (if topP S < o.id.1 then o.id.1 else topP S) = topP S + 1
  rw [h, if_pos (by omega)]

section
theorem Shown.top {w : World} {r N : Nat} {vO vC vL : Value} {vops : Nat → Value} {cops : Nat → List COp} {cp : Nat → Nat → Value} {has : Nat → Nat → Nat} {c : Nat} {S : List POp} (h : Shown w r N vO vC vL vops cops cp has c S) : maxC (hasOps cops (has c) N) = topP S := by
  rw [topP_map]; exact (topP_perm h.perm).symm

/-- Blocks of other types stay. -/
theorem Added.typed {w w' : World} {r N : Nat} {vO vC vL : Value} {vops : Nat → Value} {cops : Nat → List COp} {cp : Nat → Nat → Value} {has : Nat → Nat → Nat} {c : Nat} {S : List POp} {o : COp} {v' : Value} (h : Writable w r N vO vC vL vops cops cp has c S) (ha : Added w w' r N vO vC vL vops cops cp has c o v') {g : Nat} {cs : Array Value} {e : TypeId} {f : Nat × Nat}
    (hg : w.heap[g]? = some (.cells cs e f)) (h1 : e ≠ 255) (h2 : e ≠ 3) (h3 : e ≠ 233) : w'.heap[g]? = w.heap[g]? := by
  refine ha.other g (Array.getElem?_eq_some_iff.1 hg).1 ?_ ?_ ?_
  · intro e'; obtain ⟨c', hc'⟩ := own_type h.room.hO e'.symm; exact h1 (cells_type hg hc')
  · intro e'; obtain ⟨c', hc'⟩ := own_type (h.room.hH c h.hc) e'.symm; exact h2 (cells_type hg hc')
  · intro e'; obtain ⟨c', hc'⟩ := own_type (h.room.hops c h.hc).1 e'.symm; exact h3 (cells_type hg hc')
theorem Added.row {w w' : World} {r N : Nat} {vO vC vL : Value} {vops : Nat → Value} {cops : Nat → List COp} {cp : Nat → Nat → Value} {has : Nat → Nat → Nat} {c : Nat} {S : List POp} {o : COp} {v' : Value} (h : Writable w r N vO vC vL vops cops cp has c S) (ha : Added w w' r N vO vC vL vops cops cp has c o v') {base : Nat} {e : TypeId} {size : Nat} {v : Value} {n : Nat} {xs : List Value}
    (ho : w.ownsRow base e size v n xs) (h1 : e ≠ 255) (h2 : e ≠ 3) (h3 : e ≠ 233) : w'.ownsRow base e size v n xs := by
  refine ⟨ho.1, ?_⟩
  rcases ho.2 with hn | ⟨g, cap, cur, rfl, hb, hg, rest⟩
  · exact .inl hn
  · exact .inr ⟨g, cap, cur, rfl, hb, by rw [ha.typed h hg h1 h2 h3]; exact hg, rest⟩
end

/-- Some operations more of copy c: what has become of the room, and of the rest. -/
structure Wrote (w w' : World) (r N : Nat) (vO vC vL : Value) (vops : Nat → Value) (cops : Nat → List COp) (cp : Nat → Nat → Value) (has : Nat → Nat → Nat) (c : Nat) (S : List POp) (l : List COp) (vops' : Nat → Value) (cops' : Nat → List COp) (has' : Nat → Nat → Nat) : Prop where
  wr : Writable w' r N vO vC vL vops' cops' cp has' c (S ++ l.map COp.p)
  ops : cops' = upd cops c (cops c ++ l)
  hs : has' = fun d i => if d = c ∧ i = c then has c c + l.length else has d i
  vs : ∀ i, i ≠ c → vops' i = vops i
  new : newOr w (vops c) (vops' c)
  olds : ∀ o ∈ l, ∀ k, o.vold.ownBlock = some k → w.heap.size ≤ k
  os : w'.os = w.os
  tape : w'.tape = w.tape
  output : w'.output = w.output
  size : w.heap.size ≤ w'.heap.size
  other : ∀ k, k < w.heap.size → some k ≠ vO.ownBlock → some k ≠ (cp c 0).ownBlock → some k ≠ (vops c).ownBlock → w'.heap[k]? = w.heap[k]?

section
theorem Wrote.of_added {w w' : World} {r N : Nat} {vO vC vL : Value} {vops : Nat → Value} {cops : Nat → List COp} {cp : Nat → Nat → Value} {has : Nat → Nat → Nat} {c : Nat} {S : List POp} {o : COp} {v' : Value} (h : Writable w r N vO vC vL vops cops cp has c S) (ha : Added w w' r N vO vC vL vops cops cp has c o v') (ho : o.p.id = (topP S + 1, (c : Int))) (hb : topP S < 1000000) {w0 : World} (h0 : Below w0.heap.size w0 w) (hold : ∀ k, o.vold.ownBlock = some k → w0.heap.size ≤ k) :
    Wrote w0 w' r N vO vC vL vops cops cp has c S [o] (upd vops c v') (upd cops c (cops c ++ [o])) (fun d i => if d = c ∧ i = c then has c c + 1 else has d i) :=
  { wr := Added.next h ha (by rw [h.toShown.top]; exact ho) (by rw [h.toShown.top]; exact hb)
    ops := rfl
    hs := rfl
    vs := fun i hi => upd_ne _ _ hi
    new := by rw [upd_same]; exact ha.new.imp id fun hh k hk => Nat.le_trans h0.size (hh k hk)
    olds := fun o' ho' k hk => by simp at ho'; subst ho'; exact hold k hk
    os := ha.os.trans h0.os, tape := ha.tape.trans h0.tape, output := ha.output.trans h0.output, size := Nat.le_trans h0.size ha.size
    other := fun k hk h1 h2 h3 => by rw [ha.other k (Nat.lt_of_lt_of_le hk h0.size) h1 h2 h3, h0.block k hk] }

theorem Wrote.trans {w w1 w' : World} {r N : Nat} {vO vC vL : Value} {vops vops1 vops' : Nat → Value} {cops cops1 cops' : Nat → List COp} {cp : Nat → Nat → Value} {has has1 has' : Nat → Nat → Nat} {c : Nat} {S : List POp} {l1 l2 : List COp} (h1 : Wrote w w1 r N vO vC vL vops cops cp has c S l1 vops1 cops1 has1) (h2 : Wrote w1 w' r N vO vC vL vops1 cops1 cp has1 c (S ++ l1.map COp.p) l2 vops' cops' has') :
    Wrote w w' r N vO vC vL vops cops cp has c S (l1 ++ l2) vops' cops' has' := by
  refine { wr := by rw [List.map_append, ← List.append_assoc]; exact h2.wr, ops := ?_, hs := ?_, vs := fun i hi => (h2.vs i hi).trans (h1.vs i hi), new := ?_, olds := ?_, os := h2.os.trans h1.os, tape := h2.tape.trans h1.tape, output := h2.output.trans h1.output, size := Nat.le_trans h1.size h2.size, other := ?_ }
  · rw [h2.ops, h1.ops]
    funext i
    by_cases e : i = c
    · subst e; simp [upd]
    · simp [upd, e]
  · rw [h2.hs, h1.hs]
    funext d i
    by_cases e : d = c ∧ i = c
    · simp only [e, and_self, if_true, List.length_append]; omega
    · simp only [e, if_false]
  · rcases h2.new with h | h
    · rcases h1.new with h' | h'
      · exact .inl (h.trans h')
      · exact .inr fun k hk => h' k (by rw [← h]; exact hk)
    · exact .inr fun k hk => Nat.le_trans h1.size (h k hk)
  · intro o ho k hk
    rcases List.mem_append.1 ho with ho | ho
    · exact h1.olds o ho k hk
    · exact Nat.le_trans h1.size (h2.olds o ho k hk)
  · intro k hk k1 k2 k3
    rw [h2.other k (Nat.lt_of_lt_of_le hk h1.size) k1 k2 ?_, h1.other k hk k1 k2 k3]
    rcases h1.new with h' | h'
    · rw [h']; exact k3
    · intro e; have := h' k e.symm; omega

/-- The room behind what only made memory, and then some operations. -/
theorem Wrote.after {w w1 w' : World} {r N : Nat} {vO vC vL : Value} {vops vops' : Nat → Value} {cops cops' : Nat → List COp} {cp : Nat → Nat → Value} {has has' : Nat → Nat → Nat} {c : Nat} {S : List POp} {l1 : List COp} (hb : Below w.heap.size w w1) (h : Wrote w1 w' r N vO vC vL vops cops cp has c S l1 vops' cops' has') : Wrote w w' r N vO vC vL vops cops cp has c S l1 vops' cops' has' :=
  { h with new := h.new.imp id fun hh k hk => Nat.le_trans hb.size (hh k hk), olds := fun o ho k hk => Nat.le_trans hb.size (h.olds o ho k hk), os := h.os.trans hb.os, tape := h.tape.trans hb.tape, output := h.output.trans hb.output, size := Nat.le_trans hb.size h.size,
           other := fun k hk h1 h2 h3 => by rw [h.other k (Nat.lt_of_lt_of_le hk hb.size) h1 h2 h3, hb.block k hk] }
/-- Behind it what only makes memory. -/
theorem Wrote.before {w w1 w' : World} {r N : Nat} {vO vC vL : Value} {vops vops' : Nat → Value} {cops cops' : Nat → List COp} {cp : Nat → Nat → Value} {has has' : Nat → Nat → Nat} {c : Nat} {S : List POp} {l1 : List COp} (h : Wrote w w1 r N vO vC vL vops cops cp has c S l1 vops' cops' has') (hb : Below w1.heap.size w1 w') : Wrote w w' r N vO vC vL vops cops cp has c S l1 vops' cops' has' :=
  { h with wr := h.wr.keepB hb, os := hb.os.trans h.os, tape := hb.tape.trans h.tape, output := hb.output.trans h.output, size := Nat.le_trans h.size hb.size,
           other := fun k hk h1 h2 h3 => by rw [hb.block k (Nat.lt_of_lt_of_le hk h.size), h.other k hk h1 h2 h3] }
/-- What lies in blocks that are not written stays. -/
theorem Wrote.typed {w w' : World} {r N : Nat} {vO vC vL : Value} {vops vops' : Nat → Value} {cops cops' : Nat → List COp} {cp : Nat → Nat → Value} {has has' : Nat → Nat → Nat} {c : Nat} {S : List POp} {l1 : List COp} (hw : Writable w r N vO vC vL vops cops cp has c S) (h : Wrote w w' r N vO vC vL vops cops cp has c S l1 vops' cops' has') {g : Nat} {cs : Array Value} {e : TypeId} {f : Nat × Nat}
    (hg : w.heap[g]? = some (.cells cs e f)) (h1 : e ≠ 255) (h2 : e ≠ 3) (h3 : e ≠ 233) : w'.heap[g]? = some (.cells cs e f) := by
  rw [← hg]
  refine h.other g (Array.getElem?_eq_some_iff.1 hg).1 ?_ ?_ ?_
  · intro e'; obtain ⟨c', hc'⟩ := own_type hw.room.hO e'.symm; exact h1 (cells_type hg hc')
  · intro e'; obtain ⟨c', hc'⟩ := own_type (hw.room.hH c hw.hc) e'.symm; exact h2 (cells_type hg hc')
  · intro e'; obtain ⟨c', hc'⟩ := own_type (hw.room.hops c hw.hc).1 e'.symm; exact h3 (cells_type hg hc')
theorem Wrote.row {w w' : World} {r N : Nat} {vO vC vL : Value} {vops vops' : Nat → Value} {cops cops' : Nat → List COp} {cp : Nat → Nat → Value} {has has' : Nat → Nat → Nat} {c : Nat} {S : List POp} {l1 : List COp} (hw : Writable w r N vO vC vL vops cops cp has c S) (h : Wrote w w' r N vO vC vL vops cops cp has c S l1 vops' cops' has') {base : Nat} {e : TypeId} {size : Nat} {v : Value} {n : Nat} {xs : List Value}
    (ho : w.ownsRow base e size v n xs) (h1 : e ≠ 255) (h2 : e ≠ 3) (h3 : e ≠ 233) : w'.ownsRow base e size v n xs := by
  refine ⟨ho.1, ?_⟩
  rcases ho.2 with hn | ⟨g, cap, cur, rfl, hb, hg, rest⟩
  · exact .inl hn
  · exact .inr ⟨g, cap, cur, rfl, hb, h.typed hw hg h1 h2 h3, rest⟩
theorem Wrote.len {w w' : World} {r N : Nat} {vO vC vL : Value} {vops vops' : Nat → Value} {cops cops' : Nat → List COp} {cp : Nat → Nat → Value} {has has' : Nat → Nat → Nat} {c : Nat} {S : List POp} {l1 : List COp} (h : Wrote w w' r N vO vC vL vops cops cp has c S l1 vops' cops' has') : (cops' c).length = (cops c).length + l1.length := by
  rw [h.ops, upd_same, List.length_append]
end

/-- A block of two cells. -/
theorem blk2 {w : World} {g : Nat} {a b : Value} {t : TypeId} {f : Nat × Nat} (h : w.heap[g]? = some (.cells #[a, b] t f)) : w.cell? ⟨g, 0, none⟩ = some a ∧ w.cell? ⟨g, 1, none⟩ = some b := by
  simp [World.cell?, h]
theorem blk_fz {w : World} {g : Nat} {cs : Array Value} {t : TypeId} (h : w.heap[g]? = some (.cells cs t (0, 0))) (j : Nat) : w.frozen? ⟨g, j, none⟩ = false := by
  simp [World.frozen?, h]
theorem blk_lt {w : World} {g : Nat} {o : Obj} (h : w.heap[g]? = some o) : g < w.heap.size := (Array.getElem?_eq_some_iff.1 h).1
theorem blk_alloc {w : World} {g : Nat} {o o' : Obj} (h : w.heap[g]? = some o) : (w.alloc o').heap[g]? = some o := by
  show (w.heap.push o')[g]? = some o
  rw [← h, Array.getElem?_push, if_neg (Nat.ne_of_lt (blk_lt h))]
theorem blk_new (w : World) (o : Obj) : (w.alloc o).heap[w.heap.size]? = some o := by
  show (w.heap.push o)[w.heap.size]? = some o
  rw [Array.getElem?_push, if_pos rfl]
theorem blk_keep {w w' : World} {g : Nat} {o : Obj} (h : w.heap[g]? = some o) (hb : Below w.heap.size w w') : w'.heap[g]? = some o := by
  rw [hb.block g (blk_lt h)]; exact h
theorem ids_nil (w : World) : isIds w (.slice none 0 0) [] := World.ownsRow_nil _ _ _ _

/-- A cell of a block of Ids that the room does not name is written: the room is as it was. -/
theorem isRoom.cell {w : World} {r N : Nat} {vO vC vL : Value} {vops : Nat → Value} {cops : Nat → List COp} {cp : Nat → Nat → Value} {has : Nat → Nat → Nat} (h : isRoom w r N vO vC vL vops cops cp has) {g : Nat} {cs : Array Value} (hg : w.heap[g]? = some (.cells cs 36 (0, 0)))
    (hn : ∀ i, i < N → ∀ o ∈ cops i, o.vold.ownBlock ≠ some g) (j : Nat) (u : Value) : isRoom (w.setCell ⟨g, j, none⟩ u) r N vO vC vL vops cops cp has := by
  have ht : ∀ {base : Nat} {e : TypeId} {size : Nat} {v : Value} {n : Nat} {xs : List Value}, w.ownsRow base e size v n xs → e ≠ 36 → v.ownBlock ≠ some g := by
    intro base e size v n xs ho he e'
    obtain ⟨c', hc'⟩ := own_type ho e'
    exact he (cells_type hc' hg)
  refine ⟨?_, h.hN, row_other h.hO (ht h.hO (by decide)) u, fun i hi => ⟨row_other (h.hops i hi).1 (ht (h.hops i hi).1 (by decide)) u, fun o ho => row_other ((h.hops i hi).2 o ho) (hn i hi o ho) u⟩, row_other h.hC (ht h.hC (by decide)) u,
    fun c hc => row_other (h.hH c hc) (ht (h.hH c hc) (by decide)) u, h.hle, h.hsz⟩
  rw [Below.heap_setCell _ _ _ _ (by intro e; subst e; exact absurd (cells_type h.hr hg) (by decide))]
  exact h.hr

/-- The result's cell is written behind it. -/
theorem Wrote.cell {w w1 : World} {r N : Nat} {vO vC vL : Value} {vops vops' : Nat → Value} {cops cops' : Nat → List COp} {cp : Nat → Nat → Value} {has has' : Nat → Nat → Nat} {c : Nat} {S : List POp} {l : List COp} (hw : Writable w r N vO vC vL vops cops cp has c S)
    (h : Wrote w w1 r N vO vC vL vops cops cp has c S l vops' cops' has') {g : Nat} {cs : Array Value} (hg : w1.heap[g]? = some (.cells cs 36 (0, 0))) (hgw : w.heap.size ≤ g) (hn : ∀ o ∈ l, o.vold.ownBlock ≠ some g) (j : Nat) (u : Value) :
    Wrote w (w1.setCell ⟨g, j, none⟩ u) r N vO vC vL vops cops cp has c S l vops' cops' has' := by
  refine { h with wr := { h.wr with room := h.wr.room.cell hg ?_ j u }, os := ?_, tape := ?_, output := ?_, size := ?_, other := ?_ }
  · intro i hi o ho e
    rw [h.ops] at ho
    have hold : ∀ o ∈ cops i, o.vold.ownBlock ≠ some g := fun o ho e => by
      have := (World.ownsRow.lt ((hw.room.hops i hi).2 o ho) g e).2; omega
    by_cases ei : i = c
    · subst ei
      rw [upd_same] at ho
      rcases List.mem_append.1 ho with ho | ho
      · exact hold o ho e
      · exact hn o ho e
    · rw [upd_ne _ _ ei] at ho
      exact hold o ho e
  · simpa [World.setCell] using h.os
  · simpa [World.setCell] using h.tape
  · simpa [World.setCell] using h.output
  · simpa [World.setCell] using h.size
  · intro k hk h1 h2 h3
    rw [Below.heap_setCell _ _ _ _ (show k ≠ g by omega)]
    exact h.other k hk h1 h2 h3

/-- Its result's two cells. -/
theorem Wrote.res {w w1 : World} {r N : Nat} {vO vC vL : Value} {vops vops' : Nat → Value} {cops cops' : Nat → List COp} {cp : Nat → Nat → Value} {has has' : Nat → Nat → Nat} {c : Nat} {S : List POp} {l : List COp} (hw : Writable w r N vO vC vL vops cops cp has c S)
    (h : Wrote w w1 r N vO vC vL vops cops cp has c S l vops' cops' has') {g : Nat} {a b : Value} (hg : w1.heap[g]? = some (.cells #[a, b] 36 (0, 0))) (hgw : w.heap.size ≤ g) (hn : ∀ o ∈ l, o.vold.ownBlock ≠ some g) (u v : Value) :
    Wrote w ((w1.setCell ⟨g, 0, none⟩ u).setCell ⟨g, 1, none⟩ v) r N vO vC vL vops cops cp has c S l vops' cops' has' := by
  refine (h.cell hw hg hgw hn 0 u).cell hw (cs := #[u, b]) ?_ hgw hn 1 v
  have hl := blk_lt hg
  obtain ⟨_, he⟩ := Array.getElem?_eq_some_iff.1 hg
  simp [World.setCell, hl, Array.getElem_modify_self, he]

/-- add, with what it leaves told so. -/
theorem add_wr {w0 w : World} {r N : Nat} {vO vC vL : Value} {vops : Nat → Value} {cops : Nat → List COp} {cp : Nat → Nat → Value} {has : Nat → Nat → Nat} {c : Nat} {S : List POp} (h0 : Below w0.heap.size w0 w) (h : Writable w r N vO vC vL vops cops cp has c S) (hfull : (cops c).length < 60) {t : Int} (ht : topP S = t) (hb : t < 1000000)
    (i1 i2 kind ob1 ob2 e1 e2 be1 be2 n v1 v2 : Int) (lst : Bool) (key : ByteArray) (vold : Value) (old : List PId) (hold : isIds w vold old) (hnew : ∀ k, vold.ownBlock = some k → w0.heap.size ≤ k) :
    Calls Tryz.prog 145 #[.pointer (some ⟨r, 0, none⟩), .int .i64 c, .agg #[.int .i64 i1, .int .i64 i2, .int .i64 kind, .bool lst, .int .i64 ob1, .int .i64 ob2, .string key, .int .i64 e1, .int .i64 e2, .int .i64 be1, .int .i64 be2, .int .i64 n, .int .i64 v1, .int .i64 v2, vold]] w fun e w' =>
      e = .returned (.agg #[.int .i64 (t + 1), .int .i64 c]) ∧ ∃ vops' cops' has', Wrote w0 w' r N vO vC vL vops cops cp has c S [⟨⟨(t + 1, c), kind, lst, (ob1, ob2), key, (e1, e2), (be1, be2), n, (v1, v2), old⟩, vold⟩] vops' cops' has' := by
  subst ht
  refine (add_w h hfull i1 i2 kind ob1 ob2 e1 e2 be1 be2 n v1 v2 lst key vold old hold).mono fun _ _ ⟨he, v', ha⟩ => ?_
  rw [h.toShown.top] at he ha
  exact ⟨he, _, _, _, Wrote.of_added h ha rfl hb h0 hnew⟩

end Go.Proofs.YtnkpogjiiohapaaGreatDoor
