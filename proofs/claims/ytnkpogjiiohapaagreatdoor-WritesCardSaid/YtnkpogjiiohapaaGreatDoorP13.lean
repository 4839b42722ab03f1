/- Our own text (PBookA, PBookB, PBookD). -/
import Derived.Deep.DeepCutAuto
import Derived.Deep.RegionHeld3
import Derived.Deep.DrawnRows
import Derived.Test.YtnkpogjiiohapaaGreatDoorP12
set_option linter.unusedSimpArgs false
set_option linter.unusedVariables false

/-! PBookA: The book: rows of which the shape alone is known; an append onto one; marks. -/
namespace Go.Proofs.YtnkpogjiiohapaaGreatDoor
open Go.RowKit

/-- A row, whatever it holds. -/
def Shape (e : TypeId) (k : Nat) (w : World) (v : Value) (n : Nat) : Prop := ∃ xs, w.ownsRow 0 e k v n xs
/-- The blocks of a type keep their sizes. -/
def Same (e : TypeId) (w w' : World) : Prop := ∀ (g : Nat) (cur : Array Value), w.heap[g]? = some (.cells cur e (0, 0)) → ∃ cur', w'.heap[g]? = some (.cells cur' e (0, 0)) ∧ cur'.size = cur.size
theorem Same.refl (e : TypeId) (w : World) : Same e w w := fun _ cur h => ⟨cur, h, rfl⟩
theorem Same.trans {e : TypeId} {a b c : World} (h : Same e a b) (k : Same e b c) : Same e a c := fun g cur hg => by
  obtain ⟨c1, h1, h2⟩ := h g cur hg
  obtain ⟨c2, h3, h4⟩ := k g c1 h1
  exact ⟨c2, h3, h4.trans h2⟩
theorem Same.below {e : TypeId} {w w' : World} (h : Below w.heap.size w w') : Same e w w' := fun g cur hg => ⟨cur, (h.block g (blk_lt hg)).trans hg, rfl⟩
theorem Same.setCell {e : TypeId} (w : World) (g o : Nat) (u : Value) : Same e w (w.setCell ⟨g, o, none⟩ u) := fun k cur hk => by
  by_cases hh : k = g
  · subst hh
    refine ⟨cur.setIfInBounds o u, ?_, by simp⟩
    simp [World.setCell, Array.getElem?_modify, hk]
  · exact ⟨cur, (setCell_other hh).trans hk, rfl⟩
theorem Shape.same {e : TypeId} {k : Nat} {w w' : World} {v : Value} {n : Nat} (h : Shape e k w v n) (hs : Same e w w') : Shape e k w' v n := by
  obtain ⟨xs, h1, h2⟩ := h
  rcases h2 with ⟨rfl, rfl⟩ | ⟨g, cap, cur, rfl, hb, hg, h3, h4, h5, h6⟩
  · exact ⟨[], by simp, .inl ⟨rfl, rfl⟩⟩
  · obtain ⟨cur', hg', hz⟩ := hs g cur hg
    refine ⟨cur'.toList.take (n * k), ?_, .inr ⟨g, cap, cur', rfl, hb, hg', h3, h4, hz.trans h5, rfl⟩⟩
    have : n * k ≤ cap * k := Nat.mul_le_mul_right _ h3
    simp
    omega
theorem Shape.lt {e : TypeId} {k : Nat} {w : World} {v : Value} {n : Nat} (h : Shape e k w v n) : ∀ g, v.ownBlock = some g → g < w.heap.size := fun g hg => by
  obtain ⟨xs, h⟩ := h
  exact (World.ownsRow.lt h g hg).2

/-- Nothing turned but v's own block, and the blocks of the type keep their sizes. -/
structure Ran (e : TypeId) (v : Value) (w W : World) : Prop where
  t : Turned (fun k => v.ownBlock = some k) w W
  s : Same e w W
theorem Ran.refl (e : TypeId) (v : Value) (w : World) : Ran e v w w := ⟨Turned.of_below (Below.refl _ w), Same.refl e w⟩
theorem Ran.trans {e : TypeId} {v : Value} {a b c : World} (h : Ran e v a b) (k : Ran e v b c) : Ran e v a c := ⟨h.t.trans k.t, h.s.trans k.s⟩
theorem Ran.alloc {e : TypeId} {v : Value} {w W : World} (h : Ran e v w W) (o : Obj) : Ran e v w (W.alloc o) := ⟨h.t.allocT o, h.s.trans (Same.below ((Below.refl _ W).alloc (Nat.le_refl _) o))⟩
theorem Ran.drew {e : TypeId} {v : Value} {w W : World} (h : Ran e v w W) : Ran e v w W.drew := ⟨h.t.drewT, h.s⟩

theorem run_app_shape {P : Program} (w : World) (t ty e : TypeId) (i : TypeInfo) (z : Value) (size bytes : Nat) (ht : P.underlying t = some (.slice e)) (hi : P.info? e = some i) (hz : i.zero = some z)
    (hsize : i.size = size) (hby : i.bytes = bytes) (hzs : z.cells.size = size) (hsz : 0 < size)
    (v : Value) (n : Nat) (hsh : Shape e size w v n)
    (a : Addr) (m c : Nat) (hm : 0 < m) (news : List Value) (hl : news.length = m * size) (hnews : ∀ j u, news[j]? = some u → w.cell? (a.add j) = some u) (h1 : ∀ u ∈ news, u.oneCell' = true)
    (h63 : n + m ≤ maxLen) (hbytes : (n + m) * bytes ≤ 140737488355328) :
    ∃ g cap w', (Builtin.append_ #[t, t] ty #[v, .slice (some a) m c]).run P w = .ok (.slice (some ⟨g, 0, none⟩) (n + m) cap) w' ∧ Shape e size w' (.slice (some ⟨g, 0, none⟩) (n + m) cap) (n + m) ∧ Ran e v w w' ∧ (v.ownBlock = some g ∨ w.heap.size ≤ g) := by
  obtain ⟨xs, hown⟩ := hsh
  obtain ⟨v', w', hr, ho, hg, hn⟩ := run_app_where (P := P) w 0 t ty e i z size bytes ht hi hz hsize hby hzs hsz v n xs hown a m c news hl hnews h1 h63 hbytes (Nat.zero_le _)
  obtain ⟨g, cap, rfl, _, hgl⟩ : ∃ g cap, v' = .slice (some ⟨g, 0, none⟩) (n + m) cap ∧ 0 ≤ g ∧ g < w'.heap.size := by
    rcases ho.2 with ⟨_, h0⟩ | ⟨g, cap, cur, hv, hb, hg, _⟩
    · omega
    · exact ⟨g, cap, hv, hb, blk_lt hg⟩
  have hnew : v.ownBlock = some g ∨ w.heap.size ≤ g := by
    rcases hn with h | h
    · exact .inl h.symm
    · exact .inr (h g rfl)
  refine ⟨g, cap, w', hr, ⟨_, ho⟩, ⟨Turned.of_grown hg fun k hk => hk, ?_⟩, hnew⟩
  have hsmall : n + m ≤ 9223372036854775807 := by simp only [maxLen] at h63; omega
  subst hsize
  subst hby
  rcases hown.2 with ⟨rfl, rfl⟩ | ⟨gv, capv, cur, rfl, hbg, hgg, hnc, hcm, hcs, htake⟩
  · have hr2 := run_append_nil (P := P) w t ty e i z ht hi hz a m c news hl hnews (by omega) (by omega) (by have hb := hbytes; simp only [Nat.zero_add] at hb; omega)
    rw [hr2] at hr
    injection hr with e1 e2
    subst e2
    exact fun k cur hk => ⟨cur, (alloc_old_r w.drew _ (blk_lt hk)).trans hk, rfl⟩
  · by_cases hroom : n + m ≤ capv
    · have hfit : n * i.size + news.length ≤ cur.size := by rw [hl, hcs, ← Nat.add_mul]; exact Nat.mul_le_mul_right _ hroom
      have hr2 := run_append_room (P := P) w t ty e i ht hi gv n capv cur hgg a m c news hl hnews h1 hroom hfit
      rw [hr2] at hr
      injection hr with e1 e2
      subst e2
      intro k ck hk
      by_cases hh : k = gv
      · subst hh
        rw [hgg] at hk
        injection hk with hk
        injection hk with hk
        subst hk
        refine ⟨_, setRow_heap w k cur _ e (0, 0) hgg, ?_⟩
        simp
        omega
      · exact ⟨ck, (hg.block k (blk_lt hk) (by simp [Value.ownBlock]; exact hh)).trans hk, rfl⟩
    · have holds : ∀ j u, xs[j]? = some u → w.cell? ((⟨gv, 0, none⟩ : Addr).add j) = some u := hown.cells (g := gv) rfl
      have hr2 := run_append_grow (P := P) w t ty e i z ht hi hz ⟨gv, 0, none⟩ n capv xs hown.1 holds a m c news hl hnews (by omega) (by omega) (growslice_fits (by omega) hbytes)
      rw [hr2] at hr
      injection hr with e1 e2
      subst e2
      exact fun k cur hk => ⟨cur, (alloc_old_r w.drew _ (blk_lt hk)).trans hk, rfl⟩

/-- As a step of a region that draws. -/
theorem step_shape (size bytes : Nat) (t e : TypeId) (z : Value) (hinfo : (Tryz.prog.info? e).map (fun i => (i.zero, i.size, i.bytes)) = some (some z, size, bytes))
    (ht : Tryz.prog.underlying t = some (.slice e)) (hzs : z.cells.size = size) (hk : 0 < size)
    {ops : Array Oper} {o : Oper} {a : Act} {w : World} {K : Act → World → Prop} {Q : Exit → Act → World → Prop} {E : Prop}
    (hg : o.guard = none) (s x : Operand) (ho : o.op = .call { callee := .builtin .append, args := #[s, x], argTypes := #[t, t] }) (v : Value) (n : Nat) (hs : a.eval s = v)
    (hsh : Shape e size w v n) (g m c : Nat) (hm : 0 < m) (hx : a.eval x = .slice (some ⟨g, 0, none⟩) m c) {cs : Array Value} (hnew : w.heap[g]? = some (.cells cs e (0, 0))) (hl : cs.size = m * size)
    (h1 : ∀ u ∈ cs.toList, u.oneCell' = true) (hlen : (n + m) * bytes ≤ 140737488355328) (hlen' : n + m ≤ maxLen)
    (h : ∀ g' cap w', Shape e size w' (.slice (some ⟨g', 0, none⟩) (n + m) cap) (n + m) → Ran e v w w' → (v.ownBlock = some g' ∨ w.heap.size ≤ g') → K (a.put o.dst (.slice (some ⟨g', 0, none⟩) (n + m) cap)) w') :
    if Region.wanted o (yielded ops a.tmps) = true then Oper.wp Tryz.prog o a w K Q else E := by
  have hw : Region.wanted o (yielded ops a.tmps) = true := by simp [Region.wanted, hg]
  rw [if_pos hw]
  obtain ⟨i, hi, hz, hsz, hby⟩ := info_parts hinfo
  obtain ⟨g', cap, w', hr, h2, h3, h4⟩ := run_app_shape (P := Tryz.prog) w t o.type e i z size bytes ht hi hz hsz hby hzs hk v n hsh ⟨g, 0, none⟩ m c hm cs.toList (by simpa using hl)
    (fun j u hu => by
      have : (⟨g, 0, none⟩ : Addr).add j = ⟨g, j, none⟩ := by unfold Addr.add; split <;> simp_all
      rw [this, cell_of_row w g j cs e (0, 0) hnew]; simpa using hu) h1 hlen' hlen
  unfold Oper.wp execOp
  simp only [ho, resolve, invoke, builtin, Sem.run_bind, Sem.run_pure, Result.andThen_ok, List.map_toArray, List.map_cons, List.map_nil, hs, hx, hr]
  exact h g' cap w' h2 h3 h4

/-- The first j0 elements of a row are z. -/
def Mk (k : Nat) (zc : List Value) (w : World) (v : Value) (j0 : Nat) : Prop := ∀ j, j < j0 → ∀ g, v.ownBlock = some g → ∀ q x, zc[q]? = some x → w.cell? ⟨g, j * k + q, none⟩ = some x
theorem Mk.zero (k : Nat) (zc : List Value) (w : World) (v : Value) : Mk k zc w v 0 := fun j hj => absurd hj (Nat.not_lt_zero _)
/-- One element was written. -/
structure Put1 (k : Nat) (zc : List Value) (g j : Nat) (w w' : World) : Prop where
  set : ∀ q x, zc[q]? = some x → w'.cell? ⟨g, j * k + q, none⟩ = some x
  other : ∀ g' o, (g' ≠ g ∨ o < j * k ∨ j * k + k ≤ o) → w'.cell? ⟨g', o, none⟩ = w.cell? ⟨g', o, none⟩
theorem Mk.put {k : Nat} {zc : List Value} {w w' : World} {v : Value} {j0 g j : Nat} (h : Mk k zc w v j0) (hz : zc.length = k) (hp : Put1 k zc g j w w') : Mk k zc w' v j0 := fun i hi g' hg' q x hq => by
  have hqk : q < k := by rw [← hz]; exact (List.getElem?_eq_some_iff.1 hq).1
  by_cases hh : g' = g ∧ i = j
  · obtain ⟨rfl, rfl⟩ := hh; exact hp.set q x hq
  · rw [hp.other g' (i * k + q) ?_]
    · exact h i hi g' hg' q x hq
    · by_cases h1 : g' = g
      · have h2 : i ≠ j := fun e => hh ⟨h1, e⟩
        rcases Nat.lt_or_gt_of_ne h2 with h3 | h3
        · have := Nat.mul_le_mul_right k (show i + 1 ≤ j from h3)
          rw [Nat.add_mul] at this
          exact .inr (.inl (by omega))
        · have := Nat.mul_le_mul_right k (show j + 1 ≤ i from h3)
          rw [Nat.add_mul] at this
          exact .inr (.inr (by omega))
      · exact .inl h1
theorem Mk.more {k : Nat} {zc : List Value} {w w' : World} {v : Value} {g j : Nat} (h : Mk k zc w v j) (hz : zc.length = k) (hv : v.ownBlock = some g) (hp : Put1 k zc g j w w') : Mk k zc w' v (j + 1) := fun i hi g' hg' q x hq => by
  by_cases hij : i = j
  · rw [hv] at hg'; cases hg'; subst hij; exact hp.set q x hq
  · exact h.put hz hp i (by omega) g' hg' q x hq
theorem Mk.keep {k : Nat} {zc : List Value} {w w' : World} {v : Value} {j : Nat} (h : Mk k zc w v j) (hk : ∀ g, v.ownBlock = some g → w'.heap[g]? = w.heap[g]?) : Mk k zc w' v j := fun i hi g' hg' q x hq => by
  have := h i hi g' hg' q x hq
  rw [World.cell?_of_block (hk g' hg')]; exact this
/-- The cells of an element of a row. -/
theorem Shape.cell {e : TypeId} {k : Nat} {w : World} {g n c : Nat} (h : Shape e k w (.slice (some ⟨g, 0, none⟩) n c) n) {j q : Nat} (hj : j < n) (hq : q < k) : ∃ u, w.cell? ⟨g, j * k + q, none⟩ = some u := by
  obtain ⟨xs, h1, h2⟩ := h
  rcases h2 with ⟨h2, _⟩ | ⟨g', cap, cur, h2, hb, hg, h3, h4, h5, h6⟩
  · cases h2
  · injection h2 with h2 _ h7
    injection h2 with h2
    injection h2 with h2
    subst h2
    have h8 : (j + 1) * k ≤ cap * k := Nat.mul_le_mul_right _ (by omega)
    rw [Nat.add_mul] at h8
    have h9 : j * k + q < cur.size := by omega
    refine ⟨cur[j * k + q], ?_⟩
    rw [cell_of_row w g _ cur e (0, 0) hg]
    simp [h9]
theorem Shape.fz {e : TypeId} {k : Nat} {w : World} {g n c : Nat} (h : Shape e k w (.slice (some ⟨g, 0, none⟩) n c) n) (o : Nat) : w.frozen? ⟨g, o, none⟩ = false := by
  obtain ⟨xs, h⟩ := h
  obtain ⟨cur, hc⟩ := own_type h rfl
  exact blk_fz hc o
theorem Shape.type {e : TypeId} {k : Nat} {w : World} {v : Value} {n : Nat} (h : Shape e k w v n) {g : Nat} (hg : v.ownBlock = some g) : ∃ cur, w.heap[g]? = some (.cells cur e (0, 0)) := by
  obtain ⟨xs, h⟩ := h
  exact own_type h hg

end Go.Proofs.YtnkpogjiiohapaaGreatDoor

/-! PBookB: The book: four lists of an owner. -/
namespace Go.Proofs.YtnkpogjiiohapaaGreatDoor
open Go.RowKit

def nameC (g : Nat) : List Value := [.slice (some ⟨g, 0, none⟩) 4 4]
/-- The list, and the same with one, two, three more: what is known of them (e: the element's type, te: the list's). -/
structure Nm (e te : TypeId) (k : Nat) (zc : Array Value) (w : World) (v : Value) (n gn : Nat) (U : Nat → Value) (W : World) : Prop where
  zero : U 0 = v
  row : W.heap[gn]? = some (.cells #[U 0, U 1, U 2, U 3] te (0, 0))
  z : W.heap[w.heap.size]? = some (.cells zc e (0, 0))
  s : ∀ i, i < 4 → Shape e k W (U i) (n + i)
  b : ∀ i, i < 4 → ∀ g, (U i).ownBlock = some g → v.ownBlock = some g ∨ w.heap.size < g
  t : Turned (fun j => v.ownBlock = some j) w W
  gl : w.heap.size < gn
section
/-- One of them, as it is read. -/
theorem Nm.cell {e te : TypeId} {k : Nat} {zc : Array Value} {w : World} {v : Value} {n gn : Nat} {U : Nat → Value} {W : World} (h : Nm e te k zc w v n gn U W) {i : Nat} (hi : i < 4) : W.cell? ⟨gn, i, none⟩ = some (U i) := by
  rw [cell_of_row W gn i _ te (0, 0) h.row]
  match i, hi with
  | 0, _ => rfl
  | 1, _ => rfl
  | 2, _ => rfl
  | 3, _ => rfl
theorem Nm.form {e te : TypeId} {k : Nat} {zc : Array Value} {w : World} {v : Value} {n gn : Nat} {U : Nat → Value} {W : World} (h : Nm e te k zc w v n gn U W) {i : Nat} (hi : i < 4) : ∃ a c, U i = .slice a (n + i) c ∧ (∀ j, j < n + i → ∃ g, a = some ⟨g, 0, none⟩) := by
  obtain ⟨xs, hx⟩ := h.s i hi
  rcases hx.2 with ⟨h1, h2⟩ | ⟨g, cap, cur, h1, _⟩
  · exact ⟨none, 0, by rw [h2]; exact h1, fun j hj => by omega⟩
  · exact ⟨_, cap, h1, fun j _ => ⟨g, rfl⟩⟩
theorem Nm.put {e te : TypeId} {k : Nat} {zc : Array Value} {w : World} {v : Value} {n gn : Nat} {U : Nat → Value} {W : World} (h : Nm e te k zc w v n gn U W) (hv : ∀ g, v.ownBlock = some g → g < w.heap.size) (hte : te ≠ e) {i : Nat} (hi : i < 4) {g : Nat} (hg : (U i).ownBlock = some g) {W' : World} (hh : ∀ q, q ≠ g → W'.heap[q]? = W.heap[q]?) (hs : Same e W W')
    (hos : W'.os = W.os ∧ W'.tape = W.tape ∧ W'.output = W.output ∧ W.heap.size ≤ W'.heap.size) : Nm e te k zc w v n gn U W' := by
  have hne : gn ≠ g := fun ee => by
    subst ee
    obtain ⟨cur, hc⟩ := (h.s i hi).type hg
    exact hte (cells_type h.row hc)
  have hzn : w.heap.size ≠ g := fun ee => by
    subst ee
    rcases h.b i hi _ hg with h1 | h1
    · have := hv _ h1; omega
    · omega
  refine ⟨h.zero, (hh gn hne).trans h.row, (hh _ hzn).trans h.z, fun j hj => (h.s j hj).same hs, h.b, ⟨hos.1.trans h.t.os, hos.2.1.trans h.t.tape, hos.2.2.1.trans h.t.output, Nat.le_trans h.t.size hos.2.2.2, fun q hq hn => ?_⟩, h.gl⟩
  have : q ≠ g := fun ee => by
    subst ee
    rcases h.b i hi _ hg with h1 | h1
    · exact hn h1
    · omega
  exact (hh q this).trans (h.t.other q hq hn)
end
/-- The marks so far: list i up to j. -/
structure Lp (e te : TypeId) (k : Nat) (zc : Array Value) (w : World) (v : Value) (n gn : Nat) (U : Nat → Value) (i j : Nat) (W : World) : Prop where
  nm : Nm e te k zc w v n gn U W
  full : ∀ i', i' < i → Mk k zc.toList W (U i') (n + i')
  part : Mk k zc.toList W (U i) j
theorem setCells_block {g : Nat} : ∀ (vs : List Value) (o : Nat) (W : World) (q : Nat), q ≠ g → (W.setCells g o vs).heap[q]? = W.heap[q]?
  | [], _, _, _, _ => rfl
  | v :: r, o, W, q, h => (setCells_block r (o + 1) (W.setCell ⟨g, o, none⟩ v) q h).trans (setCell_other h)
theorem setCells_same {e : TypeId} {g : Nat} : ∀ (vs : List Value) (o : Nat) (W : World), Same e W (W.setCells g o vs)
  | [], _, W => Same.refl e W
  | v :: r, o, W => (Same.setCell W g o v).trans (setCells_same r (o + 1) (W.setCell ⟨g, o, none⟩ v))
theorem setCells_out {g : Nat} : ∀ (vs : List Value) (o : Nat) (W : World), (W.setCells g o vs).os = W.os ∧ (W.setCells g o vs).tape = W.tape ∧ (W.setCells g o vs).output = W.output ∧ W.heap.size ≤ (W.setCells g o vs).heap.size
  | [], _, W => ⟨rfl, rfl, rfl, Nat.le_refl _⟩
  | v :: r, o, W => by
    have h := setCells_out (g := g) r (o + 1) (W.setCell ⟨g, o, none⟩ v)
    have hz : (W.setCell ⟨g, o, none⟩ v).heap.size = W.heap.size := by simp [World.setCell]
    exact ⟨h.1, h.2.1, h.2.2.1, Nat.le_trans (Nat.le_of_eq hz.symm) h.2.2.2⟩
theorem put1_of {k : Nat} {zc : List Value} (hz : zc.length = k) {g j : Nat} {W : World} (hc : ∀ q, q < k → ∃ u, W.cell? ⟨g, j * k + q, none⟩ = some u) : Put1 k zc g j W (W.setCells g (j * k) zc) := by
  refine ⟨fun q x hq => ?_, fun g' o hh => ?_⟩
  · obtain ⟨hl, hx⟩ := List.getElem?_eq_some_iff.1 hq
    rw [World.cell?_setCells_in g zc (j * k) W (fun i hi => by obtain ⟨u, hu⟩ := hc i (by omega); simp [hu]) q hl, hx]
  · refine World.cell?_setCells_out g zc (j * k) W _ fun h1 _ => ?_
    simp only at h1 ⊢
    rcases hh with h | h | h
    · exact absurd h1 h
    · exact .inl h
    · exact .inr (by omega)
theorem Lp.next {e te : TypeId} {k : Nat} {zc : Array Value} {w : World} {v : Value} {n gn : Nat} {U : Nat → Value} {i j : Nat} {W : World} (h : Lp e te k zc w v n gn U i j W) (hv : ∀ g, v.ownBlock = some g → g < w.heap.size) (hte : te ≠ e) (hz : zc.size = k) (hi : i < 4) {g c : Nat} (hg : U i = .slice (some ⟨g, 0, none⟩) (n + i) c) (hj : j < n + i) :
    Lp e te k zc w v n gn U i (j + 1) (W.setCells g (j * k) zc.toList) := by
  have hs := h.nm.s i hi
  rw [hg] at hs
  have hz' : zc.toList.length = k := by simpa using hz
  have hp := put1_of hz' (g := g) (j := j) (W := W) fun q hq => hs.cell hj hq
  have hb : (U i).ownBlock = some g := by rw [hg]; rfl
  exact ⟨h.nm.put hv hte hi hb (setCells_block _ _ W) (setCells_same _ _ W) (setCells_out _ _ W), fun i' hi' => (h.full i' hi').put hz' hp, h.part.more hz' hb hp⟩
/-- The four lists, each of its owner's mark alone. -/
structure EntAt (e te : TypeId) (k : Nat) (zc : Array Value) (n gn : Nat) (U : Nat → Value) (W : World) : Prop where
  row : W.heap[gn]? = some (.cells #[U 0, U 1, U 2, U 3] te (0, 0))
  s : ∀ i, i < 4 → Shape e k W (U i) (n + i)
  mks : ∀ i, i < 4 → Mk k zc.toList W (U i) (n + i)
theorem Shape.keep {e : TypeId} {k : Nat} {w w' : World} {v : Value} {n : Nat} (h : Shape e k w v n) (hk : ∀ g, v.ownBlock = some g → w'.heap[g]? = w.heap[g]?) : Shape e k w' v n := by
  obtain ⟨xs, h⟩ := h
  exact ⟨xs, row_blk h hk⟩
theorem EntAt.keep {e te : TypeId} {k : Nat} {zc : Array Value} {n gn : Nat} {U : Nat → Value} {W W' : World} (h : EntAt e te k zc n gn U W) (hg : W'.heap[gn]? = W.heap[gn]?) (hk : ∀ i, i < 4 → ∀ g, (U i).ownBlock = some g → W'.heap[g]? = W.heap[g]?) : EntAt e te k zc n gn U W' :=
  ⟨hg.trans h.row, fun i hi => (h.s i hi).keep (hk i hi), fun i hi => (h.mks i hi).keep (hk i hi)⟩
theorem Lp.drew {e te : TypeId} {k : Nat} {zc : Array Value} {w : World} {v : Value} {n gn : Nat} {U : Nat → Value} {i j : Nat} {W : World} (h : Lp e te k zc w v n gn U i j W) : Lp e te k zc w v n gn U i j W.drew := ⟨⟨h.nm.zero, h.nm.row, h.nm.z, h.nm.s, h.nm.b, h.nm.t.drewT, h.nm.gl⟩, h.full, h.part⟩
theorem set4_1 {w : World} {g : Nat} {a b c d u : Value} {t : TypeId} (h : w.heap[g]? = some (.cells #[a, b, c, d] t (0, 0))) : (w.setCell ⟨g, 1, none⟩ u).heap[g]? = some (.cells #[a, u, c, d] t (0, 0)) := by
  simp [World.setCell, Array.getElem?_modify, h]
/-- A list was noted. -/
def Noted (e te nt : TypeId) (k : Nat) (zc : Array Value) (w : World) (gy : Nat) (v va : Value) (la : List Nat) (n : Nat) (P : Value → Array Value) (w' : World) : Prop :=
  ∃ va' gn U, w'.heap[gy]? = some (.cells (P va') 84 (0, 0)) ∧ w'.ownsRow 0 nt 1 va' (la.length + 1) ((la ++ [gn]).flatMap nameC) ∧ Turned (fun q => q = gy ∨ v.ownBlock = some q ∨ va.ownBlock = some q) w w' ∧ newOr w va va' ∧ EntAt e te k zc n gn U w' ∧
    w.heap.size < gn ∧ ∀ i, i < 4 → ∀ g, (U i).ownBlock = some g → v.ownBlock = some g ∨ w.heap.size < g
theorem nm_u {α : Type} (a b c d : α) : #[a, b, c, d] = #[(fun i => if i = 0 then a else if i = 1 then b else if i = 2 then c else d) 0, (fun i => if i = 0 then a else if i = 1 then b else if i = 2 then c else d) 1, (fun i => if i = 0 then a else if i = 1 then b else if i = 2 then c else d) 2, (fun i => if i = 0 then a else if i = 1 then b else if i = 2 then c else d) 3] := rfl
theorem nm_at {e te : TypeId} {k : Nat} {zc : Array Value} {w W : World} {v : Value} {n gn a1 c1 a2 c2 a3 c3 : Nat} (hr : W.heap[gn]? = some (.cells #[v, .slice (some ⟨a1, 0, none⟩) (n + 1) c1, .slice (some ⟨a2, 0, none⟩) (n + 2) c2, .slice (some ⟨a3, 0, none⟩) (n + 3) c3] te (0, 0))) (hz : W.heap[w.heap.size]? = some (.cells zc e (0, 0)))
    (h0 : Shape e k W v n) (h1 : Shape e k W (.slice (some ⟨a1, 0, none⟩) (n + 1) c1) (n + 1)) (h2 : Shape e k W (.slice (some ⟨a2, 0, none⟩) (n + 2) c2) (n + 2)) (h3 : Shape e k W (.slice (some ⟨a3, 0, none⟩) (n + 3) c3) (n + 3))
    (b1 : v.ownBlock = some a1 ∨ w.heap.size < a1) (b2 : v.ownBlock = some a2 ∨ w.heap.size < a2) (b3 : v.ownBlock = some a3 ∨ w.heap.size < a3) (ht : Turned (fun j => v.ownBlock = some j) w W) (hgl : w.heap.size < gn) : ∃ U, Nm e te k zc w v n gn U W := by
  refine ⟨fun i => if i = 0 then v else if i = 1 then .slice (some ⟨a1, 0, none⟩) (n + 1) c1 else if i = 2 then .slice (some ⟨a2, 0, none⟩) (n + 2) c2 else .slice (some ⟨a3, 0, none⟩) (n + 3) c3, rfl, hr, hz, fun i hi => ?_, fun i hi g hg => ?_, ht, hgl⟩
  · match i, hi with
    | 0, _ => exact h0
    | 1, _ => exact h1
    | 2, _ => exact h2
    | 3, _ => exact h3
  · match i, hi with
    | 0, _ => exact .inl hg
    | 1, _ => simp [Value.ownBlock] at hg; subst hg; exact b1
    | 2, _ => simp [Value.ownBlock] at hg; subst hg; exact b2
    | 3, _ => simp [Value.ownBlock] at hg; subst hg; exact b3

section
set_option maxRecDepth 1000000 in
set_option maxHeartbeats 8000000 in
theorem ids_q {w : World} {gy : Nat} {vp va vb vc : Value} {la : List Nat} {a : Option Addr} {n c : Nat} (hy : w.heap[gy]? = some (.cells #[vp, va, vb, vc] 84 (0, 0))) (hal : la.length < 2000000000000) (hn : n < 2000000000000) (ha : w.ownsRow 0 138 1 va la.length (la.flatMap nameC)) (hl : Shape 36 2 w (.slice a n c) n) :
    Calls Tryz.prog 106 #[.pointer (some ⟨gy, 1, none⟩), .slice a n c] w fun e w' => e = .returned (.tuple #[]) ∧ Noted 36 65 138 2 #[.int .i64 (-7070), .int .i64 la.length] w gy (.slice a n c) va la n (fun x => #[vp, x, vb, vc]) w' := by
  obtain ⟨aa, ac, rfl, hal, ham, haf⟩ := owns_form ha
  have y1 : w.cell? ⟨gy, 1, none⟩ = some (.slice aa la.length ac) := by simp [World.cell?, hy]
  have HL := hid hl
  have HSH := hid hl
  have HY := hid hy
  have HA := hid ha
  clear hy ha haf
  have HVN := hid (show ∀ q, w.heap.size ≤ q → ¬ ((Value.slice a n c).ownBlock = some q) from fun q hq hh => by have := hl.lt q hh; omega)
  have HZ0 := hid (blk_new w (.cells #[.int .i64 (-7070), .int .i64 la.length] 36))
  clear hl
  go_enter Tryz.func106, Tryz.ntmps106
  go_wp2_with fail
  go_cut [5] (fun p wc => ∃ gn, p = .slice (some ⟨gn, 0, none⟩) 4 4 ∧ ∃ U, Nm 36 65 2 #[.int .i64 (-7070), .int .i64 la.length] w (.slice a n c) n gn U wc)
  case first =>
    go_region_held3 (fun W => W.cell? ⟨w.heap.size, 0, none⟩ = some (.int .i64 (-7070)) ∧ W.cell? ⟨w.heap.size, 1, none⟩ = some (.int .i64 la.length)) (first | exact blk2 (t := 36) (by (repeat (first | exact HZ3.out | exact HZ2.out | exact HZ1.out | exact HZ0.out | exact blk_at (by first | rfl | (simp; done) | (simp; omega)) | refine (alloc_ne (by first | omega | (simp; done) | (simp; omega))).trans ?_ | refine (HT3.out _ (by first | omega | (simp; done) | (simp; omega)) (by first | omega | (simp; done) | (simp; omega))).trans ?_ | refine (HT2.out _ (by first | omega | (simp; done) | (simp; omega)) (by first | omega | (simp; done) | (simp; omega))).trans ?_ | refine (HT1.out _ (by first | omega | (simp; done) | (simp; omega)) (by first | omega | (simp; done) | (simp; omega))).trans ?_))))
      (first
        | (refine step_shape 2 16 65 36 (.agg #[.int .i64 0, .int .i64 0]) (by kernel_rfl) Tryz.underlying65 rfl (by omega) (by rfl) (.tmp 15) (.tmp 17) (by rfl) (.slice a n c) n (by rfl) (HL.out.same (Ran.s (by (repeat (first | exact HR2.out | exact HR1.out | exact Ran.refl _ _ _ | refine Ran.alloc ?_ _ | refine Ran.drew ?_)) : Ran 36 (.slice a n c) w _))) _ 1 1 (by omega) (by rfl) (cs := #[.int .i64 (-7070), .int .i64 la.length]) (by (repeat (first | exact HZ3.out | exact HZ2.out | exact HZ1.out | exact HZ0.out | exact blk_at (by first | rfl | (simp; done) | (simp; omega)) | refine (alloc_ne (by first | omega | (simp; done) | (simp; omega))).trans ?_ | refine (HT3.out _ (by first | omega | (simp; done) | (simp; omega)) (by first | omega | (simp; done) | (simp; omega))).trans ?_ | refine (HT2.out _ (by first | omega | (simp; done) | (simp; omega)) (by first | omega | (simp; done) | (simp; omega))).trans ?_ | refine (HT1.out _ (by first | omega | (simp; done) | (simp; omega)) (by first | omega | (simp; done) | (simp; omega))).trans ?_))) (by rfl) (by simp [Value.oneCell']) (by omega) (by unfold maxLen; omega) ?_; intro a1 c1 w1 hs1 hr1 hb1; have hz1 := hr1.t.size; (try simp at hz1); have HS1 := hid hs1; have HR1 := hid (Ran.trans (by (repeat (first | exact HR2.out | exact HR1.out | exact Ran.refl _ _ _ | refine Ran.alloc ?_ _ | refine Ran.drew ?_)) : Ran 36 (.slice a n c) w _) hr1); have HT1 := hid (fun q hq (hq2 : w.heap.size ≤ q) => hr1.t.other q hq (HVN.out q hq2)); have HZ1 := hid (show w1.heap[w.heap.size]? = some (.cells #[.int .i64 (-7070), .int .i64 la.length] 36 (0, 0)) from (HT1.out _ (by first | omega | (simp; done) | (simp; omega)) (Nat.le_refl _)).trans (by (repeat (first | exact HZ3.out | exact HZ2.out | exact HZ1.out | exact HZ0.out | exact blk_at (by first | rfl | (simp; done) | (simp; omega)) | refine (alloc_ne (by first | omega | (simp; done) | (simp; omega))).trans ?_ | refine (HT3.out _ (by first | omega | (simp; done) | (simp; omega)) (by first | omega | (simp; done) | (simp; omega))).trans ?_ | refine (HT2.out _ (by first | omega | (simp; done) | (simp; omega)) (by first | omega | (simp; done) | (simp; omega))).trans ?_ | refine (HT1.out _ (by first | omega | (simp; done) | (simp; omega)) (by first | omega | (simp; done) | (simp; omega))).trans ?_)))); have hb1' : (Value.slice a n c).ownBlock = some a1 ∨ w.heap.size < a1 := (hb1.imp id (fun hh => by (try simp at hh); omega)); clear hs1 hr1 hb1)
        | (refine step_shape 2 16 65 36 (.agg #[.int .i64 0, .int .i64 0]) (by kernel_rfl) Tryz.underlying65 rfl (by omega) (by rfl) (.tmp 19) (.tmp 22) (by rfl) (.slice a n c) n (by rfl) (HL.out.same (Ran.s (by (repeat (first | exact HR2.out | exact HR1.out | exact Ran.refl _ _ _ | refine Ran.alloc ?_ _ | refine Ran.drew ?_)) : Ran 36 (.slice a n c) w _))) _ 2 2 (by omega) (by rfl) (cs := #[.int .i64 (-7070), .int .i64 la.length, .int .i64 (-7070), .int .i64 la.length]) (by (repeat (first | exact HZ3.out | exact HZ2.out | exact HZ1.out | exact HZ0.out | exact blk_at (by first | rfl | (simp; done) | (simp; omega)) | refine (alloc_ne (by first | omega | (simp; done) | (simp; omega))).trans ?_ | refine (HT3.out _ (by first | omega | (simp; done) | (simp; omega)) (by first | omega | (simp; done) | (simp; omega))).trans ?_ | refine (HT2.out _ (by first | omega | (simp; done) | (simp; omega)) (by first | omega | (simp; done) | (simp; omega))).trans ?_ | refine (HT1.out _ (by first | omega | (simp; done) | (simp; omega)) (by first | omega | (simp; done) | (simp; omega))).trans ?_))) (by rfl) (by simp [Value.oneCell']) (by omega) (by unfold maxLen; omega) ?_; intro a2 c2 w2 hs2 hr2 hb2; have hz2 := hr2.t.size; (try simp at hz2); replace HS1 := hid (HS1.out.same ((Ran.s (by (repeat (first | exact Ran.refl _ _ _ | refine Ran.alloc ?_ _ | refine Ran.drew ?_)) : Ran 36 (.slice a n c) w1 _)).trans hr2.s)); have HS2 := hid hs2; have HR2 := hid (Ran.trans (by (repeat (first | exact HR2.out | exact HR1.out | exact Ran.refl _ _ _ | refine Ran.alloc ?_ _ | refine Ran.drew ?_)) : Ran 36 (.slice a n c) w _) hr2); have HT2 := hid (fun q hq (hq2 : w.heap.size ≤ q) => hr2.t.other q hq (HVN.out q hq2)); have HZ2 := hid (show w2.heap[w.heap.size]? = some (.cells #[.int .i64 (-7070), .int .i64 la.length] 36 (0, 0)) from (HT2.out _ (by first | omega | (simp; done) | (simp; omega)) (Nat.le_refl _)).trans (by (repeat (first | exact HZ3.out | exact HZ2.out | exact HZ1.out | exact HZ0.out | exact blk_at (by first | rfl | (simp; done) | (simp; omega)) | refine (alloc_ne (by first | omega | (simp; done) | (simp; omega))).trans ?_ | refine (HT3.out _ (by first | omega | (simp; done) | (simp; omega)) (by first | omega | (simp; done) | (simp; omega))).trans ?_ | refine (HT2.out _ (by first | omega | (simp; done) | (simp; omega)) (by first | omega | (simp; done) | (simp; omega))).trans ?_ | refine (HT1.out _ (by first | omega | (simp; done) | (simp; omega)) (by first | omega | (simp; done) | (simp; omega))).trans ?_)))); have hb2' : (Value.slice a n c).ownBlock = some a2 ∨ w.heap.size < a2 := (hb2.imp id (fun hh => by (try simp at hh); omega)); clear hs2 hr2 hb2)
        | (refine step_shape 2 16 65 36 (.agg #[.int .i64 0, .int .i64 0]) (by kernel_rfl) Tryz.underlying65 rfl (by omega) (by rfl) (.tmp 24) (.tmp 28) (by rfl) (.slice a n c) n (by rfl) (HL.out.same (Ran.s (by (repeat (first | exact HR2.out | exact HR1.out | exact Ran.refl _ _ _ | refine Ran.alloc ?_ _ | refine Ran.drew ?_)) : Ran 36 (.slice a n c) w _))) _ 3 3 (by omega) (by rfl) (cs := #[.int .i64 (-7070), .int .i64 la.length, .int .i64 (-7070), .int .i64 la.length, .int .i64 (-7070), .int .i64 la.length]) (by (repeat (first | exact HZ3.out | exact HZ2.out | exact HZ1.out | exact HZ0.out | exact blk_at (by first | rfl | (simp; done) | (simp; omega)) | refine (alloc_ne (by first | omega | (simp; done) | (simp; omega))).trans ?_ | refine (HT3.out _ (by first | omega | (simp; done) | (simp; omega)) (by first | omega | (simp; done) | (simp; omega))).trans ?_ | refine (HT2.out _ (by first | omega | (simp; done) | (simp; omega)) (by first | omega | (simp; done) | (simp; omega))).trans ?_ | refine (HT1.out _ (by first | omega | (simp; done) | (simp; omega)) (by first | omega | (simp; done) | (simp; omega))).trans ?_))) (by rfl) (by simp [Value.oneCell']) (by omega) (by unfold maxLen; omega) ?_; intro a3 c3 w3 hs3 hr3 hb3; have hz3 := hr3.t.size; (try simp at hz3); replace HS1 := hid (HS1.out.same ((Ran.s (by (repeat (first | exact Ran.refl _ _ _ | refine Ran.alloc ?_ _ | refine Ran.drew ?_)) : Ran 36 (.slice a n c) w2 _)).trans hr3.s)); replace HS2 := hid (HS2.out.same ((Ran.s (by (repeat (first | exact Ran.refl _ _ _ | refine Ran.alloc ?_ _ | refine Ran.drew ?_)) : Ran 36 (.slice a n c) w2 _)).trans hr3.s)); have HS3 := hid hs3; have HR3 := hid (Ran.trans (by (repeat (first | exact HR2.out | exact HR1.out | exact Ran.refl _ _ _ | refine Ran.alloc ?_ _ | refine Ran.drew ?_)) : Ran 36 (.slice a n c) w _) hr3); have HT3 := hid (fun q hq (hq2 : w.heap.size ≤ q) => hr3.t.other q hq (HVN.out q hq2)); have HZ3 := hid (show w3.heap[w.heap.size]? = some (.cells #[.int .i64 (-7070), .int .i64 la.length] 36 (0, 0)) from (HT3.out _ (by first | omega | (simp; done) | (simp; omega)) (Nat.le_refl _)).trans (by (repeat (first | exact HZ3.out | exact HZ2.out | exact HZ1.out | exact HZ0.out | exact blk_at (by first | rfl | (simp; done) | (simp; omega)) | refine (alloc_ne (by first | omega | (simp; done) | (simp; omega))).trans ?_ | refine (HT3.out _ (by first | omega | (simp; done) | (simp; omega)) (by first | omega | (simp; done) | (simp; omega))).trans ?_ | refine (HT2.out _ (by first | omega | (simp; done) | (simp; omega)) (by first | omega | (simp; done) | (simp; omega))).trans ?_ | refine (HT1.out _ (by first | omega | (simp; done) | (simp; omega)) (by first | omega | (simp; done) | (simp; omega))).trans ?_)))); have hb3' : (Value.slice a n c).ownBlock = some a3 ∨ w.heap.size < a3 := (hb3.imp id (fun hh => by (try simp at hh); omega)); clear hs3 hr3 hb3))
    all_goals (go_wp2_with fail; go_meet)
    all_goals exact ⟨_, rfl, nm_at (blk_new w3 _) ((alloc_ne (by omega)).trans HZ3.out) (HL.out.same (HR3.out.alloc _).s) (HS1.out.same ((Ran.refl 36 (.slice a n c) w3).alloc _).s) (HS2.out.same ((Ran.refl 36 (.slice a n c) w3).alloc _).s) (HS3.out.same ((Ran.refl 36 (.slice a n c) w3).alloc _).s) hb1' hb2' hb3' (HR3.out.alloc _).t (by omega)⟩
  case rest =>
    obtain ⟨gn, rfl, U, hnm⟩ := hcut
    have HVL := hid HL.out.lt
    clear HZ0 HVN HL
    go_wp2
    go_loopw [6] (fun i wr => ∃ k : Nat, k ≤ 4 ∧ i = .int .i64 k ∧ Lp 36 65 2 #[.int .i64 (-7070), .int .i64 la.length] w (.slice a n c) n gn U k 0 wr) (fun i _ => 4 - (intOf i).toNat)
    case atStart => exact ⟨0, by omega, rfl, hnm, fun i' h => absurd h (Nat.not_lt_zero _), Mk.zero _ _ _ _⟩
    case round =>
      obtain ⟨k, hk, rfl, hlp⟩ := hrel
      obtain ⟨wo, hwo⟩ : ∃ wo, wo = wr := ⟨_, rfl⟩
      subst hwo
      by_cases hlt : k < 4
      · obtain ⟨au, cu, hu, huf⟩ := hlp.nm.form hlt
        have HUF := hid huf; clear huf
        have HLP := hid hlp; clear hlp hnm
        have hk0 : (0 : Int) ≤ (k : Int) := Int.natCast_nonneg _
        have hk4 : (k : Int) < 4 := by omega
        go_wp2
        go_loopw [7] (fun i wq => ∃ j : Nat, j ≤ n + k ∧ i = .int .i64 j ∧ Lp 36 65 2 #[.int .i64 (-7070), .int .i64 la.length] w (.slice a n c) n gn U k j wq) (fun i _ => n + k - (intOf i).toNat)
        case atStart => exact ⟨0, Nat.zero_le _, rfl, HLP.out⟩
        case round =>
          obtain ⟨j, hj, rfl, hq⟩ := hrel
          have r1 := hq.nm.cell hlt
          rw [hu] at r1
          by_cases hjl : j < n + k
          · obtain ⟨g, rfl⟩ := HUF.out j hjl
            have hsh := hq.nm.s k hlt
            rw [hu] at hsh
            obtain ⟨u0, t0⟩ := hsh.cell (q := 0) hjl (by omega)
            obtain ⟨u1, t1⟩ := hsh.cell (q := 1) hjl (by omega)
            have tf := hsh.fz
            obtain ⟨z0, z1⟩ := blk2 hq.nm.z
            have hzn : w.heap.size ≠ g := fun ee => by
              rcases hq.nm.b k hlt g (by rw [hu]; rfl) with h1 | h1
              · have := HVL.out _ h1; omega
              · omega
            have HQ := hid hq; clear hq
            simp only [Nat.add_zero] at t0
            have hj0 : (0 : Int) ≤ (j : Int) := Int.natCast_nonneg _
            have hj1 : (j : Int) < ((n + k : Nat) : Int) := by omega
            have hgn : gn ≠ g := fun ee => by
              subst ee
              obtain ⟨cur, hc⟩ := hsh.type rfl
              exact absurd (cells_type HQ.out.nm.row hc) (by decide)
            clear hsh
            go_wp2_with fail
            go_region_held3 (fun W => W.cell? ⟨gn, k, none⟩ = some (.slice (some ⟨g, 0, none⟩) (n + k) cu) ∧ W.cell? ⟨w.heap.size, 0, none⟩ = some (.int .i64 (-7070)) ∧ W.cell? ⟨w.heap.size, 1, none⟩ = some (.int .i64 la.length)) (first | exact ⟨r1, z0, z1⟩ | exact ⟨(World.cell?_of_block (setCells_block [.int .i64 (-7070), .int .i64 la.length] (j * 2) wr gn hgn)).trans r1, (World.cell?_of_block (setCells_block [.int .i64 (-7070), .int .i64 la.length] (j * 2) wr w.heap.size hzn)).trans z0, (World.cell?_of_block (setCells_block [.int .i64 (-7070), .int .i64 la.length] (j * 2) wr w.heap.size hzn)).trans z1⟩) (fail)
            all_goals go_wp2
            all_goals go_roundw
            case rel => exact ⟨j + 1, by omega, by go_num, (HQ.out.next HVL.out (by decide) rfl hlt hu hjl).drew⟩
            case measure => simp [intOf]; omega
          · have hje : j = n + k := by omega
            subst hje
            go_wp2
            go_roundw
            case rel =>
              refine ⟨k + 1, by omega, by go_num, hq.nm, fun i' hi' => ?_, Mk.zero _ _ _ _⟩
              by_cases hik : i' = k
              · subst hik; exact hq.part
              · exact hq.full i' (by omega)
            case measure => simp [intOf]; omega
      · have hk4 : k = 4 := by omega
        subst hk4
        have HNM := hid hlp.nm
        have HMK := hid (show ∀ i, i < 4 → Mk 2 #[.int .i64 (-7070), .int .i64 la.length].toList wo (U i) (n + i) from hlp.full)
        clear hlp
        have hgv : ¬ ((Value.slice a n c).ownBlock = some gy) := fun hh => by
          obtain ⟨cur, hc⟩ := HSH.out.type hh
          exact absurd (cells_type hc HY.out) (by decide)
        have HY1 := hid ((HNM.out.t.other gy (blk_lt HY.out) hgv).trans HY.out)
        have hva : ∀ q, (Value.slice aa la.length ac).ownBlock = some q → ¬ ((Value.slice a n c).ownBlock = some q) := fun q h1 h2 => by
          obtain ⟨cur, hc⟩ := own_type HA.out h1
          obtain ⟨cur2, hc2⟩ := HSH.out.type h2
          exact absurd (cells_type hc hc2) (by decide)
        have HA1 := hid (row_blk HA.out (w' := wo) fun q hq => HNM.out.t.other q (World.ownsRow.lt HA.out q hq).2 (hva q hq))
        have yy : wo.cell? ⟨gy, 1, none⟩ = some (.slice aa la.length ac) := by simp [World.cell?, HY1.out]
        have hgl := blk_lt HY1.out
        have HO3 := hid (show (wo.alloc (.cells #[.slice (some ⟨gn, 0, none⟩) 4 4] 138)).ownsRow 0 138 1 (.slice aa la.length ac) la.length (la.flatMap nameC) from owns_keep HA1.out (by go_grown))
        have HC3 := hid (show ∀ j u, (nameC gn)[j]? = some u → (wo.alloc (.cells #[.slice (some ⟨gn, 0, none⟩) 4 4] 138)).cell? ⟨wo.heap.size, j, none⟩ = some u from one_cell (by simp [go_sem]))
        have HNP := hid (show some gy ≠ (Value.slice aa la.length ac).ownBlock from fun ee => by
          obtain ⟨cur, hc⟩ := own_type HA1.out ee.symm
          exact absurd (cells_type hc HY1.out) (by decide))
        go_wp2_with (first
          | (at_builtin; refine app_one_at nameC 1 24 78 138 (.slice none 0 0) (by kernel_rfl) Tryz.underlying78 rfl (by omega) (fun _ => rfl) rfl (.tmp 57) (.tmp 59) rfl 0 (.slice aa la.length ac) la rfl HO3.out wo.heap.size 1 gn rfl HC3.out (by simp [nameC, Value.oneCell']) (by omega) (by unfold maxLen; omega) (Nat.zero_le _) ?_; intro v4 w4 ho4 hg4 hn4; have HO4 := hid ho4; have HG4 := hid hg4; have HN4 := hid hn4; have HX4 := hid ((hg4.block gy (by simp; omega) HNP.out).trans ((alloc_ne (by omega)).trans HY1.out)); clear ho4 hg4 hn4; obtain ⟨a4, n4c, rfl, hl4, hc4, hf4⟩ := owns_form HO4.out; clear hl4 hc4 hf4; have c2 : w4.cell? ⟨gy, 1, none⟩ = some (.slice aa la.length ac) := (by simp [World.cell?, HX4.out]); have hfz4 := blk_fz HX4.out 1))
        have hne4 : (Value.slice a4 (la.length + 1) n4c).ownBlock ≠ some gy := fun ee => by
          obtain ⟨cur, hc⟩ := own_type HO4.out ee
          exact absurd (cells_type hc HX4.out) (by decide)
        have hkeep : ∀ (q : Nat) (cur : Array Value) (t : TypeId), wo.heap[q]? = some (.cells cur t (0, 0)) → t ≠ 138 → t ≠ 84 → (w4.setCell ⟨gy, 1, none⟩ (.slice a4 (la.length + 1) n4c)).heap[q]? = wo.heap[q]? := fun q cur t hq h1 h2 => by
          have hqy : q ≠ gy := fun ee => by subst ee; exact h2 (cells_type hq HY1.out)
          have hqv : some q ≠ (Value.slice aa la.length ac).ownBlock := fun ee => by
            obtain ⟨cur2, hc⟩ := own_type HA1.out ee.symm
            exact h1 (cells_type hq hc)
          have hql := blk_lt hq
          exact (setCell_other hqy).trans ((HG4.out.block q (by simp; omega) hqv).trans (alloc_ne (by omega)))
        go_end0
        refine ⟨rfl, .slice a4 (la.length + 1) n4c, gn, U, set4_1 HX4.out, row_other HO4.out hne4 _, ?_, ?_, ?_, HNM.out.gl, HNM.out.b⟩
        · exact (HNM.out.t.mono fun q hq => .inr (.inl hq)).trans ((Turned.of_below ((Below.refl _ wo).alloc (Nat.le_refl _) _)).trans ((Turned.of_grown HG4.out fun q hq => .inr (.inr hq)).trans (Turned.setC _ (.inl rfl))))
        · exact HN4.out.mono (Nat.le_trans HNM.out.t.size (by simp))
        · refine EntAt.keep ⟨HNM.out.row, HNM.out.s, HMK.out⟩ (hkeep gn _ 65 HNM.out.row (by decide) (by decide)) fun i hi g hg => ?_
          obtain ⟨cur, hc⟩ := (HNM.out.s i hi).type hg
          exact hkeep g _ 36 hc (by decide) (by decide)
end

end Go.Proofs.YtnkpogjiiohapaaGreatDoor

/-! PBookD: The book: whole. -/
namespace Go.Proofs.YtnkpogjiiohapaaGreatDoor
open Go.RowKit

theorem EntAt.cell {e te : TypeId} {k : Nat} {zc : Array Value} {n gn : Nat} {U : Nat → Value} {W : World} (h : EntAt e te k zc n gn U W) {i : Nat} (hi : i < 4) : W.cell? ⟨gn, i, none⟩ = some (U i) := by
  rw [cell_of_row W gn i _ te (0, 0) h.row]
  match i, hi with
  | 0, _ => rfl
  | 1, _ => rfl
  | 2, _ => rfl
  | 3, _ => rfl
theorem EntAt.form {e te : TypeId} {k : Nat} {zc : Array Value} {n gn : Nat} {U : Nat → Value} {W : World} (h : EntAt e te k zc n gn U W) {i : Nat} (hi : i < 4) : ∃ a c, U i = .slice a (n + i) c ∧ n + i ≤ 9223372036854775807 ∧ (∀ j, j < n + i → ∃ g, a = some ⟨g, 0, none⟩) := by
  obtain ⟨xs, hx⟩ := h.s i hi
  rcases hx.2 with ⟨h1, h2⟩ | ⟨g, cap, cur, h1, _, _, h2, h3, _⟩
  · exact ⟨none, 0, by rw [h2]; exact h1, by omega, fun j hj => by omega⟩
  · unfold maxLen at h3
    exact ⟨_, cap, h1, by omega, fun j _ => ⟨g, rfl⟩⟩
theorem EntAt.grow {e te : TypeId} {k : Nat} {zc : Array Value} {n gn : Nat} {U : Nat → Value} {W W' : World} (h : EntAt e te k zc n gn U W) (hb : Below W.heap.size W W') : EntAt e te k zc n gn U W' :=
  h.keep (hb.block _ (blk_lt h.row)) fun i hi g hg => hb.block g ((h.s i hi).lt g hg)
theorem nameC_cell {w : World} {e : TypeId} {g n cap : Nat} {l : List Nat} (h : w.ownsRow 0 e 1 (.slice (some ⟨g, 0, none⟩) n cap) n (l.flatMap nameC)) (hn : n = l.length) (i : Nat) (hi : i < l.length) : w.cell? ⟨g, i, none⟩ = some (.slice (some ⟨l[i], 0, none⟩) 4 4) := by
  have := owns_cell (f := nameC) (k := 1) (fun _ => rfl) h hn i hi 0 (by omega)
  simpa [nameC] using this
/-- The lists of a book, each with its owner's mark. -/
def BEnts (e te : TypeId) (k : Nat) (zc : Nat → Array Value) (la : List Nat) (w : World) : Prop := ∀ i (hi : i < la.length), ∃ n U, EntAt e te k (zc i) n la[i] U w
def zIds (i : Nat) : Array Value := #[.int .i64 (-7070), .int .i64 i]
def zVals (i : Nat) : Array Value := #[.int .i64 (-7070 - (i : Int)), .int .i64 0, .int .i64 0]

section
set_option maxRecDepth 1000000 in
set_option maxHeartbeats 8000000 in
theorem whole_q {w : World} {gy : Nat} {vp va vb : Value} {la lb : List Nat} (hy : w.heap[gy]? = some (.cells #[vp, va, vb, .slice none 0 0] 84 (0, 0))) (hal : la.length < 2000000000000) (hbl : lb.length < 2000000000000) (ha : w.ownsRow 0 138 1 va la.length (la.flatMap nameC)) (hb : w.ownsRow 0 140 1 vb lb.length (lb.flatMap nameC))
    (hea : BEnts 36 65 2 zIds la w) (heb : BEnts 57 53 3 zVals lb w) :
    Calls Tryz.prog 36 #[.pointer (some ⟨gy, 1, none⟩)] w fun e w' => e = .returned (.bool true) ∧ Below w.heap.size w w' := by
  obtain ⟨aa, ac, rfl, hal', ham, haf⟩ := owns_form ha
  obtain ⟨ba, bc, rfl, hbl', hbm, hbf⟩ := owns_form hb
  have y1 : w.cell? ⟨gy, 1, none⟩ = some (.slice aa la.length ac) := by simp [World.cell?, hy]
  have y2 : w.cell? ⟨gy, 2, none⟩ = some (.slice ba lb.length bc) := by simp [World.cell?, hy]
  have y3 : w.cell? ⟨gy, 3, none⟩ = some (.slice none 0 0) := by simp [World.cell?, hy]
  have z1 := y1
  have z2 := y2
  have z3 := y3
  have HAF := hid haf
  have HBF := hid hbf
  have HA := hid ha
  have HB := hid hb
  have HEA := hid hea
  have HEB := hid heb
  clear haf hbf ha hb hea heb hy
  go_enter Tryz.func36, Tryz.ntmps36
  go_wp2
  go_loopw [3] (fun i wr => ∃ p : Nat, p ≤ la.length ∧ i = .int .i64 p ∧ Below w.heap.size w wr) (fun i _ => la.length - (intOf i).toNat)
  case atStart => exact ⟨0, Nat.zero_le _, rfl, Below.refl _ _⟩
  case round =>
    obtain ⟨p, hp, rfl, hbel⟩ := hrel
    replace y1 := keep hbel z1
    replace y2 := keep hbel z2
    replace y3 := keep hbel z3
    by_cases hlt : p < la.length
    · obtain ⟨ga, rfl⟩ := HAF.out p hlt
      have c1 := nameC_cell HA.out rfl p hlt
      obtain ⟨n, U, hen⟩ := HEA.out p hlt
      have HEN := hid hen; clear hen
      have hp0 : (0 : Int) ≤ (p : Int) := Int.natCast_nonneg _
      have hp1 : (p : Int) < (la.length : Int) := by omega
      generalize hgn : la[p] = gn at *
      go_wp2
      go_loopw [4] (fun i wr => ∃ q : Nat, q ≤ 4 ∧ i = .int .i64 q ∧ Below w.heap.size w wr) (fun i _ => 4 - (intOf i).toNat)
      case atStart => exact ⟨0, Nat.zero_le _, rfl, hbel⟩
      case round =>
        obtain ⟨q, hq, rfl, hbelq⟩ := hrel
        have d1 := keep hbelq c1
        replace y1 := keep hbelq z1
        replace y2 := keep hbelq z2
        replace y3 := keep hbelq z3
        by_cases hqt : q < 4
        · obtain ⟨au, cu, hu, hnm, huf⟩ := HEN.out.form hqt
          have HUF := hid huf; clear huf
          have u1 := HEN.out.cell hqt
          rw [hu] at u1
          have HMK := hid (HEN.out.mks q hqt)
          have hq0 : (0 : Int) ≤ (q : Int) := Int.natCast_nonneg _
          have hq1 : (q : Int) < 4 := by omega
          go_wp2
          go_loopw [5] (fun i wr => ∃ j : Nat, j ≤ n + q ∧ i = .int .i64 j ∧ Below w.heap.size w wr) (fun i _ => n + q - (intOf i).toNat)
          case atStart => exact ⟨0, Nat.zero_le _, rfl, hbelq⟩
          case round =>
            obtain ⟨j, hj, rfl, hbelj⟩ := hrel
            have d2 := keep hbelj c1
            have u2 := keep hbelj u1
            replace y1 := keep hbelj z1
            replace y2 := keep hbelj z2
            replace y3 := keep hbelj z3
            by_cases hjt : j < n + q
            · obtain ⟨g, rfl⟩ := HUF.out j hjt
              have hj0 : (0 : Int) ≤ (j : Int) := Int.natCast_nonneg _
              have hj1 : (j : Int) < (n : Int) + (q : Int) := by omega
              have k0 := keep hbelj (HMK.out j hjt g (by rw [hu]; rfl) 0 (.int .i64 (-7070)) rfl)
              have k1 := keep hbelj (HMK.out j hjt g (by rw [hu]; rfl) 1 (.int .i64 p) rfl)
              simp only [Nat.add_zero] at k0
              go_wp2
              go_roundw
              case rel => exact ⟨j + 1, by omega, by go_num, hbelj⟩
              case measure => simp [intOf]; omega
            · go_wp2
              go_roundw
              case rel => exact ⟨q + 1, by omega, by go_num, hbelj⟩
              case measure => simp [intOf]; omega
        · go_wp2
          go_roundw
          case rel => exact ⟨p + 1, by omega, by go_num, hbelq⟩
          case measure => simp [intOf]; omega
    · go_wp2
      go_loopw [6] (fun i wr => ∃ p : Nat, p ≤ lb.length ∧ i = .int .i64 p ∧ Below w.heap.size w wr) (fun i _ => lb.length - (intOf i).toNat)
      case atStart => exact ⟨0, Nat.zero_le _, rfl, hbel⟩
      case round =>
        obtain ⟨p, hp, rfl, hbel2⟩ := hrel
        replace y1 := keep hbel2 z1
        replace y2 := keep hbel2 z2
        replace y3 := keep hbel2 z3
        by_cases hlt : p < lb.length
        · obtain ⟨ga, rfl⟩ := HBF.out p hlt
          have c1 := nameC_cell HB.out rfl p hlt
          obtain ⟨n, U, hen⟩ := HEB.out p hlt
          have HEN := hid hen; clear hen
          have hp0 : (0 : Int) ≤ (p : Int) := Int.natCast_nonneg _
          have hp1 : (p : Int) < (lb.length : Int) := by omega
          generalize hgn : lb[p] = gn at *
          go_wp2
          go_loopw [7] (fun i wr => ∃ q : Nat, q ≤ 4 ∧ i = .int .i64 q ∧ Below w.heap.size w wr) (fun i _ => 4 - (intOf i).toNat)
          case atStart => exact ⟨0, Nat.zero_le _, rfl, hbel2⟩
          case round =>
            obtain ⟨q, hq, rfl, hbelq⟩ := hrel
            have d1 := keep hbelq c1
            replace y1 := keep hbelq z1
            replace y2 := keep hbelq z2
            replace y3 := keep hbelq z3
            by_cases hqt : q < 4
            · obtain ⟨au, cu, hu, hnm, huf⟩ := HEN.out.form hqt
              have HUF := hid huf; clear huf
              have u1 := HEN.out.cell hqt
              rw [hu] at u1
              have HMK := hid (HEN.out.mks q hqt)
              have hq0 : (0 : Int) ≤ (q : Int) := Int.natCast_nonneg _
              have hq1 : (q : Int) < 4 := by omega
              go_wp2
              go_loopw [8] (fun i wr => ∃ j : Nat, j ≤ n + q ∧ i = .int .i64 j ∧ Below w.heap.size w wr) (fun i _ => n + q - (intOf i).toNat)
              case atStart => exact ⟨0, Nat.zero_le _, rfl, hbelq⟩
              case round =>
                obtain ⟨j, hj, rfl, hbelj⟩ := hrel
                have d2 := keep hbelj c1
                have u2 := keep hbelj u1
                replace y1 := keep hbelj z1
                replace y2 := keep hbelj z2
                replace y3 := keep hbelj z3
                by_cases hjt : j < n + q
                · obtain ⟨g, rfl⟩ := HUF.out j hjt
                  have hj0 : (0 : Int) ≤ (j : Int) := Int.natCast_nonneg _
                  have hj1 : (j : Int) < (n : Int) + (q : Int) := by omega
                  have k0 := keep hbelj (HMK.out j hjt g (by rw [hu]; rfl) 0 (.int .i64 (-7070 - (p : Int))) rfl)
                  have k1 := keep hbelj (HMK.out j hjt g (by rw [hu]; rfl) 1 (.int .i64 0) rfl)
                  have k2 := keep hbelj (HMK.out j hjt g (by rw [hu]; rfl) 2 (.int .i64 0) rfl)
                  have hzw : IntKind.i64.wrap (-7070 - (p : Int)) = -7070 - (p : Int) := Go.IntWalk.i64_in _ (by omega)
                  simp only [Nat.add_zero] at k0
                  go_wp2
                  go_roundw
                  case rel => exact ⟨j + 1, by omega, by go_num, hbelj.alloc hbelj.size _⟩
                  case measure => simp [intOf]; omega
                · go_wp2
                  go_roundw
                  case rel => exact ⟨q + 1, by omega, by go_num, hbelj⟩
                  case measure => simp [intOf]; omega
            · go_wp2
              go_roundw
              case rel => exact ⟨p + 1, by omega, by go_num, hbelq⟩
              case measure => simp [intOf]; omega
        · go_wp2
          go_loopw [10] (fun i wr => i = .int .i64 0 ∧ Below w.heap.size w wr) (fun _ _ => 0)
          case atStart => exact ⟨rfl, hbel2⟩
          case round =>
            obtain ⟨rfl, hbel3⟩ := hrel
            replace y3 := keep hbel3 z3
            go_wp2
            go_ret
            exact ⟨rfl, hbel3⟩
end

end Go.Proofs.YtnkpogjiiohapaaGreatDoor
