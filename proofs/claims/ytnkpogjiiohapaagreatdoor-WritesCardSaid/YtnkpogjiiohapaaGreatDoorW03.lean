/- Our own text (RefI, RefJ, RefK, RefL, RefM). -/
import Derived.Test.YtnkpogjiiohapaaGreatDoorW02
set_option linter.unusedSimpArgs false
set_option linter.unusedVariables false

/-! RefI: An append onto an owned row, told with where the new row lies; as a step of a region that draws its order. -/
namespace Go.Proofs.YtnkpogjiiohapaaGreatDoor
open Go.RowKit

/-- The value's block is the old one or a new one. -/
def newOr (w : World) (v v' : Value) : Prop := v'.ownBlock = v.ownBlock ∨ ∀ k, v'.ownBlock = some k → w.heap.size ≤ k

theorem run_app_where {P : Program} (w : World) (base : Nat) (t ty e : TypeId) (i : TypeInfo) (z : Value) (size bytes : Nat) (ht : P.underlying t = some (.slice e)) (hi : P.info? e = some i) (hz : i.zero = some z)
    (hsize : i.size = size) (hby : i.bytes = bytes) (hzs : z.cells.size = size) (hsz : 0 < size)
    (v : Value) (n : Nat) (xs : List Value) (hown : w.ownsRow base e size v n xs)
    (a : Addr) (m c : Nat) (news : List Value) (hl : news.length = m * size) (hnews : ∀ j u, news[j]? = some u → w.cell? (a.add j) = some u) (h1 : ∀ u ∈ news, u.oneCell' = true)
    (h63 : n + m ≤ maxLen) (hbytes : (n + m) * bytes ≤ 140737488355328) (hbase : base ≤ w.heap.size) :
    ∃ v' w', (Builtin.append_ #[t, t] ty #[v, .slice (some a) m c]).run P w = .ok v' w' ∧ w'.ownsRow base e size v' (n + m) (xs ++ news) ∧ w.grownBy w' v.ownBlock ∧ newOr w v v' := by
  obtain ⟨v', w', hr, ho, hg, hnil⟩ := run_append_own (P := P) w base t ty e i z size bytes ht hi hz hsize hby hzs hsz v n xs hown a m c news hl hnews h1 h63 hbytes hbase
  refine ⟨v', w', hr, ho, hg, ?_⟩
  have hsmall : n + m ≤ 9223372036854775807 := by simp only [maxLen] at h63; omega
  subst hsize
  subst hby
  rcases hown.2 with ⟨rfl, rfl⟩ | ⟨g, cap, cur, rfl, hbg, hgg, hnc, hcm, hcs, htake⟩
  · by_cases hm : m = 0
    · exact .inl (by rw [hnil.2 ⟨rfl, hm⟩])
    · have hr2 := run_append_nil (P := P) w t ty e i z ht hi hz a m c news hl hnews (by omega) (by omega) (by have hb := hbytes; simp only [Nat.zero_add] at hb; omega)
      rw [hr2] at hr
      injection hr with e1 e2
      subst e1
      exact .inr fun k hk => by simp [Value.ownBlock] at hk; omega
  · by_cases hroom : n + m ≤ cap
    · have hfit : n * i.size + news.length ≤ cur.size := by rw [hl, hcs, ← Nat.add_mul]; exact Nat.mul_le_mul_right _ hroom
      have hr2 := run_append_room (P := P) w t ty e i ht hi g n cap cur hgg a m c news hl hnews h1 hroom hfit
      rw [hr2] at hr
      injection hr with e1 e2
      subst e1
      exact .inl rfl
    · have holds : ∀ j u, xs[j]? = some u → w.cell? ((⟨g, 0, none⟩ : Addr).add j) = some u := hown.cells (g := g) rfl
      have hr2 := run_append_grow (P := P) w t ty e i z ht hi hz ⟨g, 0, none⟩ n cap xs hown.1 holds a m c news hl hnews (by omega) (by omega) (growslice_fits (by omega) hbytes)
      rw [hr2] at hr
      injection hr with e1 e2
      subst e1
      exact .inr fun k hk => by simp [Value.ownBlock] at hk; omega

/-- ONE ELEMENT MORE, as a step of a region that draws. -/
theorem step_app {α : Type} (f : α → List Value) (size bytes : Nat) (t e : TypeId) (z : Value) (hinfo : (Tryz.prog.info? e).map (fun i => (i.zero, i.size, i.bytes)) = some (some z, size, bytes))
    (ht : Tryz.prog.underlying t = some (.slice e)) (hzs : z.cells.size = size) (hk : 0 < size) (hf : ∀ x, (f x).length = size)
    {ops : Array Oper} {o : Oper} {a : Act} {w : World} {K : Act → World → Prop} {Q : Exit → Act → World → Prop} {E : Prop}
    (hg : o.guard = none) (s x : Operand) (ho : o.op = .call { callee := .builtin .append, args := #[s, x], argTypes := #[t, t] }) (B : Nat) (v : Value) (l : List α) (hs : a.eval s = v)
    (hown : w.ownsRow B e size v l.length (l.flatMap f)) (g c : Nat) (y : α) (hx : a.eval x = .slice (some ⟨g, 0, none⟩) 1 c)
    (hnew : ∀ j u, (f y)[j]? = some u → w.cell? ⟨g, j, none⟩ = some u) (h1 : ∀ u ∈ f y, u.oneCell' = true) (hlen : (l.length + 1) * bytes ≤ 140737488355328) (hlen' : l.length < maxLen) (hB : B ≤ w.heap.size)
    (h : ∀ v' w', w'.ownsRow B e size v' (l.length + 1) ((l ++ [y]).flatMap f) → w.grownBy w' v.ownBlock → newOr w v v' → K (a.put o.dst v') w') :
    if Region.wanted o (yielded ops a.tmps) = true then Oper.wp Tryz.prog o a w K Q else E := by
  have hw : Region.wanted o (yielded ops a.tmps) = true := by simp [Region.wanted, hg]
  rw [if_pos hw]
  obtain ⟨i, hi, hz, hsz, hby⟩ := info_parts hinfo
  obtain ⟨v', w', hr, h2, h3, h4⟩ := run_app_where (P := Tryz.prog) w B t o.type e i z size bytes ht hi hz hsz hby hzs hk v l.length (l.flatMap f) hown ⟨g, 0, none⟩ 1 c (f y) (by rw [hf]; simp)
    (fun j u hu => by
      have : (⟨g, 0, none⟩ : Addr).add j = ⟨g, j, none⟩ := by unfold Addr.add; split <;> simp_all
      rw [this]; exact hnew j u hu) h1 (by omega) hlen hB
  unfold Oper.wp execOp
  simp only [ho, resolve, invoke, builtin, Sem.run_bind, Sem.run_pure, Result.andThen_ok, List.map_toArray, List.map_cons, List.map_nil, hs, hx, hr]
  exact h v' w' (by simpa using h2) h3 h4

/-- Held values stay where no block of theirs turns. -/
theorem held_block {w w' : World} {v : Value} {l : List PHeld} (h : isHelds w v l) (hb : ∀ (g : Nat) (cur : Array Value), w.heap[g]? = some (.cells cur 243 (0, 0)) → w'.heap[g]? = w.heap[g]?) : isHelds w' v l := by
  refine ⟨h.1, ?_⟩
  rcases h.2 with hn | ⟨g, cap, cur, e1, h1, hg, rest⟩
  · exact .inl hn
  · exact .inr ⟨g, cap, cur, e1, h1, by rw [hb g cur hg]; exact hg, rest⟩

theorem cells_type {w : World} {g : Nat} {c c' : Array Value} {e e' : TypeId} {f f' : Nat × Nat} (h : w.heap[g]? = some (.cells c e f)) (h' : w.heap[g]? = some (.cells c' e' f')) : e = e' := by
  rw [h] at h'; injection h' with h'; injection h'

/-- The block of an owned row, if it has one. -/
theorem own_type {w : World} {base : Nat} {e : TypeId} {size : Nat} {v : Value} {n : Nat} {xs : List Value} (h : w.ownsRow base e size v n xs) {g : Nat} (hg : v.ownBlock = some g) : ∃ cur, w.heap[g]? = some (.cells cur e (0, 0)) := by
  rcases h.2 with ⟨rfl, _⟩ | ⟨g', c, cur, rfl, _, hg', _⟩
  · simp [Value.ownBlock] at hg
  · simp [Value.ownBlock] at hg; subst hg; exact ⟨cur, hg'⟩

theorem ownSlots.form {B : Nat} {w : World} {g n cap : Nat} {l : List CSlot} (h : ownSlots B w (.slice (some ⟨g, 0, none⟩) n cap) l) : w.ownsRow B 269 4 (.slice (some ⟨g, 0, none⟩) n cap) n (l.flatMap slotC) := by
  obtain ⟨a, c, e, _⟩ := owns_form h
  injection e with _ e _
  unfold ownSlots at h
  rw [← e] at h
  exact h

structure Made (B : Nat) (w w1 W w2 w3 : World) (go oo : Nat) (curO : Array Value) (v : Value) (l : List CSlot) (g2 n2 c2 : Nat) (key : ByteArray) : Prop where
  hgo : w.heap[go]? = some (.cells curO 272 (0, 0))
  hoo : curO[oo + 3]? = some v
  h : isSlots B w v l
  hb1 : Below w.heap.size w w1
  hbW : Below w1.heap.size w1 W
  hg2 : W.grownBy w2 v.ownBlock
  hown2 : ownSlots B w2 (.slice (some ⟨g2, 0, none⟩) n2 c2) (l ++ [slot0 key (0, 0)])
  hn2 : n2 = l.length + 1
  hnew : newOr W v (.slice (some ⟨g2, 0, none⟩) n2 c2)
  hw3 : w3 = w2.setCell ⟨go, oo + 3, none⟩ (.slice (some ⟨g2, 0, none⟩) n2 c2)

section
theorem Made.hne {B : Nat} {w w1 W w2 w3 : World} {go oo : Nat} {curO : Array Value} {v : Value} {l : List CSlot} {g2 n2 c2 : Nat} {key : ByteArray} (m : Made B w w1 W w2 w3 go oo curO v l g2 n2 c2 key) : some go ≠ v.ownBlock := by
  intro e
  obtain ⟨cur, hc⟩ := own_type m.h.1 e.symm
  exact absurd (cells_type m.hgo hc) (by decide)
theorem Made.bW {B : Nat} {w w1 W w2 w3 : World} {go oo : Nat} {curO : Array Value} {v : Value} {l : List CSlot} {g2 n2 c2 : Nat} {key : ByteArray} (m : Made B w w1 W w2 w3 go oo curO v l g2 n2 c2 key) : Below w.heap.size w W := m.hb1.trans (m.hbW.mono m.hb1.size)
theorem Made.lt {B : Nat} {w w1 W w2 w3 : World} {go oo : Nat} {curO : Array Value} {v : Value} {l : List CSlot} {g2 n2 c2 : Nat} {key : ByteArray} (m : Made B w w1 W w2 w3 go oo curO v l g2 n2 c2 key) : go < w.heap.size := (Array.getElem?_eq_some_iff.1 m.hgo).1
theorem Made.go2 {B : Nat} {w w1 W w2 w3 : World} {go oo : Nat} {curO : Array Value} {v : Value} {l : List CSlot} {g2 n2 c2 : Nat} {key : ByteArray} (m : Made B w w1 W w2 w3 go oo curO v l g2 n2 c2 key) : w2.heap[go]? = some (.cells curO 272 (0, 0)) := by
  rw [m.hg2.block go (Nat.lt_of_lt_of_le m.lt m.bW.size) m.hne, m.bW.block go m.lt]; exact m.hgo
theorem Made.ne {B : Nat} {w w1 W w2 w3 : World} {go oo : Nat} {curO : Array Value} {v : Value} {l : List CSlot} {g2 n2 c2 : Nat} {key : ByteArray} (m : Made B w w1 W w2 w3 go oo curO v l g2 n2 c2 key) : go ≠ g2 := by
  intro e; subst e
  obtain ⟨cur, hc⟩ := own_block m.hown2
  exact absurd (cells_type m.go2 hc) (by decide)
theorem Made.go3 {B : Nat} {w w1 W w2 w3 : World} {go oo : Nat} {curO : Array Value} {v : Value} {l : List CSlot} {g2 n2 c2 : Nat} {key : ByteArray} (m : Made B w w1 W w2 w3 go oo curO v l g2 n2 c2 key) : w3.heap[go]? = some (.cells (curO.setIfInBounds (oo + 3) (.slice (some ⟨g2, 0, none⟩) n2 c2)) 272 (0, 0)) := by
  rw [m.hw3]; simp [World.setCell, Array.getElem?_modify, m.go2]
theorem Made.oth3 {B : Nat} {w w1 W w2 w3 : World} {go oo : Nat} {curO : Array Value} {v : Value} {l : List CSlot} {g2 n2 c2 : Nat} {key : ByteArray} (m : Made B w w1 W w2 w3 go oo curO v l g2 n2 c2 key) (k : Nat) (hk : k ≠ go) : w3.heap[k]? = w2.heap[k]? := by
  rw [m.hw3]; exact Below.heap_setCell _ _ _ _ hk
theorem Made.size3 {B : Nat} {w w1 W w2 w3 : World} {go oo : Nat} {curO : Array Value} {v : Value} {l : List CSlot} {g2 n2 c2 : Nat} {key : ByteArray} (m : Made B w w1 W w2 w3 go oo curO v l g2 n2 c2 key) : w3.heap.size = w2.heap.size := by rw [m.hw3]; simp [World.setCell]
theorem Made.old {B : Nat} {w w1 W w2 w3 : World} {go oo : Nat} {curO : Array Value} {v : Value} {l : List CSlot} {g2 n2 c2 : Nat} {key : ByteArray} (m : Made B w w1 W w2 w3 go oo curO v l g2 n2 c2 key) (k : Nat) (hk : k < W.heap.size) (h1 : k ≠ go) (h2 : some k ≠ v.ownBlock) : w3.heap[k]? = W.heap[k]? := by
  rw [m.oth3 k h1, m.hg2.block k hk h2]
theorem Made.own3 {B : Nat} {w w1 W w2 w3 : World} {go oo : Nat} {curO : Array Value} {v : Value} {l : List CSlot} {g2 n2 c2 : Nat} {key : ByteArray} (m : Made B w w1 W w2 w3 go oo curO v l g2 n2 c2 key) : ownSlots B w3 (.slice (some ⟨g2, 0, none⟩) n2 c2) (l ++ [slot0 key (0, 0)]) := by
  have h2 := m.hown2
  refine ⟨h2.1, ?_⟩
  rcases h2.2 with ⟨e1, _⟩ | ⟨g, cap, cur, e1, h1, hg, rest⟩
  · injection e1 with e1; cases e1
  · refine .inr ⟨g, cap, cur, e1, h1, ?_, rest⟩
    injection e1 with e1 _ _; injection e1 with e1; injection e1 with e1; subst e1
    rw [m.oth3 _ m.ne.symm]; exact hg
theorem Made.held3 {B : Nat} {w w1 W w2 w3 : World} {go oo : Nat} {curO : Array Value} {v : Value} {l : List CSlot} {g2 n2 c2 : Nat} {key : ByteArray} (m : Made B w w1 W w2 w3 go oo curO v l g2 n2 c2 key) {u : Value} {hs : List PHeld} (hh : isHelds w u hs) : isHelds w3 u hs := by
  refine held_block (hh.keep m.bW) fun g cur hg => m.old g (Array.getElem?_eq_some_iff.1 hg).1 ?_ ?_
  · intro e; subst e
    have := m.bW.block g m.lt
    rw [this] at hg
    exact absurd (cells_type m.hgo hg) (by decide)
  · intro e
    obtain ⟨c', hc⟩ := own_type (owns_keep m.h.1 m.bW) e.symm
    exact absurd (cells_type hc hg) (by decide)
/-- A cell that was there behind the call of 'slot'. -/
theorem Made.cell3 {B : Nat} {w w1 W w2 w3 : World} {go oo : Nat} {curO : Array Value} {v : Value} {l : List CSlot} {g2 n2 c2 : Nat} {key : ByteArray} (m : Made B w w1 W w2 w3 go oo curO v l g2 n2 c2 key) {b o : Nat} {u : Value} (hc : w1.cell? ⟨b, o, none⟩ = some u) (hb : w.heap.size ≤ b) : w3.cell? ⟨b, o, none⟩ = some u := by
  have hlt := World.block_lt_of_cell? w1 _ hc
  have hW := keep m.hbW hc
  have : w3.heap[b]? = W.heap[b]? := m.old b (Nat.lt_of_lt_of_le hlt m.hbW.size) (by have := m.lt; omega) (fun e => by have := (World.ownsRow.lt m.h.1 b e.symm).2; omega)
  rw [World.cell?_of_block (w := W) (a := ⟨b, o, none⟩) this]; exact hW
theorem Made.slots3 {B : Nat} {w w1 W w2 w3 : World} {go oo : Nat} {curO : Array Value} {v : Value} {l : List CSlot} {g2 n2 c2 : Nat} {key : ByteArray} (m : Made B w w1 W w2 w3 go oo curO v l g2 n2 c2 key) : w3.cell? ⟨go, oo + 3, none⟩ = some (.slice (some ⟨g2, 0, none⟩) n2 c2) := by
  have hlt : oo + 3 < curO.size := (Array.getElem?_eq_some_iff.1 m.hoo).1
  simp [World.cell?, m.go3, hlt]
theorem Made.vals3 {B : Nat} {w w1 W w2 w3 : World} {go oo : Nat} {curO : Array Value} {v : Value} {l : List CSlot} {g2 n2 c2 : Nat} {key : ByteArray} (m : Made B w w1 W w2 w3 go oo curO v l g2 n2 c2 key) : w3.cell? ⟨g2, l.length * 4 + 3, none⟩ = some (.slice none 0 0) := by
  have h3 := m.own3
  unfold ownSlots at h3
  rw [show (l ++ [slot0 key (0, 0)]).length = n2 by rw [m.hn2]; simp] at h3
  have := owns_cell (f := slotC) (fun _ => rfl) h3 (by rw [m.hn2]; simp) l.length (by simp) 3 (by omega)
  rw [this]
  simp [slotC, slot0]
theorem Made.ids3 {B : Nat} {w w1 W w2 w3 : World} {go oo : Nat} {curO : Array Value} {v : Value} {l : List CSlot} {g2 n2 c2 : Nat} {key : ByteArray} (m : Made B w w1 W w2 w3 go oo curO v l g2 n2 c2 key) {u : Value} {ids : List PId} (hh : isIds w1 u ids) (hw : isIds w u ids) : isIds w3 u ids := by
  refine ⟨hh.1, ?_⟩
  rcases hh.2 with hn | ⟨g, cap, cur, e1, h1, hg, rest⟩
  · exact .inl hn
  · refine .inr ⟨g, cap, cur, e1, h1, ?_, rest⟩
    have hlt := (Array.getElem?_eq_some_iff.1 hg).1
    have hgW : W.heap[g]? = some (.cells cur 36 (0, 0)) := by rw [m.hbW.block g hlt]; exact hg
    rw [m.old g (Nat.lt_of_lt_of_le hlt m.hbW.size) ?_ ?_]
    · exact hgW
    · intro e; subst e
      rw [m.bW.block g m.lt] at hgW
      exact absurd (cells_type m.hgo hgW) (by decide)
    · intro e
      obtain ⟨c', hc⟩ := own_type (owns_keep m.h.1 m.bW) e.symm
      exact absurd (cells_type hc hgW) (by decide)

theorem Made.upd {B : Nat} {w w1 W w2 w3 : World} {go oo : Nat} {curO : Array Value} {v : Value} {l : List CSlot} {g2 n2 c2 : Nat} {key : ByteArray} (m : Made B w w1 W w2 w3 go oo curO v l g2 n2 c2 key) {wf : World} {vv : Value} {hs' : List PHeld} (hbf : Below w3.heap.size w3 wf) (hv : isHelds wf vv hs') :
    ObjUpd B w (wf.setCell ⟨g2, l.length * 4 + 3, none⟩ vv) go oo curO v (l ++ [⟨key, (0, 0), vv, hs'⟩]) := by
  have hown : ownSlots B wf (.slice (some ⟨g2, 0, none⟩) n2 c2) (l ++ [slot0 key (0, 0)]) := owns_keep m.own3 hbf
  obtain ⟨cur, hcur⟩ := own_block hown
  have hst := own_store hown (by rw [m.hn2]; simp) (k := l.length) (by simp) vv hs'
  have e : (l ++ [slot0 key (0, 0)]).set l.length ⟨(l ++ [slot0 key (0, 0)])[l.length].key, (l ++ [slot0 key (0, 0)])[l.length].id, vv, hs'⟩ = l ++ [⟨key, (0, 0), vv, hs'⟩] := by
    simp [slot0]
  rw [e] at hst
  have hoth : ∀ i, i ≠ g2 → (wf.setCell ⟨g2, l.length * 4 + 3, none⟩ vv).heap[i]? = wf.heap[i]? := fun i hi => Below.heap_setCell _ _ _ _ hi
  have hs2 := m.size3
  have hg2s := m.hg2.size
  have hWs := m.bW.size
  refine ⟨⟨_, ⟨hst, ?_⟩, ?_, ?_⟩, ?_, ?_, ?_, ?_, fun i hi h1 h2 => ?_⟩
  · intro s hs
    rcases List.mem_append.1 hs with hs | hs
    · exact held_other ((m.held3 (m.h.2 s hs)).keep hbf) hcur (by decide) vv
    · simp at hs; subst hs; exact held_other hv hcur (by decide) vv
  · rw [hoth go m.ne, hbf.block go (by rw [hs2]; have := m.lt; omega)]; exact m.go3
  · rcases m.hnew with h | h
    · exact .inl h
    · exact .inr fun k hk => by have := h k hk; omega
  · show wf.os = w.os
    rw [hbf.os, m.hw3]; exact m.hg2.os.trans m.bW.os
  · show wf.tape = w.tape
    rw [hbf.tape, m.hw3]; exact m.hg2.tape.trans m.bW.tape
  · show wf.output = w.output
    rw [hbf.output, m.hw3]; exact m.hg2.output.trans m.bW.output
  · have := hbf.size; simp [World.setCell]; omega
  · have hiW : i < W.heap.size := Nat.lt_of_lt_of_le hi hWs
    have hne : i ≠ g2 := by
      rcases m.hnew with h | h
      · intro e; subst e; exact h2 (by rw [← h]; rfl)
      · intro e; subst e; have := h i rfl; omega
    rw [hoth i hne, hbf.block i (by omega), m.old i hiW h1 h2, m.bW.block i hi]
end

end Go.Proofs.YtnkpogjiiohapaaGreatDoor

/-! RefJ: The contract of the reference's valued where the slot is not there: a key's slot is made. -/
namespace Go.Proofs.YtnkpogjiiohapaaGreatDoor
open Go.RowKit

theorem slotk_cells {W : World} {key : ByteArray} : ∀ j u, (slotC (slot0 key (0, 0)))[j]? = some u → (W.alloc (.cells #[.string key, .int .i64 0, .int .i64 0, .slice none 0 0] 269)).cell? ⟨W.heap.size, j, none⟩ = some u := by
  intro j u hu
  rw [World.cell?_alloc_at _ _ _ _ rfl]
  match j with
  | 0 => simpa [slotC, slot0] using hu
  | 1 => simpa [slotC, slot0] using hu
  | 2 => simpa [slotC, slot0] using hu
  | 3 => simpa [slotC, slot0] using hu
  | j + 4 => simp [slotC, slot0] at hu
theorem slotk_wf {key : ByteArray} {x : PId} : ∀ u ∈ slotC (slot0 key x), u.oneCell' = true := by
  intro u hu; simp [slot0, slotC] at hu; rcases hu with rfl | rfl | rfl | rfl <;> rfl

theorem step_slot {ops : Array Oper} {o : Oper} {a : Act} {w : World} {K : Act → World → Prop} {Q : Exit → Act → World → Prop} {E : Prop}
    (hg : o.guard = none) (s x : Operand) (ho : o.op = .call { callee := .builtin .append, args := #[s, x], argTypes := #[270, 270] }) (B : Nat) (v : Value) (l : List CSlot) (hs : a.eval s = v)
    (hown : ownSlots B w v l) (g c : Nat) (y : CSlot) (hx : a.eval x = .slice (some ⟨g, 0, none⟩) 1 c)
    (hnew : ∀ j u, (slotC y)[j]? = some u → w.cell? ⟨g, j, none⟩ = some u) (h1 : ∀ u ∈ slotC y, u.oneCell' = true) (hlen : l.length < 10000000) (hB : B ≤ w.heap.size)
    (h : ∀ v' w', ownSlots B w' v' (l ++ [y]) → w.grownBy w' v.ownBlock → newOr w v v' → K (a.put o.dst v') w') :
    if Region.wanted o (yielded ops a.tmps) = true then Oper.wp Tryz.prog o a w K Q else E :=
  step_app slotC 4 56 270 269 (.agg #[.string ⟨#[]⟩, .int .i64 0, .int .i64 0, .slice none 0 0]) (by kernel_rfl) Tryz.underlying270 rfl (by omega) (fun _ => rfl)
    hg s x ho B v l hs hown g c y hx hnew h1 (by omega) (by unfold maxLen; omega) hB (fun v' w' h2 h3 h4 => h v' w' (by unfold ownSlots; simpa using h2) h3 h4)

set_option maxRecDepth 1000000 in
set_option maxHeartbeats 1600000 in
theorem valued_new (B go oo : Nat) (curO : Array Value) (v : Value) (l : List CSlot) (hll : l.length < 1000000)
    (i1 i2 kind ob1 ob2 e1 e2 be1 be2 n v1 v2 : Int) (lst : Bool) (key : ByteArray) (vold : Value) (old : List PId) (w : World)
    (hgo : w.heap[go]? = some (.cells curO 272 (0, 0))) (hoo : curO[oo + 3]? = some v) (hol : curO[oo + 2]? = some (.bool false)) (h : isSlots B w v l) (hB : B ≤ w.heap.size) (hold : isIds w vold old)
    (hfi : firstI (slotIs key (e1, e2)) l = -1) :
    Calls Tryz.prog 215 #[.pointer (some ⟨go, oo, none⟩), .agg #[.int .i64 i1, .int .i64 i2, .int .i64 kind, .bool lst, .int .i64 ob1, .int .i64 ob2, .string key, .int .i64 e1, .int .i64 e2, .int .i64 be1, .int .i64 be2, .int .i64 n, .int .i64 v1, .int .i64 v2, vold]] w fun e w' =>
      e = .returned (.tuple #[]) ∧ ∃ vv, ObjUpd B w w' go oo curO v (l ++ [⟨key, (0, 0), vv, newHelds old [] kind ⟨(i1, i2), n, (v1, v2)⟩⟩]) := by
  obtain ⟨a, cap, rfl, hlc, hcm, hform⟩ := owns_form h.1
  unfold maxLen at hcm
  obtain ⟨ao, co, rfl, hoc, hom, _⟩ := owns_form hold
  have hp : w.cell? ⟨go, oo + 3, none⟩ = some (.slice a l.length cap) := by simp [World.cell?, hgo, hoo]
  have hq : w.cell? ⟨go, oo + 2, none⟩ = some (.bool false) := by simp [World.cell?, hgo, hol]
  have hfz : w.frozen? ⟨go, oo + 3, none⟩ = false := by simp [World.frozen?, hgo]
  clear hform
  have HP0 := hid hp
  have HQ0 := hid hq
  have HFZ := hid hfz
  have HH := hid h; clear h
  have HGO := hid hgo; clear hgo
  have HOO := hid hoo; clear hoo
  have HOLD := hid hold; clear hold
  have hgl : go < w.heap.size := World.block_lt_of_cell? w _ hp
  have hne : some go ≠ (Value.slice a l.length cap).ownBlock := by
    intro e
    cases a with
    | none => simp [Value.ownBlock] at e
    | some ad =>
      obtain ⟨g', rfl⟩ : ∃ g', ad = ⟨g', 0, none⟩ := by
        rcases HH.out.1.2 with ⟨e1, _⟩ | ⟨g', c', cur, e1, _⟩
        · injection e1 with e1; cases e1
        · injection e1 with e1; injection e1 with e1; exact ⟨g', e1⟩
      simp [Value.ownBlock] at e
      subst e
      obtain ⟨cur, hg⟩ := own_block HH.out.1
      rw [HGO.out] at hg; injection hg with hg; injection hg with _ hg _; exact absurd hg (by decide)
  have HNE := hid hne; clear hne
  go_enter Tryz.func215, Tryz.ntmps215
  go_wp2_with (go_at_call 172; go_must (refine (slot_any B go oo (.slice a l.length cap) l key e1 e2 _ ?ha ?hb).mono ?_; (case ha => exact keep ((Below.refl w.heap.size w).alloc (Nat.le_refl _) _) HP0.out); (case hb => exact HH.out.keep ((Below.refl w.heap.size w).alloc (Nat.le_refl _) _)); rintro e w1 ⟨rfl, hb0⟩; have hbb : Below w.heap.size w w1 := ((Below.refl w.heap.size w).alloc (Nat.le_refl _) _).trans (hb0.mono (by simp)); have P0 := hid (keep (a := ⟨w.heap.size, 0, none⟩) (v := .int .i64 i1) hb0 (by simp [go_sem])); have P1 := hid (keep (a := ⟨w.heap.size, 1, none⟩) (v := .int .i64 i2) hb0 (by simp [go_sem])); have P2 := hid (keep (a := ⟨w.heap.size, 2, none⟩) (v := .int .i64 kind) hb0 (by simp [go_sem])); have P11 := hid (keep (a := ⟨w.heap.size, 11, none⟩) (v := .int .i64 n) hb0 (by simp [go_sem])); have P12 := hid (keep (a := ⟨w.heap.size, 12, none⟩) (v := .int .i64 v1) hb0 (by simp [go_sem])); have P13 := hid (keep (a := ⟨w.heap.size, 13, none⟩) (v := .int .i64 v2) hb0 (by simp [go_sem])); have P14 := hid (keep (a := ⟨w.heap.size, 14, none⟩) (v := .slice ao old.length co) hb0 (by simp [go_sem])); have hb0x := hb0; clear hb0; replace hp := keep hbb HP0.out; replace hq := keep hbb HQ0.out; replace hfz := (hbb.frozen (p := ⟨go, oo + 3, none⟩) hgl).trans HFZ.out; have P6 := hid (keep (a := ⟨w.heap.size, 6, none⟩) (v := .string key) hb0x (by simp [go_sem])); have hz1 := hbb.size; have HB1 := hid (hbb); clear hbb))
  have p6 := P6.out
  have hw1 : w.heap.size < w1.heap.size := World.block_lt_of_cell? w1 _ p6
  clear hb0x
  have hgl1 : go < w1.heap.size := World.block_lt_of_cell? w1 _ hp
  go_region_law (refine step_slot rfl (.tmp 29) (.tmp 33) rfl B (.slice a l.length cap) l (by simp [Act.eval, Act.put]) ?h1 w1.heap.size 1 (slot0 key (0, 0)) (by simp [Act.eval, Act.put]) ?h2 ?h3 ?h4 ?h5 ?_; (case h1 => exact ((HH.out.keep HB1.out).1).alloc _); (case h2 => exact slotk_cells); (case h3 => exact slotk_wf); (case h4 => omega); (case h5 => simp; omega); intro v2 w2 hown2 hg2 hn2; obtain ⟨a2, c2, hv2, _, _, hf2⟩ := owns_form hown2; rw [List.length_append] at hv2; obtain ⟨g2, rfl⟩ := hf2 0 (by simp); subst hv2; have hbW : Below w1.heap.size w1 (w1.alloc (.cells #[.string key, .int .i64 0, .int .i64 0, .slice none 0 0] 269)).drew := ((Below.refl _ w1).alloc (Nat.le_refl _) _).drew; have hp2 : w2.cell? ⟨go, oo + 3, none⟩ = some (.slice a l.length cap) := hg2.cell (keep hbW hp) HNE.out; have hf2 : w2.frozen? ⟨go, oo + 3, none⟩ = false := (World.frozen?_of_block (a := ⟨go, oo + 3, none⟩) (hg2.block go (by simp; omega) HNE.out)).trans ((hbW.frozen (p := ⟨go, oo + 3, none⟩) (by show go < _; omega)).trans hfz); have HG2 := hid hg2; clear hg2; have HN2 := hid hn2; clear hn2; have HO2 := hid hown2; clear hown2; have HBW := hid hbW; clear hbW)
  all_goals
    obtain ⟨w3, hw3⟩ : ∃ w3, w3 = w2.setCell ⟨go, oo + 3, none⟩ (.slice (some ⟨g2, 0, none⟩) (l.length + 1) c2) := ⟨_, rfl⟩
    rw [← hw3]
    have M := Made.mk (key := key) HGO.out HOO.out HH.out HB1.out HBW.out HG2.out HO2.out rfl HN2.out hw3
    clear hw3 hp2 hf2
    have hp3 := M.slots3
    have c3 := M.vals3
    have p2 := M.cell3 P2.out (Nat.le_refl _)
    have p0 := M.cell3 P0.out (Nat.le_refl _)
    have p1 := M.cell3 P1.out (Nat.le_refl _)
    have p11 := M.cell3 P11.out (Nat.le_refl _)
    have p12 := M.cell3 P12.out (Nat.le_refl _)
    have p13 := M.cell3 P13.out (Nat.le_refl _)
    have hw3l : w.heap.size < w3.heap.size := World.block_lt_of_cell? w3 _ p2
    have hgl3 : go < w3.heap.size := World.block_lt_of_cell? w3 _ hp3
    have hg2l : g2 < w3.heap.size := World.block_lt_of_cell? w3 _ c3
    have hfz3 : w3.frozen? ⟨g2, l.length * 4 + 3, none⟩ = false := World.ownsRow.frozenAt M.own3.form _
    have HM := hid M; clear M
    clear hp hq hfz p6
    go_wp2
    refine wp_loop_rounds 1 ?_
    rw [rounds_succ]
    by_cases hk3 : kind = 3
    · subst hk3
      go_wp2_with (at_builtin; go_must (refine app_held rfl (.tmp 81) (.tmp 87) rfl w3.heap.size (.slice none 0 0) [] rfl ?h1 w3.heap.size 1 ⟨(i1, i2), n, (v1, v2)⟩ rfl ?h2 ?h4 ?h5 ?_; (case h1 => exact World.ownsRow_nil _ _ _ _); (case h2 => exact cells_held (by simp [go_sem]) (by simp [go_sem]) (by simp [go_sem]) (by simp [go_sem]) (by simp [go_sem])); (case h4 => simp); (case h5 => simp); intro v' w4 hown4 hg4; have hb4 : Below w3.heap.size w3 w4 := ((Below.refl _ w3).alloc (Nat.le_refl _) _).grown hg4 (by simp) (fun k hk => by cases hk); clear hg4; obtain ⟨a3, c3', hv3, _, _, _⟩ := owns_form hown4; generalize ([] ++ [(⟨(i1, i2), n, (v1, v2)⟩ : PHeld)]).length = n3 at hv3; subst hv3; replace hp3 := keep hb4 hp3; replace c3 := keep hb4 c3; have hfz4 : w4.frozen? ⟨g2, l.length * 4 + 3, none⟩ = false := (hb4.frozen (p := ⟨g2, l.length * 4 + 3, none⟩) hg2l).trans hfz3; have HB4 := hid hb4; clear hb4; have HN := hid hown4; clear hown4))
      go_end0
      exact ⟨rfl, _, HM.out.upd HB4.out (by have := HN.out; unfold newHelds; rw [if_pos rfl]; exact owns_mono this (Nat.zero_le _))⟩
    · go_wp2
      go_end0
      exact ⟨rfl, _, HM.out.upd (Below.refl _ _) (by unfold newHelds; rw [if_neg hk3]; exact held_nil _)⟩

end Go.Proofs.YtnkpogjiiohapaaGreatDoor

/-! RefK: The document of the reference in memory; what an update of one object, or one object more, leaves of it. -/
namespace Go.Proofs.YtnkpogjiiohapaaGreatDoor
open Go.RowKit

structure PSlot where
  key : ByteArray
  id : PId
  hs : List PHeld
structure PObj where
  id : PId
  list : Bool
  ss : List PSlot
def CSlot.p (s : CSlot) : PSlot := ⟨s.key, s.id, s.hs⟩
def CObj.p (o : CObj) : PObj := ⟨o.id, o.list, o.ss.map CSlot.p⟩

/-- The document in memory: its block d, all that may be written from block B on; t bounds what it has. -/
structure isDoc (B t : Nat) (w : World) (d : Nat) (v : Value) (os : List CObj) : Prop where
  hd : w.heap[d]? = some (.cells #[v] 277 (0, 0))
  hB : B ≤ d
  ho : isObjs B w v os
  hn : os.length ≤ t + 1
  hs : ∀ o ∈ os, o.ss.length ≤ t ∧ ∀ s ∈ o.ss, s.hs.length ≤ t

theorem isDoc.cell {B t : Nat} {w : World} {d : Nat} {v : Value} {os : List CObj} (h : isDoc B t w d v os) : w.cell? ⟨d, 0, none⟩ = some v := by simp [World.cell?, h.hd]
theorem isDoc.fz {B t : Nat} {w : World} {d : Nat} {v : Value} {os : List CObj} (h : isDoc B t w d v os) : w.frozen? ⟨d, 0, none⟩ = false := by simp [World.frozen?, h.hd]
theorem isDoc.lt {B t : Nat} {w : World} {d : Nat} {v : Value} {os : List CObj} (h : isDoc B t w d v os) : d < w.heap.size := (Array.getElem?_eq_some_iff.1 h.hd).1
theorem isDoc.keep {B t : Nat} {w w' : World} {d : Nat} {v : Value} {os : List CObj} (h : isDoc B t w d v os) (hb : Below w.heap.size w w') : isDoc B t w' d v os :=
  ⟨by rw [hb.block d h.lt]; exact h.hd, h.hB, h.ho.keep hb, h.hn, h.hs⟩
theorem isDoc.mono {B t t' : Nat} {w : World} {d : Nat} {v : Value} {os : List CObj} (h : isDoc B t w d v os) (ht : t ≤ t') : isDoc B t' w d v os :=
  ⟨h.hd, h.hB, h.ho, by have := h.hn; omega, fun o ho => ⟨by have := (h.hs o ho).1; omega, fun s hs => by have := (h.hs o ho).2 s hs; omega⟩⟩

theorem flat_setO {l : List CObj} {k : Nat} (hk : k < l.length) (vv : Value) (ss : List CSlot) :
    (l.set k ⟨l[k].id, l[k].list, vv, ss⟩).flatMap objC = (l.flatMap objC).set (k * 4 + 3) vv := by
  induction l generalizing k with
  | nil => simp at hk
  | cons s l ih =>
    cases k with
    | zero => simp [objC, List.flatMap_cons]
    | succ k =>
      have := ih (k := k) (by simpa using hk)
      simp only [List.set_cons_succ, List.flatMap_cons, List.getElem_cons_succ]
      rw [this]
      have e : (k + 1) * 4 + 3 = (objC s).length + (k * 4 + 3) := by simp [objC]; omega
      rw [e, List.set_append_right _ _ (by omega)]
      congr 1
      congr 1
      omega

/-- The row of objects, taken apart at object k. -/
theorem isDoc.row {B t : Nat} {w : World} {d : Nat} {v : Value} {os : List CObj} (h : isDoc B t w d v os) {k : Nat} (hk : k < os.length) :
    ∃ go cap curO, v = .slice (some ⟨go, 0, none⟩) os.length cap ∧ B ≤ go ∧ w.heap[go]? = some (.cells curO 272 (0, 0)) ∧ os.length ≤ cap ∧ cap ≤ maxLen ∧ curO.size = cap * 4 ∧ curO.toList.take (os.length * 4) = os.flatMap objC ∧
      curO[k * 4 + 2]? = some (.bool os[k].list) ∧ curO[k * 4 + 3]? = some os[k].slots := by
  rcases h.ho.1.2 with ⟨_, e⟩ | ⟨go, cap, cur, e1, hb, hg, h1, h2, h3, h4⟩
  · omega
  · refine ⟨go, cap, cur, e1, hb, hg, h1, h2, h3, h4, ?_, ?_⟩
    · have := flat_get objC 4 (fun _ => rfl) os k 2 hk (by omega)
      rw [← h4, List.getElem?_take, if_pos (by omega)] at this
      simpa [objC] using this
    · have := flat_get objC 4 (fun _ => rfl) os k 3 hk (by omega)
      rw [← h4, List.getElem?_take, if_pos (by omega)] at this
      simpa [objC] using this

theorem slots_block {B : Nat} {w w' : World} {v : Value} {l : List CSlot} (h : isSlots B w v l) (h1 : ∀ g, v.ownBlock = some g → w'.heap[g]? = w.heap[g]?)
    (h2 : ∀ (g : Nat) (cur : Array Value), w.heap[g]? = some (.cells cur 243 (0, 0)) → w'.heap[g]? = w.heap[g]?) : isSlots B w' v l := by
  refine ⟨⟨h.1.1, ?_⟩, fun s hs => held_block (h.2 s hs) h2⟩
  rcases h.1.2 with hn | ⟨g, cap, cur, rfl, hb, hg, rest⟩
  · exact .inl hn
  · exact .inr ⟨g, cap, cur, rfl, hb, by rw [h1 g rfl]; exact hg, rest⟩

theorem objs_distinct {l : List CObj} {k : Nat} (hk : k < l.length) {v' : Value} {ss : List CSlot} {N : Nat} (hd : ∀ (i j : Nat) (hi : i < l.length) (hj : j < l.length), i ≠ j → l[i].slots.ownBlock = none ∨ l[i].slots.ownBlock ≠ l[j].slots.ownBlock)
    (hlt : ∀ o ∈ l, ∀ g, o.slots.ownBlock = some g → g < N) (hv : v'.ownBlock = l[k].slots.ownBlock ∨ ∀ g, v'.ownBlock = some g → N ≤ g) :
    ∀ (i j : Nat) (hi : i < (l.set k ⟨l[k].id, l[k].list, v', ss⟩).length) (hj : j < (l.set k ⟨l[k].id, l[k].list, v', ss⟩).length), i ≠ j →
      (l.set k ⟨l[k].id, l[k].list, v', ss⟩)[i].slots.ownBlock = none ∨ (l.set k ⟨l[k].id, l[k].list, v', ss⟩)[i].slots.ownBlock ≠ (l.set k ⟨l[k].id, l[k].list, v', ss⟩)[j].slots.ownBlock := by
  intro i j hi hj hij
  rw [List.length_set] at hi hj
  by_cases hki : k = i
  · subst hki
    rw [List.getElem_set_self, List.getElem_set_ne (by omega)]
    rcases hv with hv | hv
    · show v'.ownBlock = none ∨ v'.ownBlock ≠ _
      rw [hv]; exact hd k j hi hj hij
    · cases hvb : v'.ownBlock with
      | none => exact .inl rfl
      | some g =>
        right
        intro e
        have := hlt l[j] (List.getElem_mem _) g e.symm
        have := hv g hvb
        omega
  · by_cases hkj : k = j
    · subst hkj
      rw [List.getElem_set_self, List.getElem_set_ne (by omega)]
      rcases hv with hv | hv
      · show _ ∨ _ ≠ v'.ownBlock
        rw [hv]; exact hd i k hi hj hij
      · cases hlb : l[i].slots.ownBlock with
        | none => exact .inl rfl
        | some g =>
          right
          intro e
          have := hlt l[i] (List.getElem_mem _) g hlb
          have := hv g (show v'.ownBlock = some g from e.symm)
          omega
    · rw [List.getElem_set_ne (by omega), List.getElem_set_ne (by omega)]
      exact hd i j hi hj hij

/-- Below B nothing has turned; and no block of cells of another type than the document's own. -/
structure DFrame (B : Nat) (w w' : World) : Prop where
  below : Below B w w'
  types : ∀ (g : Nat) (c : Array Value) (e : TypeId) (f : Nat × Nat), w.heap[g]? = some (.cells c e f) → e ≠ 277 → e ≠ 272 → e ≠ 269 → w'.heap[g]? = w.heap[g]?
theorem DFrame.of_below {B : Nat} {w w' : World} (h : Below w.heap.size w w') (hB : B ≤ w.heap.size) : DFrame B w w' :=
  ⟨h.mono hB, fun g _ _ _ hg _ _ _ => h.block g (Array.getElem?_eq_some_iff.1 hg).1⟩
theorem DFrame.trans {B : Nat} {a b c : World} (h : DFrame B a b) (k : DFrame B b c) : DFrame B a c :=
  ⟨h.below.trans k.below, fun g cs e f hg h1 h2 h3 => by
    have hab := h.types g cs e f hg h1 h2 h3
    rw [k.types g cs e f (by rw [hab]; exact hg) h1 h2 h3, hab]⟩
/-- A row of another type stays. -/
theorem DFrame.row {B : Nat} {w w' : World} (h : DFrame B w w') {base : Nat} {e : TypeId} {size : Nat} {v : Value} {n : Nat} {xs : List Value} (ho : w.ownsRow base e size v n xs) (h1 : e ≠ 277) (h2 : e ≠ 272) (h3 : e ≠ 269) : w'.ownsRow base e size v n xs := by
  refine ⟨ho.1, ?_⟩
  rcases ho.2 with hn | ⟨g, cap, cur, rfl, hb, hg, rest⟩
  · exact .inl hn
  · exact .inr ⟨g, cap, cur, rfl, hb, by rw [h.types g _ _ _ hg h1 h2 h3]; exact hg, rest⟩

/-- AN OBJECT HAS OTHER SLOTS. -/
theorem isDoc.upd {B t : Nat} {w w' : World} {d : Nat} {v : Value} {os : List CObj} (h : isDoc B t w d v os) {k : Nat} (hk : k < os.length) {go cap : Nat} {curO : Array Value} (hv : v = .slice (some ⟨go, 0, none⟩) os.length cap)
    (hgo : w.heap[go]? = some (.cells curO 272 (0, 0))) {l' : List CSlot} (hu : ObjUpd B w w' go (k * 4) curO os[k].slots l') (hl : l'.length ≤ t + 1) (hh : ∀ s ∈ l', s.hs.length ≤ t + 1) :
    (∃ v', isDoc B (t + 1) w' d v (os.set k ⟨os[k].id, os[k].list, v', l'⟩)) ∧ DFrame B w w' := by
  subst hv
  obtain ⟨v', hsl, hgo', hnew⟩ := hu.ex
  have hslots : isSlots B w os[k].slots os[k].ss := h.ho.2.1 _ (List.getElem_mem _)
  have hgoB : B ≤ go := (World.ownsRow.lt h.ho.1 go rfl).1
  have hdlt := h.lt
  have hdgo : d ≠ go := by intro e; subst e; exact absurd (cells_type h.hd hgo) (by decide)
  have hdsl : some d ≠ os[k].slots.ownBlock := by
    intro e; obtain ⟨c, hc⟩ := own_type hslots.1 e.symm; exact absurd (cells_type h.hd hc) (by decide)
  have hlt : ∀ o ∈ os, ∀ g, o.slots.ownBlock = some g → g < w.heap.size := fun o ho g hg => (World.ownsRow.lt (h.ho.2.1 o ho).1 g hg).2
  have hheld : ∀ (g : Nat) (cur : Array Value), w.heap[g]? = some (.cells cur 243 (0, 0)) → w'.heap[g]? = w.heap[g]? := by
    intro g cur hg
    refine hu.other g (Array.getElem?_eq_some_iff.1 hg).1 ?_ ?_
    · intro e; subst e; exact absurd (cells_type hgo hg) (by decide)
    · intro e; obtain ⟨c, hc⟩ := own_type hslots.1 e.symm; exact absurd (cells_type hc hg) (by decide)
  refine ⟨⟨v', ?_, h.hB, ⟨?_, ?_, ?_⟩, ?_, ?_⟩, ?_⟩
  · rw [hu.other d hdlt hdgo hdsl]; exact h.hd
  · have h0 := h.ho.1
    rcases h0.2 with ⟨e1, _⟩ | ⟨g, c, cur, e1, hb, hg, h1, h2, h3, h4⟩
    · injection e1 with e1; cases e1
    · injection e1 with e1 _ e2; injection e1 with e1; injection e1 with e1; subst e1; subst e2
      have ec : cur = curO := by rw [hgo] at hg; injection hg with hg; injection hg with hg; exact hg.symm
      subst ec
      refine ⟨?_, .inr ⟨go, cap, _, by rw [List.length_set], hb, hgo', ?_, h2, ?_, ?_⟩⟩
      · rw [flat_len objC 4 (fun _ => rfl)]
      · rw [List.length_set]; exact h1
      · simpa using h3
      · rw [flat_setO hk, List.length_set, Array.toList_setIfInBounds, ← h4, List.take_set]
  · intro o ho
    obtain ⟨j, hj, rfl⟩ := List.mem_iff_getElem.1 ho
    rw [List.length_set] at hj
    by_cases hjk : k = j
    · subst hjk; rw [List.getElem_set_self]; exact hsl
    · rw [List.getElem_set_ne hjk]
      have hoj := h.ho.2.1 os[j] (List.getElem_mem _)
      refine slots_block hoj (fun g hg => ?_) hheld
      refine hu.other g (hlt _ (List.getElem_mem _) g hg) ?_ ?_
      · intro e; subst e; obtain ⟨c, hc⟩ := own_type hoj.1 hg; exact absurd (cells_type hgo hc) (by decide)
      · intro e
        rcases h.ho.2.2 j k hj hk (Ne.symm hjk) with hx | hx
        · rw [hx] at hg; cases hg
        · exact hx (by rw [hg, e])
  · exact objs_distinct hk h.ho.2.2 hlt hnew
  · rw [List.length_set]; have := h.hn; omega
  · intro o ho
    rcases List.mem_or_eq_of_mem_set ho with ho | rfl
    · exact ⟨by have := (h.hs o ho).1; omega, fun s hs => by have := (h.hs o ho).2 s hs; omega⟩
    · exact ⟨hl, hh⟩
  · refine ⟨⟨hu.os, hu.tape, hu.output, hu.size, fun i hi => hu.other i (by have := h.hB; omega) (by omega) (fun e => by have := (World.ownsRow.lt hslots.1 i e.symm).1; omega)⟩, fun g c e f hg h1 h2 h3 => hu.other g (Array.getElem?_eq_some_iff.1 hg).1 (fun e' => ?_) (fun e' => ?_)⟩
    · subst e'; exact h2 (cells_type hg hgo)
    · obtain ⟨c', hc'⟩ := own_type hslots.1 e'.symm; exact h3 (cells_type hg hc')

end Go.Proofs.YtnkpogjiiohapaaGreatDoor

/-! RefL: laid and valued, all their ways together, against plain functions on slots. -/
namespace Go.Proofs.YtnkpogjiiohapaaGreatDoor
open Go.RowKit

theorem firstI_map {α β : Type} (f : α → β) (p : β → Bool) (l : List α) : firstI p (l.map f) = firstI (fun x => p (f x)) l := by
  unfold firstI; rw [List.findIdx?_map]; rfl

def pslotIs (key : ByteArray) (x : PId) (s : PSlot) : Bool := (s.key.toList == key.toList) && idEq s.id.1 s.id.2 x.1 x.2
def pslot0 (key : ByteArray) (x : PId) : PSlot := ⟨key, x, []⟩
theorem first_p (key : ByteArray) (x : PId) (l : List CSlot) : firstI (pslotIs key x) (l.map CSlot.p) = firstI (slotIs key x) l := by
  rw [firstI_map]; rfl

def pinsAt (l : List PSlot) (n : Nat) (s : PSlot) : List PSlot := l.take n ++ s :: l.drop n
def laidP (l : List PSlot) (b x : PId) : List PSlot :=
  if idEq b.1 b.2 0 0 then pinsAt l 0 (pslot0 ⟨#[]⟩ x)
  else if firstI (pslotIs ⟨#[]⟩ b) l < 0 then l
  else pinsAt l ((firstI (pslotIs ⟨#[]⟩ b) l).toNat + 1) (pslot0 ⟨#[]⟩ x)

theorem insAt_p (l : List CSlot) (n : Nat) (key : ByteArray) (x : PId) : (insAt l n (slot0 key x)).map CSlot.p = pinsAt (l.map CSlot.p) n (pslot0 key x) := by
  simp [insAt, pinsAt, slot0, pslot0, CSlot.p, List.map_take, List.map_drop]
theorem laid_p (l : List CSlot) (b x : PId) : (laidL l b x).map CSlot.p = laidP (l.map CSlot.p) b x := by
  unfold laidL laidP
  rw [first_p]
  split
  · exact insAt_p _ _ _ _
  · split
    · rfl
    · exact insAt_p _ _ _ _
theorem insAt_mem {l : List CSlot} {n : Nat} {s y : CSlot} (h : y ∈ insAt l n s) : y ∈ l ∨ y = s := by
  unfold insAt at h
  rw [List.mem_append, List.mem_cons] at h
  rcases h with h | h | h
  · exact .inl (List.mem_of_mem_take h)
  · exact .inr h
  · exact .inl (List.mem_of_mem_drop h)
theorem insAt_len (l : List CSlot) (n : Nat) (s : CSlot) : (insAt l n s).length = l.length + 1 := by
  unfold insAt; rw [List.length_append, List.length_cons, List.length_take, List.length_drop]; omega
theorem laid_sz (l : List CSlot) (b x : PId) : (laidL l b x).length ≤ l.length + 1 ∧ ∀ y ∈ laidL l b x, y ∈ l ∨ y.hs = [] := by
  unfold laidL
  split
  · exact ⟨by rw [insAt_len]; omega, fun y hy => (insAt_mem hy).imp id fun e => by rw [e]; rfl⟩
  · split
    · exact ⟨by omega, fun y hy => .inl hy⟩
    · exact ⟨by rw [insAt_len]; omega, fun y hy => (insAt_mem hy).imp id fun e => by rw [e]; rfl⟩

theorem laid_any (B go oo : Nat) (curO : Array Value) (v : Value) (l : List CSlot) (b1 b2 x1 x2 : Int) (w : World) (hgo : w.heap[go]? = some (.cells curO 272 (0, 0))) (hoo : curO[oo + 3]? = some v)
    (h : isSlots B w v l) (hl : l.length < 1000000) (hB : B ≤ w.heap.size) :
    Calls Tryz.prog 214 #[.pointer (some ⟨go, oo, none⟩), .agg #[.int .i64 b1, .int .i64 b2], .agg #[.int .i64 x1, .int .i64 x2]] w fun e w' =>
      e = .returned (.tuple #[]) ∧ ObjUpd B w w' go oo curO v (laidL l (b1, b2) (x1, x2)) := by
  cases hz : idEq b1 b2 0 0
  · have hlt := firstI_lt (slotIs ⟨#[]⟩ (b1, b2)) l
    have hge := firstI_ge (slotIs ⟨#[]⟩ (b1, b2)) l
    by_cases hn : firstI (slotIs ⟨#[]⟩ (b1, b2)) l < 0
    · have e : laidL l (b1, b2) (x1, x2) = l := by unfold laidL; simp [hz, hn]
      rw [e]
      exact laid_none B go oo curO v l b1 b2 x1 x2 w hgo hoo h hl hz (by omega)
    · obtain ⟨k, hk⟩ := Int.eq_ofNat_of_zero_le (a := firstI (slotIs ⟨#[]⟩ (b1, b2)) l) (by omega)
      have e : laidL l (b1, b2) (x1, x2) = insAt l (k + 1) (slot0 ⟨#[]⟩ (x1, x2)) := by unfold laidL; simp [hz, hk]; omega
      rw [e]
      exact laid_some B go oo curO v l b1 b2 x1 x2 k w hgo hoo h hl hB hz hk
  · rw [idEq_true] at hz
    injection hz with e1 e2
    subst e1; subst e2
    exact laid_zero B go oo curO v l x1 x2 w hgo hoo h hl hB

def valuedP (l : List PSlot) (list : Bool) (key : ByteArray) (x : PId) (old : List PId) (kind : Int) (y : PHeld) : List PSlot :=
  if firstI (pslotIs key x) l < 0 then
    if list then l else l ++ [⟨key, (0, 0), newHelds old [] kind y⟩]
  else l.modify (firstI (pslotIs key x) l).toNat fun s => ⟨s.key, s.id, newHelds old s.hs kind y⟩

set_option maxRecDepth 1000000 in
set_option maxHeartbeats 1600000 in
theorem valued_list (B go oo : Nat) (curO : Array Value) (v : Value) (l : List CSlot)
    (i1 i2 kind ob1 ob2 e1 e2 be1 be2 n v1 v2 : Int) (lst : Bool) (key : ByteArray) (vold : Value) (w : World)
    (hgo : w.heap[go]? = some (.cells curO 272 (0, 0))) (hoo : curO[oo + 3]? = some v) (hol : curO[oo + 2]? = some (.bool true)) (h : isSlots B w v l)
    (hvo : ∃ ao no co, vold = .slice ao no co) (hfi : firstI (slotIs key (e1, e2)) l = -1) :
    Calls Tryz.prog 215 #[.pointer (some ⟨go, oo, none⟩), .agg #[.int .i64 i1, .int .i64 i2, .int .i64 kind, .bool lst, .int .i64 ob1, .int .i64 ob2, .string key, .int .i64 e1, .int .i64 e2, .int .i64 be1, .int .i64 be2, .int .i64 n, .int .i64 v1, .int .i64 v2, vold]] w fun e w' =>
      e = .returned (.tuple #[]) ∧ ObjUpd B w w' go oo curO v l := by
  obtain ⟨a, cap, rfl, hlc, hcm, hform⟩ := owns_form h.1
  obtain ⟨ao, no, co, rfl⟩ := hvo
  have hp : w.cell? ⟨go, oo + 3, none⟩ = some (.slice a l.length cap) := by simp [World.cell?, hgo, hoo]
  have hq : w.cell? ⟨go, oo + 2, none⟩ = some (.bool true) := by simp [World.cell?, hgo, hol]
  clear hform
  have HP0 := hid hp
  have HQ0 := hid hq
  have HH := hid h; clear h
  have HGO := hid hgo; clear hgo
  have HOO := hid hoo; clear hoo
  have hgl : go < w.heap.size := World.block_lt_of_cell? w _ hp
  go_enter Tryz.func215, Tryz.ntmps215
  go_wp2_with (go_at_call 172; go_must (refine (slot_any B go oo (.slice a l.length cap) l key e1 e2 _ ?ha ?hb).mono ?_; (case ha => exact keep ((Below.refl w.heap.size w).alloc (Nat.le_refl _) _) HP0.out); (case hb => exact HH.out.keep ((Below.refl w.heap.size w).alloc (Nat.le_refl _) _)); rintro e w1 ⟨rfl, hb0⟩; have hbb : Below w.heap.size w w1 := ((Below.refl w.heap.size w).alloc (Nat.le_refl _) _).trans (hb0.mono (by simp)); clear hb0; replace hp := keep hbb HP0.out; replace hq := keep hbb HQ0.out; have HB1 := hid (hbb); clear hbb))
  refine bodyPost_ret (results_none rfl _ _ _) rfl ?_
  exact ⟨rfl, ObjUpd.same HGO.out HOO.out HH.out HB1.out⟩

theorem modify_set {α : Type} (f : α → α) (l : List α) (k : Nat) (h : k < l.length) : l.modify k f = l.set k (f l[k]) := by
  apply List.ext_getElem?
  intro j
  rw [List.getElem?_modify, List.getElem?_set]
  by_cases e : k = j
  · subst e; simp [h]
  · simp [e]

theorem newHelds_len (old : List PId) (hs : List PHeld) (kind : Int) (y : PHeld) : (newHelds old hs kind y).length ≤ hs.length + 1 := by
  unfold newHelds
  have : (unnamed old hs).length ≤ hs.length := List.length_filter_le _ _
  rw [List.length_append]
  split <;> simp <;> omega

theorem valued_any (B t go oo : Nat) (curO : Array Value) (v : Value) (l : List CSlot) (hll : l.length ≤ t) (hht : ∀ s ∈ l, s.hs.length ≤ t) (htt : t < 100000) (isL : Bool)
    (i1 i2 kind ob1 ob2 e1 e2 be1 be2 n v1 v2 : Int) (lst : Bool) (key : ByteArray) (vold : Value) (old : List PId) (w : World)
    (hgo : w.heap[go]? = some (.cells curO 272 (0, 0))) (hoo : curO[oo + 3]? = some v) (hol : curO[oo + 2]? = some (.bool isL)) (h : isSlots B w v l) (hB : B ≤ w.heap.size) (hold : isIds w vold old) :
    Calls Tryz.prog 215 #[.pointer (some ⟨go, oo, none⟩), .agg #[.int .i64 i1, .int .i64 i2, .int .i64 kind, .bool lst, .int .i64 ob1, .int .i64 ob2, .string key, .int .i64 e1, .int .i64 e2, .int .i64 be1, .int .i64 be2, .int .i64 n, .int .i64 v1, .int .i64 v2, vold]] w fun e w' =>
      e = .returned (.tuple #[]) ∧ ∃ l', ObjUpd B w w' go oo curO v l' ∧ l'.map CSlot.p = valuedP (l.map CSlot.p) isL key (e1, e2) old kind ⟨(i1, i2), n, (v1, v2)⟩ ∧ l'.length ≤ t + 1 ∧ ∀ s ∈ l', s.hs.length ≤ t + 1 := by
  have hlt := firstI_lt (slotIs key (e1, e2)) l
  have hge := firstI_ge (slotIs key (e1, e2)) l
  by_cases hn : firstI (slotIs key (e1, e2)) l < 0
  · cases isL with
    | true =>
      obtain ⟨ao, co, rfl, _⟩ := owns_form hold
      refine (valued_list B go oo curO v l i1 i2 kind ob1 ob2 e1 e2 be1 be2 n v1 v2 lst key _ w hgo hoo hol h ⟨_, _, _, rfl⟩ (by omega)).mono fun e w' ⟨he, hu⟩ => ⟨he, l, hu, ?_, by omega, fun s hs => by have := hht s hs; omega⟩
      unfold valuedP; rw [first_p, if_pos hn]; rfl
    | false =>
      refine (valued_new B go oo curO v l (by omega) i1 i2 kind ob1 ob2 e1 e2 be1 be2 n v1 v2 lst key vold old w hgo hoo hol h hB hold (by omega)).mono fun e w' ⟨he, vv, hu⟩ => ⟨he, _, hu, ?_, by simp; omega, fun s hs => ?_⟩
      · unfold valuedP; rw [first_p, if_pos hn]; simp [CSlot.p]
      · rcases List.mem_append.1 hs with hs | hs
        · have := hht s hs; omega
        · simp at hs; subst hs
          have := newHelds_len old [] kind ⟨(i1, i2), n, (v1, v2)⟩
          simp at this ⊢; omega
  · obtain ⟨k, hk⟩ := Int.eq_ofNat_of_zero_le (a := firstI (slotIs key (e1, e2)) l) (by omega)
    have hkl : k < l.length := by omega
    have hhk := hht l[k] (List.getElem_mem _)
    refine (valued_old B go oo curO v l k hkl l[k].hs rfl (by omega) i1 i2 kind ob1 ob2 e1 e2 be1 be2 n v1 v2 lst key vold old w hgo hoo h hB hold hk).mono fun e w' ⟨he, vv, hu⟩ => ⟨he, _, hu, ?_, by rw [List.length_set]; omega, fun s hs => ?_⟩
    · unfold valuedP; rw [first_p, if_neg hn, hk]
      simp only [Int.toNat_natCast, Int.ofNat_eq_natCast]
      rw [List.map_set, modify_set _ _ _ (by simpa using hkl)]
      simp [CSlot.p]
    · rcases List.mem_or_eq_of_mem_set hs with hs | rfl
      · have := hht s hs; omega
      · have := newHelds_len old l[k].hs kind ⟨(i1, i2), n, (v1, v2)⟩
        simp; omega

end Go.Proofs.YtnkpogjiiohapaaGreatDoor

/-! RefM: The contract of the reference's does: an operation is done as the plain function says. -/
namespace Go.Proofs.YtnkpogjiiohapaaGreatDoor
open Go.RowKit

structure POp where
  id : PId
  kind : Int
  list : Bool
  object : PId
  key : ByteArray
  element : PId
  behind : PId
  num : Int
  obj : PId
  old : List PId

def POp.held (p : POp) : PHeld := ⟨p.id, p.num, p.obj⟩
def pobjIs (x : PId) (o : PObj) : Bool := idEq o.id.1 o.id.2 x.1 x.2
def doesAt (p : POp) (o : PObj) : PObj :=
  if p.kind = 2 then (if o.list then ⟨o.id, o.list, laidP o.ss p.behind p.id⟩ else o)
  else if o.list = p.key.toList.isEmpty then ⟨o.id, o.list, valuedP o.ss o.list p.key p.element p.old p.kind p.held⟩ else o
def doesP (d : List PObj) (p : POp) : List PObj :=
  if p.kind = 1 then d ++ [⟨p.id, p.list, []⟩]
  else if firstI (pobjIs p.object) d < 0 then d
  else d.modify (firstI (pobjIs p.object) d).toNat (doesAt p)

theorem first_o (x : PId) (os : List CObj) : firstI (pobjIs x) (os.map CObj.p) = firstI (objIs x) os := by
  rw [firstI_map]; rfl

/-- An operation as a value. -/
def opV (p : POp) (vold : Value) : Value := .agg #[.int .i64 p.id.1, .int .i64 p.id.2, .int .i64 p.kind, .bool p.list, .int .i64 p.object.1, .int .i64 p.object.2, .string p.key, .int .i64 p.element.1, .int .i64 p.element.2, .int .i64 p.behind.1, .int .i64 p.behind.2, .int .i64 p.num, .int .i64 p.obj.1, .int .i64 p.obj.2, vold]

/-- ONE OBJECT MORE. -/
theorem isDoc.more {B t : Nat} {w W w2 : World} {d : Nat} {v v2 : Value} {os : List CObj} {x : PId} {lst : Bool} (h : isDoc B t w d v os) (hbW : Below w.heap.size w W) (hg : W.grownBy w2 v.ownBlock)
    (hown : w2.ownsRow B 272 4 v2 (os.length + 1) ((os ++ [(⟨x, lst, .slice none 0 0, []⟩ : CObj)]).flatMap objC)) :
    isDoc B (t + 1) (w2.setCell ⟨d, 0, none⟩ v2) d v2 (os ++ [(⟨x, lst, .slice none 0 0, []⟩ : CObj)]) ∧ DFrame B w (w2.setCell ⟨d, 0, none⟩ v2) := by
  have hW := h.keep hbW
  have hdv : some d ≠ v.ownBlock := by
    intro e; obtain ⟨c, hc⟩ := own_type h.ho.1 e.symm; exact absurd (cells_type h.hd hc) (by decide)
  have hd2 : w2.heap[d]? = some (.cells #[v] 277 (0, 0)) := by rw [hg.block d hW.lt hdv]; exact hW.hd
  have hoth : ∀ i, i ≠ d → (w2.setCell ⟨d, 0, none⟩ v2).heap[i]? = w2.heap[i]? := fun i hi => Below.heap_setCell _ _ _ _ hi
  have hvtype : ∀ g, v.ownBlock = some g → ∃ c, W.heap[g]? = some (.cells c 272 (0, 0)) := fun g hg => own_type hW.ho.1 hg
  have hblk : ∀ (g : Nat) (c : Array Value) (e : TypeId), W.heap[g]? = some (.cells c e (0, 0)) → e ≠ 272 → e ≠ 277 → (w2.setCell ⟨d, 0, none⟩ v2).heap[g]? = W.heap[g]? := by
    intro g c e hge h1 h2
    have hgd : g ≠ d := by intro e'; subst e'; exact h2 (cells_type hge hW.hd)
    rw [hoth g hgd, hg.block g (Array.getElem?_eq_some_iff.1 hge).1 (fun e' => by obtain ⟨c', hc'⟩ := hvtype g e'.symm; exact h1 (cells_type hge hc'))]
  refine ⟨⟨?_, h.hB, ⟨?_, ?_, ?_⟩, ?_, ?_⟩, ?_⟩
  · simp [World.setCell, Array.getElem?_modify, hd2]
  · refine ⟨by simpa using hown.1, ?_⟩
    rcases hown.2 with ⟨e1, e2⟩ | ⟨g, cap, cur, e1, hb, hgg, rest⟩
    · omega
    · refine .inr ⟨g, cap, cur, by simpa using e1, hb, ?_, by simpa using rest⟩
      rw [hoth g (by intro e; subst e; exact absurd (cells_type hgg hd2) (by decide))]; exact hgg
  · intro o ho
    rcases List.mem_append.1 ho with ho | ho
    · refine slots_block (hW.ho.2.1 o ho) (fun g hg' => ?_) (fun g c hc => hblk g c _ hc (by decide) (by decide))
      obtain ⟨c, hc⟩ := own_type (hW.ho.2.1 o ho).1 hg'
      exact hblk g c _ hc (by decide) (by decide)
    · simp at ho; subst ho
      exact ⟨World.ownsRow_nil _ _ _ _, fun s hs => by simp at hs⟩
  · intro i j hi hj hij
    rw [List.length_append, List.length_singleton] at hi hj
    by_cases hil : i < os.length
    · by_cases hjl : j < os.length
      · rw [List.getElem_append_left hil, List.getElem_append_left hjl]; exact h.ho.2.2 i j hil hjl hij
      · rw [List.getElem_append_left hil]
        have : j = os.length := by omega
        subst this
        cases hb : os[i].slots.ownBlock with
        | none => exact .inl rfl
        | some g => right; simp [Value.ownBlock]
    · have : i = os.length := by omega
      subst this
      left; simp [Value.ownBlock]
  · rw [List.length_append]; have := h.hn; simp; omega
  · intro o ho
    rcases List.mem_append.1 ho with ho | ho
    · exact ⟨by have := (h.hs o ho).1; omega, fun s hs => by have := (h.hs o ho).2 s hs; omega⟩
    · simp at ho; subst ho; exact ⟨by simp, fun s hs => by simp at hs⟩
  · have hBd := h.hB
    refine ⟨⟨hg.os.trans hbW.os, hg.tape.trans hbW.tape, hg.output.trans hbW.output, ?_, fun i hi => ?_⟩, fun g c e f hgg h1 h2 h3 => ?_⟩
    · have := hg.size; have := hbW.size; simp [World.setCell]; omega
    · have hil : i < w.heap.size := by have := h.lt; omega
      rw [hoth i (by omega), hg.block i (by have := hbW.size; omega) (fun e => by have := (World.ownsRow.lt h.ho.1 i e.symm).1; omega), hbW.block i hil]
    · have hgl := (Array.getElem?_eq_some_iff.1 hgg).1
      have hgW : W.heap[g]? = some (.cells c e f) := by rw [hbW.block g hgl]; exact hgg
      rw [hoth g (fun e' => by subst e'; exact h1 (cells_type hgW hW.hd)), hg.block g (by have := hbW.size; omega) (fun e' => by obtain ⟨c', hc'⟩ := hvtype g e'.symm; exact h2 (cells_type hgW hc')), hbW.block g hgl]

theorem step_obj {ops : Array Oper} {o : Oper} {a : Act} {w : World} {K : Act → World → Prop} {Q : Exit → Act → World → Prop} {E : Prop}
    (hg : o.guard = none) (s x : Operand) (ho : o.op = .call { callee := .builtin .append, args := #[s, x], argTypes := #[275, 275] }) (B : Nat) (v : Value) (l : List CObj) (hs : a.eval s = v)
    (hown : w.ownsRow B 272 4 v l.length (l.flatMap objC)) (g c : Nat) (y : CObj) (hx : a.eval x = .slice (some ⟨g, 0, none⟩) 1 c)
    (hnew : ∀ j u, (objC y)[j]? = some u → w.cell? ⟨g, j, none⟩ = some u) (h1 : ∀ u ∈ objC y, u.oneCell' = true) (hlen : l.length < 10000000) (hB : B ≤ w.heap.size)
    (h : ∀ v' w', w'.ownsRow B 272 4 v' (l.length + 1) ((l ++ [y]).flatMap objC) → w.grownBy w' v.ownBlock → newOr w v v' → K (a.put o.dst v') w') :
    if Region.wanted o (yielded ops a.tmps) = true then Oper.wp Tryz.prog o a w K Q else E :=
  step_app objC 4 48 275 272 (.agg #[.int .i64 0, .int .i64 0, .bool false, .slice none 0 0]) (by kernel_rfl) Tryz.underlying275 rfl (by omega) (fun _ => rfl)
    hg s x ho B v l hs hown g c y hx hnew h1 (by omega) (by unfold maxLen; omega) hB h

theorem obj_cells {W : World} {x1 x2 : Int} {lst : Bool} : ∀ j u, (objC ⟨(x1, x2), lst, .slice none 0 0, []⟩)[j]? = some u → (W.alloc (.cells #[.int .i64 x1, .int .i64 x2, .bool lst, .slice none 0 0] 272)).cell? ⟨W.heap.size, j, none⟩ = some u := by
  intro j u hu
  rw [World.cell?_alloc_at _ _ _ _ rfl]
  match j with
  | 0 => simpa [objC] using hu
  | 1 => simpa [objC] using hu
  | 2 => simpa [objC] using hu
  | 3 => simpa [objC] using hu
  | j + 4 => simp [objC] at hu
theorem obj_wf {x : PId} {lst : Bool} : ∀ u ∈ objC ⟨x, lst, .slice none 0 0, []⟩, u.oneCell' = true := by
  intro u hu; simp [objC] at hu; rcases hu with rfl | rfl | rfl | rfl <;> rfl

set_option maxRecDepth 1000000 in
set_option maxHeartbeats 1600000 in
theorem does_make (B t d : Nat) (v : Value) (os : List CObj) (ht : t < 100000) (vold : Value) (i1 i2 ob1 ob2 e1 e2 be1 be2 n v1 v2 : Int) (lst : Bool) (key : ByteArray) (w : World) (h : isDoc B t w d v os) (hvo : ∃ ao no co, vold = .slice ao no co) :
    Calls Tryz.prog 192 #[.pointer (some ⟨d, 0, none⟩), .agg #[.int .i64 i1, .int .i64 i2, .int .i64 1, .bool lst, .int .i64 ob1, .int .i64 ob2, .string key, .int .i64 e1, .int .i64 e2, .int .i64 be1, .int .i64 be2, .int .i64 n, .int .i64 v1, .int .i64 v2, vold]] w fun e w' =>
      e = .returned (.tuple #[]) ∧ ∃ v', isDoc B (t + 1) w' d v' (os ++ [⟨(i1, i2), lst, .slice none 0 0, []⟩]) ∧ DFrame B w w' := by
  obtain ⟨a, cap, rfl, hlc, hcm, hform⟩ := owns_form h.ho.1
  obtain ⟨ao, no, co, rfl⟩ := hvo
  have hp := h.cell
  have hfz := h.fz
  have hdl := h.lt
  have hBd := h.hB
  have hnl := h.hn
  have hBw : B ≤ w.heap.size := by omega
  clear hform
  have HNE : Hid (some d ≠ (Value.slice a os.length cap).ownBlock) := by
    intro e; obtain ⟨c, hc⟩ := own_type h.ho.1 e.symm; exact absurd (cells_type h.hd hc) (by decide)
  have HH := hid h; clear h
  go_enter Tryz.func192, Tryz.ntmps192
  go_wp2
  generalize hW0 : w.alloc _ = W0
  have hb0 : Below w.heap.size w W0 := by rw [← hW0]; exact (Below.refl _ w).alloc (Nat.le_refl _) _
  have q0 : W0.cell? ⟨w.heap.size, 0, none⟩ = some (.int .i64 i1) := by rw [← hW0]; simp [go_sem]
  have q1 : W0.cell? ⟨w.heap.size, 1, none⟩ = some (.int .i64 i2) := by rw [← hW0]; simp [go_sem]
  have q3 : W0.cell? ⟨w.heap.size, 3, none⟩ = some (.bool lst) := by rw [← hW0]; simp [go_sem]
  clear hW0
  replace hp := keep hb0 hp
  replace hfz := (hb0.frozen (p := ⟨d, 0, none⟩) hdl).trans hfz
  have hz0 := hb0.size
  replace hdl : d < W0.heap.size := by omega
  have hwl : w.heap.size < W0.heap.size := World.block_lt_of_cell? W0 _ q0
  replace HH := hid (HH.out.keep hb0)
  have HB0 := hid hb0; clear hb0
  go_region_law (refine step_obj rfl (.tmp 13) (.tmp 19) rfl B (.slice a os.length cap) os (by simp [Act.eval, Act.put]) ?h1 W0.heap.size 1 ⟨(i1, i2), lst, .slice none 0 0, []⟩ (by simp [Act.eval, Act.put]) ?h2 ?h3 ?h4 ?h5 ?_; (case h1 => exact HH.out.ho.1.alloc _); (case h2 => exact obj_cells); (case h3 => exact obj_wf); (case h4 => omega); (case h5 => simp; omega); intro v2 w2 hown2 hg2 hn2; have hbW : Below W0.heap.size W0 (W0.alloc (.cells #[.int .i64 i1, .int .i64 i2, .bool lst, .slice none 0 0] 272)).drew := ((Below.refl _ W0).alloc (Nat.le_refl _) _).drew; have hp2 : w2.cell? ⟨d, 0, none⟩ = some (.slice a os.length cap) := hg2.cell (keep hbW hp) HNE.out; have hf2 : w2.frozen? ⟨d, 0, none⟩ = false := (World.frozen?_of_block (a := ⟨d, 0, none⟩) (hg2.block d (by simp; omega) HNE.out)).trans ((hbW.frozen (p := ⟨d, 0, none⟩) hdl).trans hfz); have HM := hid (HH.out.more hbW hg2 hown2); obtain ⟨a2, c2, hv2, _, _, _⟩ := owns_form hown2; subst hv2; clear hbW hg2 hn2; have HO2 := hid hown2; clear hown2)
  all_goals (try go_wp2)
  all_goals refine bodyPost_ret (results_none rfl _ _ _) rfl ?_
  all_goals exact ⟨rfl, _, HM.out.1, (DFrame.of_below HB0.out hBw).trans HM.out.2⟩

end Go.Proofs.YtnkpogjiiohapaaGreatDoor
