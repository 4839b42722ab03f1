/- Our own text (RefNew). -/
import Derived.Deep.DeepCutAuto
import Derived.Test.YtnkpogjiiohapaaGreatDoorR02
set_option linter.unusedSimpArgs false
set_option linter.unusedVariables false

/-! RefNew: The contract of the reference's New. -/
namespace Go.Proofs.YtnkpogjiiohapaaGreatDoor
open Go.RowKit

set_option maxRecDepth 1000000 in
set_option maxHeartbeats 400000 in
theorem new_size (n s : Int) (h : n < 1 ∨ 4 < n ∨ s < 1 ∨ 50 < s) (w : World) :
    Calls Tryz.prog 93 #[.int .i64 n, .int .i64 s] w fun e w' => e = .returned (.tuple #[.pointer none, .int .i64 1]) ∧ w' = w := by
  by_cases h1 : n < 1
  · clear h
    go_enter Tryz.func93, Tryz.ntmps93
    go_wp2
    go_ret2
    exact ⟨rfl, rfl⟩
  · by_cases h2 : 4 < n
    · clear h
      go_enter Tryz.func93, Tryz.ntmps93
      go_wp2
      go_ret2
      exact ⟨rfl, rfl⟩
    · by_cases h3 : s < 1
      · clear h
        go_enter Tryz.func93, Tryz.ntmps93
        go_wp2
        go_ret2
        exact ⟨rfl, rfl⟩
      · have h4 : 50 < s := by omega
        clear h
        go_enter Tryz.func93, Tryz.ntmps93
        go_wp2
        go_ret2
        exact ⟨rfl, rfl⟩

/-- A row of zeros, as 'make' lays it. -/
def zrow (N : Nat) : Array Value := madeCells (Value.int .i64 0).cells (N * 1)
theorem run_mkInts (N : Nat) (hN : N ≤ 4) (W : World) : (Instr.makeSlice 24 (.int .i64 (N : Int)) (.int .i64 (N : Int))).run Tryz.prog W = .ok (.slice (some ⟨W.heap.size, 0, none⟩) N N) (W.alloc (.cells (zrow N) 3)) := by
  obtain ⟨i, hi, h0, h1, h2⟩ := info_parts (P := Tryz.prog) (e := 3) (z := .int .i64 0) (size := 1) (bytes := 8) (by kernel_rfl)
  have := run_make (P := Tryz.prog) W 24 3 i (.int .i64 0) Tryz.underlying24 hi h0 .i64 .i64 N N (by omega) (Int.le_refl _) (by rw [h2]; omega) (by omega)
  rw [h1] at this
  simpa [zrow] using this
/-- A row of links, as 'make' lays it. -/
def lrow (N : Nat) : Array Value := madeCells (Value.agg #[.bool false, .slice none 0 0]).cells (N * 2)
theorem run_mkLinks (N : Nat) (hN : N ≤ 4) (W : World) : (Instr.makeSlice 226 (.int .i64 (N : Int)) (.int .i64 (N : Int))).run Tryz.prog W = .ok (.slice (some ⟨W.heap.size, 0, none⟩) N N) (W.alloc (.cells (lrow N) 249)) := by
  obtain ⟨i, hi, h0, h1, h2⟩ := info_parts (P := Tryz.prog) (e := 249) (z := .agg #[.bool false, .slice none 0 0]) (size := 2) (bytes := 32) (by kernel_rfl)
  have := run_make (P := Tryz.prog) W 226 249 i (.agg #[.bool false, .slice none 0 0]) Tryz.underlying226 hi h0 .i64 .i64 N N (by omega) (Int.le_refl _) (by rw [h2]; omega) (by omega)
  rw [h1] at this
  simpa [lrow] using this

/-- Rows of one cell an element. -/
def one (v : Value) : List Value := [v]
theorem one_len (v : Value) : (one v).length = 1 := rfl
theorem one_cell {w : World} {g : Nat} {v : Value} (h : w.cell? ⟨g, 0, none⟩ = some v) : ∀ j u, (one v)[j]? = some u → w.cell? ⟨g, j, none⟩ = some u := by
  intro j u hu
  match j with
  | 0 => simp [one] at hu; rw [← hu]; exact h
  | j + 1 => simp [one] at hu
theorem one_wf {a : Option Addr} {n c : Nat} : ∀ u ∈ one (.slice a n c), u.oneCell' = true := by
  intro u hu; simp [one] at hu; subst hu; rfl
def ownOne (B : Nat) (w : World) (e : TypeId) (v : Value) (l : List Value) : Prop := w.ownsRow B e 1 v l.length (l.flatMap one)

/-- A zeroed row. -/
def zeros (B : Nat) (w : World) (v : Value) (N : Nat) : Prop := w.ownsRow B 3 1 v N ((List.range N).map fun _ => Value.int .i64 0)
theorem zeros_start {B n : Nat} {w : World} {v : Value} (h : w.ownsRow B 3 1 v n (madeCells (Value.int .i64 0).cells (n * 1)).toList) : zeros B w v n := by
  unfold zeros
  have e : (madeCells (Value.int .i64 0).cells (n * 1)).toList = (List.range n).map fun _ => Value.int .i64 0 := by
    show (madeCells #[Value.int .i64 0] (n * 1)).toList = _
    rw [toList_madeCells_one, Nat.mul_one]
    apply List.ext_getElem?
    intro j
    by_cases hj : j < n <;> simp [hj]
  rw [← e]; exact h
/-- A copy's block, made. -/
def CopyMade (N B : Nat) (wr wc : World) (p : Value) : Prop :=
  ∃ cb vH vT, p = .pointer (some ⟨cb, 0, none⟩) ∧ wc.heap[cb]? = some (.cells #[vH, .slice none 0 0, vT, .slice none 0 0] 225 (0, 0)) ∧ wr.heap.size ≤ cb ∧ zeros B wc vH N ∧ (∀ k, vH.ownBlock = some k → wr.heap.size ≤ k) ∧ vT.oneCell' = true ∧ Below wr.heap.size wr wc

theorem nils_start {B n : Nat} {w : World} {v : Value} (h : w.ownsRow B 255 1 v n (madeCells (Value.slice none 0 0).cells (n * 1)).toList) : w.ownsRow B 255 1 v n ((List.range n).map fun _ => Value.slice none 0 0) := by
  have e : (madeCells (Value.slice none 0 0).cells (n * 1)).toList = (List.range n).map fun _ => Value.slice none 0 0 := by
    show (madeCells #[Value.slice none 0 0] (n * 1)).toList = _
    rw [toList_madeCells_one, Nat.mul_one]
    apply List.ext_getElem?
    intro j
    by_cases hj : j < n <;> simp [hj]
  rw [← e]; exact h

theorem al0 (w : World) (a b c : Obj) : (((w.alloc a).alloc b).alloc c).drew.heap[w.heap.size]? = some a := blk_alloc (blk_alloc (blk_new w a))
theorem al1 (w : World) (a b c : Obj) : (((w.alloc a).alloc b).alloc c).drew.heap[w.heap.size + 1]? = some b := by
  have h := blk_alloc (o' := c) (blk_new (w.alloc a) b)
  have e : (w.alloc a).heap.size = w.heap.size + 1 := by simp
  rw [e] at h; exact h
theorem al2 (w : World) (a b c : Obj) : (((w.alloc a).alloc b).alloc c).drew.heap[w.heap.size + 1 + 1]? = some c := by
  have h := blk_new ((w.alloc a).alloc b) c
  have e : ((w.alloc a).alloc b).heap.size = w.heap.size + 1 + 1 := by simp
  rw [e] at h; exact h
theorem al_below (w : World) (a b c : Obj) : Below w.heap.size w (((w.alloc a).alloc b).alloc c).drew := ((((Below.refl _ w).alloc (Nat.le_refl _) _).alloc (by simp) _).alloc (by simp; omega) _).drew
theorem zeros_blk {B g N : Nat} {w : World} (h : w.heap[g]? = some (.cells (zrow N) 3 (0, 0))) (hB : B ≤ g) (hN : N ≤ 4) : zeros B w (.slice (some ⟨g, 0, none⟩) N N) N := by
  have e : (zrow N).toList = (List.range N).map fun _ => Value.int .i64 0 := by
    unfold zrow
    show (madeCells #[Value.int .i64 0] (N * 1)).toList = _
    rw [toList_madeCells_one, Nat.mul_one]
    apply List.ext_getElem?
    intro j
    by_cases hj : j < N <;> simp [hj]
  have hs : (zrow N).size = N := by rw [← Array.length_toList, e]; simp
  refine ⟨by simp, .inr ⟨g, N, zrow N, rfl, hB, h, Nat.le_refl _, by unfold maxLen; omega, by omega, ?_⟩⟩
  rw [e, List.take_of_length_le (by simp)]

theorem blkc4 {w : World} {g : Nat} {a b c d : Value} {t : TypeId} {f : Nat × Nat} (h : w.heap[g]? = some (.cells #[a, b, c, d] t f)) : w.cell? ⟨g, 3, none⟩ = some d := by
  simp [World.cell?, h]

theorem blkr2 {w : World} {g : Nat} {a b c d : Value} {t : TypeId} {f : Nat × Nat} (h : w.heap[g]? = some (.cells #[a, b, c, d] t f)) : w.cell? ⟨g, 2, none⟩ = some c := by
  simp [World.cell?, h]
theorem blkq0 {w : World} {g : Nat} {a b c d : Value} {t : TypeId} {f : Nat × Nat} (h : w.heap[g]? = some (.cells #[a, b, c, d] t f)) : w.cell? ⟨g, 0, none⟩ = some a := by
  simp [World.cell?, h]
theorem blkq1 {w : World} {g : Nat} {a b c d : Value} {t : TypeId} {f : Nat × Nat} (h : w.heap[g]? = some (.cells #[a, b, c, d] t f)) : w.cell? ⟨g, 1, none⟩ = some b := by
  simp [World.cell?, h]
theorem blkq2 {w : World} {g : Nat} {a b c d : Value} {t : TypeId} {f : Nat × Nat} (h : w.heap[g]? = some (.cells #[a, b, c, d] t f)) : w.cell? ⟨g, 2, none⟩ = some c := by
  simp [World.cell?, h]

theorem c4_wf {a b : Value} {o1 o2 o3 : Option Addr} {n1 n2 n3 c1 c2 c3 : Nat} (h1 : a = .slice o1 n1 c1) (h2 : b.oneCell' = true) : ∀ u ∈ [a, .slice o2 n2 c2, b, .slice o3 n3 c3], u.oneCell' = true := by
  intro u hu
  simp at hu
  rcases hu with rfl | rfl | rfl | rfl
  · rw [h1]; rfl
  · rfl
  · exact h2
  · rfl
theorem zeros_some {B : Nat} {w : World} {v : Value} {N : Nat} (h : zeros B w v N) (hN : 0 < N) : ∃ g, v.ownBlock = some g := by
  obtain ⟨a, c, e, _, _, f⟩ := owns_form h
  obtain ⟨g, rfl⟩ := f 0 hN
  exact ⟨g, by rw [e]; rfl⟩

/-- The inner loop's relation: c's block has one list more of numbers. -/
def KnownAt (ws wq : World) (cb : Nat) (vH vT : Value) (k : Nat) : Prop :=
  ∃ vK kv, wq.heap[cb]? = some (.cells #[vH, .slice none 0 0, vT, vK] 225 (0, 0)) ∧ kv.length = k ∧ ownOne ws.heap.size wq 24 vK kv ∧
    wq.os = ws.os ∧ wq.tape = ws.tape ∧ wq.output = ws.output ∧ ws.heap.size ≤ wq.heap.size ∧ ∀ g, g < ws.heap.size → g ≠ cb → wq.heap[g]? = ws.heap[g]?

theorem set3 {w : World} {g : Nat} {a b c d u : Value} {t : TypeId} (h : w.heap[g]? = some (.cells #[a, b, c, d] t (0, 0))) : (w.setCell ⟨g, 3, none⟩ u).heap[g]? = some (.cells #[a, b, c, u] t (0, 0)) := by
  have hl := blk_lt h
  obtain ⟨_, he⟩ := Array.getElem?_eq_some_iff.1 h
  simp [World.setCell, hl, Array.getElem_modify_self, he]
theorem set2 {w : World} {g : Nat} {a b c d u : Value} {t : TypeId} (h : w.heap[g]? = some (.cells #[a, b, c, d] t (0, 0))) : (w.setCell ⟨g, 2, none⟩ u).heap[g]? = some (.cells #[a, b, u, d] t (0, 0)) := by
  have hl := blk_lt h
  obtain ⟨_, he⟩ := Array.getElem?_eq_some_iff.1 h
  simp [World.setCell, hl, Array.getElem_modify_self, he]
theorem known_next {ws wr W w3 : World} {cb : Nat} {vH vT vK v' : Value} {kv : List Value} {y : Value} (hsz : ws.heap.size ≤ wr.heap.size) (hown : ownOne ws.heap.size wr 24 vK kv) (hf : wr.os = ws.os ∧ wr.tape = ws.tape ∧ wr.output = ws.output ∧ ∀ g, g < ws.heap.size → g ≠ cb → wr.heap[g]? = ws.heap[g]?)
    (hb : Below wr.heap.size wr W) (h3 : w3.ownsRow ws.heap.size 24 1 v' (kv.length + 1) ((kv ++ [y]).flatMap one)) (hg : W.grownBy w3 vK.ownBlock) (hc : w3.heap[cb]? = some (.cells #[vH, .slice none 0 0, vT, vK] 225 (0, 0))) :
    KnownAt ws (w3.setCell ⟨cb, 3, none⟩ v') cb vH vT (kv.length + 1) := by
  have hne : v'.ownBlock ≠ some cb := fun e => by obtain ⟨cs', hcs'⟩ := own_type h3 e; exact absurd (cells_type hcs' hc) (by decide)
  refine ⟨v', kv ++ [y], set3 hc, by simp, ?_, ?_, ?_, ?_, ?_, ?_⟩
  · unfold ownOne
    rw [List.length_append]
    exact row_other h3 hne _
  · have := hg.os; simp [World.setCell]; rw [this, hb.os, hf.1]
  · have := hg.tape; simp [World.setCell]; rw [this, hb.tape, hf.2.1]
  · have := hg.output; simp [World.setCell]; rw [this, hb.output, hf.2.2.1]
  · have := hg.size; have := hb.size; simp [World.setCell]; omega
  · intro g hgs hgc
    rw [Below.heap_setCell _ _ _ _ hgc, hg.block g (by have := hb.size; omega) (fun e => by have := (World.ownsRow.lt hown g e.symm).1; omega), hb.block g (by omega), hf.2.2.2 g hgs hgc]

structure C4 where
  a : Value
  b : Value
  c : Value
  d : Value
def c4 (x : C4) : List Value := [x.a, x.b, x.c, x.d]
theorem c4_cells {w : World} {g : Nat} {x : C4} {t : TypeId} {f : Nat × Nat} (h : w.heap[g]? = some (.cells #[x.a, x.b, x.c, x.d] t f)) : ∀ j u, (c4 x)[j]? = some u → w.cell? ⟨g, j, none⟩ = some u := by
  intro j u hu
  simp only [World.cell?, h]
  rw [← hu]
  simp [c4]
theorem row_blk {w w' : World} {base : Nat} {e : TypeId} {size : Nat} {v : Value} {n : Nat} {xs : List Value} (h : w.ownsRow base e size v n xs) (hg : ∀ g, v.ownBlock = some g → w'.heap[g]? = w.heap[g]?) : w'.ownsRow base e size v n xs := by
  refine ⟨h.1, ?_⟩
  rcases h.2 with hn | ⟨g, cap, cur, rfl, hb, hgg, rest⟩
  · exact .inl hn
  · exact .inr ⟨g, cap, cur, rfl, hb, by rw [hg g rfl]; exact hgg, rest⟩

/-- The outer loop's relation. -/
structure NewAt (w wr : World) (N r : Nat) (vO vC vL : Value) (cs : List C4) (lv : List Value) : Prop where
  hr : wr.heap[r]? = some (.cells #[.int .i64 N, vO, vC, vL] 222 (0, 0))
  hw : w.heap.size ≤ r
  hO : wr.ownsRow w.heap.size 255 1 vO N ((List.range N).map fun _ => Value.slice none 0 0)
  hC : wr.ownsRow w.heap.size 225 4 vC cs.length (cs.flatMap c4)
  hH : ∀ x ∈ cs, zeros w.heap.size wr x.a N
  dist : cs.Pairwise fun x y => x.a.ownBlock ≠ y.a.ownBlock
  hL : ownOne w.heap.size wr 226 vL lv
  below : Below w.heap.size w wr

section
theorem NewAt.keep {w wr W : World} {N r : Nat} {vO vC vL : Value} {cs : List C4} {lv : List Value} (h : NewAt w wr N r vO vC vL cs lv) (hb : Below wr.heap.size wr W) : NewAt w W N r vO vC vL cs lv :=
  ⟨blk_keep h.hr hb, h.hw, owns_keep h.hO hb, owns_keep h.hC hb, fun x hx => owns_keep (h.hH x hx) hb, h.dist, owns_keep h.hL hb, h.below.trans (hb.mono h.below.size)⟩
/-- One row of the room has grown, and its head is written. -/
theorem NewAt.rest {w wr W w3 : World} {N r : Nat} {vO vC vL : Value} {cs : List C4} {lv : List Value} (h : NewAt w wr N r vO vC vL cs lv) (hb : Below wr.heap.size wr W) {v u : Value} {o e : Nat} {B sz n : Nat} {xs : List Value} (hrow : wr.ownsRow B e sz v n xs) (hg : W.grownBy w3 v.ownBlock) (hB : w.heap.size ≤ B) :
    (∀ {base e' size : Nat} {v' : Value} {n' : Nat} {xs' : List Value}, wr.ownsRow base e' size v' n' xs' → e' ≠ e → e' ≠ 222 → (w3.setCell ⟨r, o, none⟩ u).ownsRow base e' size v' n' xs') ∧
    (e ≠ 222 → w3.heap[r]? = some (.cells #[.int .i64 N, vO, vC, vL] 222 (0, 0))) ∧ Below w.heap.size w (w3.setCell ⟨r, o, none⟩ u) := by
  have hrl := blk_lt h.hr
  have hbs := hb.size
  have hgs := hg.size
  refine ⟨fun {base e' size v' n' xs'} hr' h1 h2 => row_blk hr' (fun g hgb => ?_), fun h1 => ?_, ?_⟩
  · obtain ⟨c', hc'⟩ := own_type hr' hgb
    have hgl := blk_lt hc'
    rw [Below.heap_setCell _ _ _ _ (show g ≠ r by intro e''; subst e''; exact h2 (cells_type hc' h.hr)), hg.block g (by omega) (fun e'' => by obtain ⟨c2, hc2⟩ := own_type hrow e''.symm; exact h1 (cells_type hc' hc2)), hb.block g hgl]
  · rw [hg.block r (by omega) (fun e'' => by obtain ⟨c2, hc2⟩ := own_type hrow e''.symm; exact h1 (cells_type hc2 h.hr)), hb.block r hrl]; exact h.hr
  · have h1 : Below w.heap.size w W := h.below.trans (hb.mono h.below.size)
    have h2 : Below w.heap.size w w3 := h1.grown hg (by have := h.below.size; omega) (fun k hk => Nat.le_trans hB (World.ownsRow.lt hrow k hk).1)
    exact h2.setCell h.hw _
theorem NewAt.copy {w wr W w3 : World} {N r : Nat} {vO vC vL : Value} {cs : List C4} {lv : List Value} (h : NewAt w wr N r vO vC vL cs lv) (hb : Below wr.heap.size wr W) {x : C4} {v' : Value} (h3 : w3.ownsRow w.heap.size 225 4 v' (cs.length + 1) ((cs ++ [x]).flatMap c4)) (hg : W.grownBy w3 vC.ownBlock)
    (hz : zeros w.heap.size wr x.a N) (hd : ∀ y ∈ cs, y.a.ownBlock ≠ x.a.ownBlock) : NewAt w (w3.setCell ⟨r, 2, none⟩ v') N r vO v' vL (cs ++ [x]) lv := by
  obtain ⟨rows, hr3, hbel⟩ := h.rest (u := v') (o := 2) hb h.hC hg (Nat.le_refl _)
  have hr3 := hr3 (by decide)
  refine ⟨set2 hr3, h.hw, rows h.hO (by decide) (by decide), ?_, fun y hy => ?_, ?_, rows h.hL (by decide) (by decide), hbel⟩
  · rw [List.length_append]
    exact row_other h3 (fun e => by obtain ⟨c', hc'⟩ := own_type h3 e; exact absurd (cells_type hc' hr3) (by decide)) _
  · rcases List.mem_append.1 hy with hy | hy
    · exact rows (h.hH y hy) (by decide) (by decide)
    · simp at hy; subst hy; exact rows hz (by decide) (by decide)
  · rw [List.pairwise_append]
    refine ⟨h.dist, by simp, fun a ha b hb => ?_⟩
    simp at hb; subst hb; exact hd a ha
theorem NewAt.link {w wr W w3 : World} {N r : Nat} {vO vC vL : Value} {cs : List C4} {lv : List Value} (h : NewAt w wr N r vO vC vL cs lv) (hb : Below wr.heap.size wr W) {y v' : Value} (h3 : w3.ownsRow w.heap.size 226 1 v' (lv.length + 1) ((lv ++ [y]).flatMap one)) (hg : W.grownBy w3 vL.ownBlock) :
    NewAt w (w3.setCell ⟨r, 3, none⟩ v') N r vO vC v' cs (lv ++ [y]) := by
  obtain ⟨rows, hr3, hbel⟩ := h.rest (u := v') (o := 3) hb h.hL hg (Nat.le_refl _)
  have hr3 := hr3 (by decide)
  refine ⟨set3 hr3, h.hw, rows h.hO (by decide) (by decide), rows h.hC (by decide) (by decide), fun y hy => rows (h.hH y hy) (by decide) (by decide), h.dist, ?_, hbel⟩
  unfold ownOne
  rw [List.length_append]
  exact row_other h3 (fun e => by obtain ⟨c', hc'⟩ := own_type h3 e; exact absurd (cells_type hc' hr3) (by decide)) _
end

set_option maxRecDepth 1000000 in
set_option maxHeartbeats 3200000 in
theorem new_any (N s : Nat) (h1 : 1 ≤ N) (h2 : N ≤ 4) (h3 : 1 ≤ s) (h4 : s ≤ 50) (w : World) :
    Calls Tryz.prog 93 #[.int .i64 N, .int .i64 s] w fun e w' => ∃ r vO vC vL cs lv, e = .returned (.tuple #[.pointer (some ⟨r, 0, none⟩), .int .i64 0]) ∧ NewAt w w' N r vO vC vL cs lv ∧ cs.length = N := by
  obtain ⟨iO, hiO, hzO0, hzO1, hzO2⟩ := info_parts (P := Tryz.prog) (e := 255) (z := .slice none 0 0) (size := 1) (bytes := 24) (by kernel_rfl)
  obtain ⟨iN, hiN, hzN0, hzN1, hzN2⟩ := info_parts (P := Tryz.prog) (e := 3) (z := .int .i64 0) (size := 1) (bytes := 8) (by kernel_rfl)
  obtain ⟨iL, hiL, hzL0, hzL1, hzL2⟩ := info_parts (P := Tryz.prog) (e := 249) (z := .agg #[.bool false, .slice none 0 0]) (size := 2) (bytes := 32) (by kernel_rfl)
  go_enter Tryz.func93, Tryz.ntmps93
  go_wp2_with (at_make; go_must (refine wpList_make_full _ rfl (.tmp 25) (.tmp 25) 218 rfl w.heap.size 255 iO (.slice none 0 0) 1 Tryz.underlying218 hiO hzO0 hzO1 _ _ _ _ N rfl rfl ?h1 ?h2 ?h3 ?h4 ?h5 ?_; (case h1 => rfl); (case h2 => rfl); (case h3 => rw [hzO2]; omega); (case h4 => unfold maxLen; omega); (case h5 => simp); intro w1 hown1 hg1; have HO1 := hid (nils_start hown1); clear hown1; have HG1 := hid hg1; clear hg1))
  have HB1 := hid (show Below w.heap.size w w1 from (Below.refl _ w).grown HG1.out (Nat.le_refl _) (fun k hk => by cases hk))
  have HN0 : Hid (NewAt w (w1.alloc (.cells #[.int .i64 N, .slice (some ⟨w.heap.size, 0, none⟩) N N, .slice none 0 0, .slice none 0 0] 222)) N w1.heap.size (.slice (some ⟨w.heap.size, 0, none⟩) N N) (.slice none 0 0) (.slice none 0 0) [] []) :=
    ⟨blk_new _ _, HB1.out.size, HO1.out.alloc _, World.ownsRow_nil _ _ _ _, fun x hx => by simp at hx, List.Pairwise.nil, World.ownsRow_nil _ _ _ _, HB1.out.alloc HB1.out.size _⟩
  generalize w1.heap.size = r at *
  generalize Value.slice (some ⟨w.heap.size, 0, none⟩) N N = vO at *
  clear hiO hzO0 hzO1 hzO2 HO1 HG1 HB1
  go_loopw [7] (fun i wr => ∃ m : Nat, m ≤ N ∧ i = .int .i64 m ∧ ∃ vC vL cs lv, NewAt w wr N r vO vC vL cs lv ∧ cs.length = m ∧ lv.length = m) (fun i _ => N - (intOf i).toNat)
  case atStart => exact ⟨0, Nat.zero_le _, rfl, _, _, _, _, HN0.out, rfl, rfl⟩
  case round =>
    obtain ⟨m, hm, rfl, vC, vL, cs, lv, hat, hcl, hll⟩ := hrel
    subst hcl
    have HLL := hid hll; clear hll
    obtain ⟨wo, hwo⟩ : ∃ wo, wo = wr := ⟨_, rfl⟩
    subst hwo
    have HAT := hid hat; clear hat
    by_cases hlt : cs.length < N
    · have hzw := HAT.out.below.size
      go_wp2
      go_cut [8] (fun p wc => CopyMade N w.heap.size wo wc p)
      case first =>
        have hmk := run_mkInts N h2
        go_region
        all_goals (go_wp2_with fail; go_meet)
        all_goals exact ⟨_, _, _, rfl, (by first | exact al0 _ _ _ _ | exact al1 _ _ _ _ | exact al2 _ _ _ _), by omega, zeros_blk (by first | exact al0 _ _ _ _ | exact al1 _ _ _ _ | exact al2 _ _ _ _) (by omega) h2, fun k hk => by simp [Value.ownBlock] at hk; omega, rfl, al_below _ _ _ _⟩
      case rest =>
        obtain ⟨cb, vH, vT, rfl, hcb, hcw, hz, hvh, hvt, hbc⟩ := hcut
        have HCB := hid hcb; clear hcb
        have HBC := hid hbc; clear hbc
        have HZ := hid hz; clear hz
        have HVH := hid hvh; clear hvh
        have hcs := blk_lt HCB.out
        have hmk := run_mkInts N h2
        go_wp2
        go_loopw [9] (fun i wq => ∃ q : Nat, q ≤ N ∧ i = .int .i64 q ∧ KnownAt wc wq cb vH vT q) (fun i _ => N - (intOf i).toNat)
        case atStart => exact ⟨0, Nat.zero_le _, rfl, _, [], HCB.out, rfl, World.ownsRow_nil _ _ _ _, rfl, rfl, rfl, Nat.le_refl _, fun _ _ _ => rfl⟩
        case round =>
          obtain ⟨q, hq, rfl, hk⟩ := hrel
          obtain ⟨vK, kv, hcb, hkl, hown, hos, hta, hou, hsz, hfr⟩ := hk
          subst hkl
          obtain ⟨ka, kc, rfl, hkc, hkm, _⟩ := owns_form hown
          have HOWN := hid hown; clear hown
          have HFR := hid (And.intro hos (And.intro hta (And.intro hou hfr))); clear hos hta hou hfr
          have HCQ := hid hcb; clear hcb
          have hcq := blk_lt HCQ.out
          by_cases hql : kv.length < N
          · have c3 := blkc4 HCQ.out
            have cf := blk_fz HCQ.out
            have HNC := hid (show some cb ≠ (Value.slice ka kv.length kc).ownBlock from fun e => by obtain ⟨cs', hcs'⟩ := own_type HOWN.out e.symm; exact absurd (cells_type HCQ.out hcs') (by decide))
            go_wp2
            go_region_law (refine step_app one 1 24 44 24 (.slice none 0 0) (by kernel_rfl) Tryz.underlying44 rfl (by omega) (fun _ => rfl) rfl (.tmp 45) (.tmp 48) rfl wc.heap.size (.slice ka kv.length kc) kv (by simp [Act.eval, Act.put]) ?h1 (wr.heap.size + 1) 1 (.slice (some ⟨wr.heap.size, 0, none⟩) N N) (by simp [Act.eval, Act.put]) ?h2 ?h3 ?h4 ?h5 ?h6 ?_; (case h1 => exact ((HOWN.out.alloc _).alloc _).drew); (case h2 => exact one_cell (by simp [go_sem])); (case h3 => exact one_wf); (case h4 => omega); (case h5 => unfold maxLen; omega); (case h6 => simp [World.drew]; omega); intro v' w3 hown3 hg3 hn3; have HW3 := hid (And.intro hown3 hg3); obtain ⟨a3, c3', hv3, _, _, _⟩ := owns_form hown3; subst hv3; have HC3 := hid (show w3.heap[cb]? = some (.cells #[vH, .slice none 0 0, vT, .slice ka kv.length kc] 225 (0, 0)) by rw [hg3.block cb (by simp [World.drew]; omega) HNC.out]; exact blk_alloc (blk_alloc HCQ.out)); have cb3 := blkc4 HC3.out; have cf3 := blk_fz HC3.out; clear hown3 hg3 hn3)
            all_goals (try go_wp2)
            all_goals go_roundw
            all_goals first | (simp [intOf]; omega) | exact ⟨kv.length + 1, by omega, by go_num, known_next hsz HOWN.out HFR.out ((((Below.refl _ wr).alloc (Nat.le_refl _) _).alloc (by simp) _).drew) HW3.out.1 HW3.out.2 HC3.out⟩
          · have HQB := hid (show Below wo.heap.size wo wr from ⟨HFR.out.1.trans HBC.out.os, HFR.out.2.1.trans HBC.out.tape, HFR.out.2.2.1.trans HBC.out.output, Nat.le_trans HBC.out.size hsz, fun g hg => by rw [HFR.out.2.2.2 g (Nat.lt_of_lt_of_le hg HBC.out.size) (by omega), HBC.out.block g hg]⟩)
            have HNQ := hid (HAT.out.keep HQB.out)
            have HDI := hid (show ∀ y ∈ cs, y.a.ownBlock ≠ vH.ownBlock from fun y hy e => by
              cases hv : vH.ownBlock with
              | none => obtain ⟨g0, hg0⟩ := zeros_some HZ.out (by omega); rw [hv] at hg0; cases hg0
              | some g => have h1 := HVH.out g hv; have h2 := (World.ownsRow.lt (HAT.out.hH y hy) g (by rw [e, hv])).2; omega)
            have HZQ := hid (show zeros w.heap.size wr vH N from row_blk HZ.out (fun g hg => HFR.out.2.2.2 g (World.ownsRow.lt HZ.out g hg).2 (by intro e; subst e; obtain ⟨c', hc'⟩ := own_type HZ.out hg; exact absurd (cells_type hc' HCB.out) (by decide))))
            obtain ⟨vca, vcc, hvc, _, _, _⟩ := owns_form HNQ.out.hC
            obtain ⟨vla, vlc, hvl, _, _, _⟩ := owns_form HNQ.out.hL
            subst hvc
            subst hvl
            have r2 := blkr2 HNQ.out.hr
            have rf := blk_fz HNQ.out.hr
            have q0 := blkq0 HCQ.out
            have q1 := blkq1 HCQ.out
            have q2 := blkq2 HCQ.out
            have q3 := blkc4 HCQ.out
            have hrl := blk_lt HNQ.out.hr
            have HNR := hid (show some r ≠ (Value.slice vca cs.length vcc).ownBlock from fun e => by obtain ⟨c', hc'⟩ := own_type HNQ.out.hC e.symm; exact absurd (cells_type HNQ.out.hr hc') (by decide))
            obtain ⟨ha, hc, hvh, _, _, _⟩ := owns_form HZ.out
            have HVE := hid hvh; clear hvh
            have hvt' := hvt
            go_wp2
            go_cut [] (fun wd => ∃ v' x, NewAt w wd N r vO v' (.slice vla lv.length vlc) (cs ++ [x]) lv)
            case first =>
              go_region_law (refine step_app c4 4 96 219 225 (.agg #[.slice none 0 0, .slice none 0 0, .slice none 0 0, .slice none 0 0]) (by kernel_rfl) Tryz.underlying219 rfl (by omega) (fun _ => rfl) rfl (.tmp 55) (.tmp 57) rfl w.heap.size (.slice vca cs.length vcc) cs (by simp [Act.eval, Act.put]) ?h1 wr.heap.size 1 ⟨vH, .slice none 0 0, vT, .slice ka kv.length kc⟩ (by simp [Act.eval, Act.put]) ?h2 ?h3 ?h4 ?h5 ?h6 ?_; (case h1 => exact (HNQ.out.hC.alloc _).drew); (case h2 => exact c4_cells (blk_new wr _)); (case h3 => exact c4_wf HVE.out hvt'); (case h4 => omega); (case h5 => unfold maxLen; omega); (case h6 => simp [World.drew]; omega); intro v' w3 hown3 hg3 hn3; have HW3 := hid (And.intro hown3 hg3); obtain ⟨a3, c3', hv3, _, _, _⟩ := owns_form hown3; subst hv3; have HR3 := hid (show w3.heap[r]? = _ from (hg3.block r (by simp [World.drew]; omega) HNR.out).trans (blk_alloc HNQ.out.hr)); have r3 := blkr2 HR3.out; have rf3 := blk_fz HR3.out; clear hown3 hg3 hn3)
              all_goals (go_wp2_with fail; go_meet)
              all_goals exact ⟨_, _, HNQ.out.copy (((Below.refl _ wr).alloc (Nat.le_refl _) _).drew) HW3.out.1 HW3.out.2 HZQ.out HDI.out⟩
            case rest =>
              obtain ⟨v', x, hnd⟩ := hcut
              have HND := hid hnd; clear hnd
              have d3 := blkc4 HND.out.hr
              have df := blk_fz HND.out.hr
              have hdl := blk_lt HND.out.hr
              have hdz := HND.out.below.size
              have hml := run_mkLinks N h2
              have HNR := hid (show some r ≠ (Value.slice vla lv.length vlc).ownBlock from fun e => by obtain ⟨c', hc'⟩ := own_type HND.out.hL e.symm; exact absurd (cells_type HND.out.hr hc') (by decide))
              clear r2 rf q0 q1 q2 q3
              go_wp2
              go_region_law (refine step_app one 1 24 220 226 (.slice none 0 0) (by kernel_rfl) Tryz.underlying220 rfl (by omega) (fun _ => rfl) rfl (.tmp 65) (.tmp 68) rfl w.heap.size (.slice vla lv.length vlc) lv (by simp [Act.eval, Act.put]) ?h1 (wc.heap.size + 1) 1 (.slice (some ⟨wc.heap.size, 0, none⟩) N N) (by simp [Act.eval, Act.put]) ?h2 ?h3 ?h4 ?h5 ?h6 ?_; (case h1 => exact ((World.ownsRow.alloc HND.out.hL _).alloc _).drew); (case h2 => exact one_cell (by simp [go_sem])); (case h3 => exact one_wf); (case h4 => have := HLL.out; omega); (case h5 => have := HLL.out; unfold maxLen; omega); (case h6 => simp [World.drew]; omega); intro v'' w3 hown3 hg3 hn3; have HW3 := hid (And.intro hown3 hg3); obtain ⟨a3, c3', hv3, _, _, _⟩ := owns_form hown3; subst hv3; have HR3 := hid (show w3.heap[r]? = _ from (hg3.block r (by simp [World.drew]; omega) HNR.out).trans (blk_alloc (blk_alloc HND.out.hr))); have r3 := blkc4 HR3.out; have rf3 := blk_fz HR3.out; clear hown3 hg3 hn3)
              all_goals (try go_wp2)
              all_goals go_roundw
              all_goals first | (simp [intOf]; omega) | exact ⟨cs.length + 1, by omega, by go_num, _, _, _, _, HND.out.link ((((Below.refl _ wc).alloc (Nat.le_refl _) _).alloc (by simp) _).drew) HW3.out.1 HW3.out.2, by simp, by simp [HLL.out]⟩
    · go_wp2
      go_ret2
      exact ⟨r, vO, vC, vL, cs, lv, rfl, HAT.out, by omega⟩

end Go.Proofs.YtnkpogjiiohapaaGreatDoor
