/- Our own text (LLawD). -/
import Derived.Test.YtnkpogjiiohapaaGreatDoorB43
set_option linter.unusedSimpArgs false
set_option linter.unusedVariables false

/-! LLawD: quirekeep: Landed: what Insert leaves, and the list that is held against it. -/
namespace Go.Proofs.YtnkpogjiiohapaaGreatDoor
open Go.RowKit

/-- What Insert leaves: the Id in its box. -/
def InsX (B tb r N sp : Nat) (ls : PId) (c : Nat) (L : List PId) (i : Nat) (vb : Value) (w : World) (gb : Nat) (a b f : Int) (we : World) : Prop := we.cell? ⟨gb, 0, none⟩ = some (.int .i64 a) ∧ we.cell? ⟨gb, 1, none⟩ = some (.int .i64 b) ∧ ((f = 0 ∧ WroteL B tb r N sp ls c (L.take i ++ (a, b) :: L.drop i) vb L w we) ∨ (f = 8 ∧ WroteL B tb r N sp ls c L vb L w we))

theorem insTab {Z : Nat → Prop} {tb r N sp : Nat} {ls : PId} {c : Nat} {L L' : List PId} {w w' : World} {f : Int} (h : (f = 0 ∧ Tells Z tb r N sp ls c L w w') ∨ (f = 8 ∧ Tells Z tb r N sp ls c L' w w')) : isTab w' tb N r ls := by
  rcases h with ⟨_, ⟨M, s, hq, _⟩, _⟩ | ⟨_, ⟨M, s, hq, _⟩, _⟩
  · exact hq.i.tab
  · exact hq.i.tab
theorem insBel {Z : Nat → Prop} {P : Nat → Prop} {B tb r N sp : Nat} {ls : PId} {c : Nat} {L L' : List PId} {w0 w w' : World} {f : Int} (h : (f = 0 ∧ Tells (fun k => Z k ∨ P k) tb r N sp ls c L w w') ∨ (f = 8 ∧ Tells (fun k => Z k ∨ P k) tb r N sp ls c L' w w')) (hz : ∀ k, k < B → Z k) (hb : Below B w0 w) : Below B w0 w' := hb.trans ((Tells.zept h).below fun k hk => .inl (hz k hk))

theorem cel4 {W : World} {tb N r : Nat} {ls : PId} {g o : Nat} {v : Value} (h : isTab W tb N r ls) (hd : W.cell? ⟨g, o, none⟩ = some v) : W.cell? ⟨tb, 1, none⟩ = some (.pointer (some ⟨r, 0, none⟩)) ∧ W.cell? ⟨tb, 2, none⟩ = some (.int .i64 ls.1) ∧ W.cell? ⟨tb, 3, none⟩ = some (.int .i64 ls.2) ∧ W.cell? ⟨g, o, none⟩ = some v := ⟨(h.cells).2.1, (h.cells).2.2.1, (h.cells).2.2.2, hd⟩
theorem cel4_al {W : World} {tb N r : Nat} {ls : PId} {g o : Nat} {v : Value} (h : isTab W tb N r ls) (hd : W.cell? ⟨g, o, none⟩ = some v) (x : Obj) : isTab (W.alloc x) tb N r ls ∧ (W.alloc x).cell? ⟨g, o, none⟩ = some v := ⟨h.keep ((Below.refl _ _).alloc (Nat.le_refl _) _), keep ((Below.refl _ _).alloc (Nat.le_refl _) _) hd⟩
theorem cell_setO {W : World} {g o bx k : Nat} {u : Value} (h : g ≠ bx) : (W.setCell ⟨bx, k, none⟩ u).cell? ⟨g, o, none⟩ = W.cell? ⟨g, o, none⟩ := by
  unfold World.cell?
  simp only [setCell_other (w := W) (o := k) (u := u) h]
theorem cel4_set {W : World} {tb N r : Nat} {ls : PId} {g o : Nat} {v : Value} (h : isTab W tb N r ls) (hd : W.cell? ⟨g, o, none⟩ = some v) {bx : Nat} (h1 : tb ≠ bx) (h2 : g ≠ bx) (k : Nat) (u : Value) : isTab (W.setCell ⟨bx, k, none⟩ u) tb N r ls ∧ (W.setCell ⟨bx, k, none⟩ u).cell? ⟨g, o, none⟩ = some v := ⟨(setCell_other h1).trans h, (cell_setO h2).trans hd⟩
theorem boxSet2 {W : World} {bx : Nat} {a b u v : Value} {t : TypeId} (h : W.heap[bx]? = some (.cells #[a, b] t (0, 0))) : ((W.setCell ⟨bx, 0, none⟩ u).setCell ⟨bx, 1, none⟩ v).cell? ⟨bx, 0, none⟩ = some u ∧ ((W.setCell ⟨bx, 0, none⟩ u).setCell ⟨bx, 1, none⟩ v).cell? ⟨bx, 1, none⟩ = some v := by
  simp [World.setCell, World.cell?, Array.getElem?_modify, h]

section
theorem insX_a {B : Nat} {Z : Nat → Prop} {tb : Nat} {w w7 w8 : World} {r N sp : Nat} {ls : PId} {M : Nat → List MOp} {s : RoomS} {c : Nat} {L : List PId} {vb : Value} (hi : LInv B Z tb w7 r N sp ls M s) (hv : ownIds 0 w7 vb L) (hvz : ∀ k, vb.ownBlock = some k → Z k) (hb : Below B w w7) (hB : B ≤ w.heap.size) {i : Nat} {a b f : Int} (h : (f = 0 ∧ Tells (fun k => Z k ∨ (w7.heap.size ≤ k ∧ k < w7.drew.heap.size)) tb r N sp ls c (L.take i ++ (a, b) :: L.drop i) w7.drew w8) ∨ (f = 8 ∧ Tells (fun k => Z k ∨ (w7.heap.size ≤ k ∧ k < w7.drew.heap.size)) tb r N sp ls c L w7.drew w8)) : InsX B tb r N sp ls c L i vb w w8.heap.size a b f (w8.alloc (.cells #[.int .i64 a, .int .i64 b] 36)) := by
  obtain ⟨h0, h1⟩ := blk2 (blk_new w8 (.cells #[.int .i64 a, .int .i64 b] 36))
  refine ⟨h0, h1, ?_⟩
  rcases h with ⟨hf, h⟩ | ⟨hf, h⟩
  · exact .inl ⟨hf, insA_wrote hi hv hvz hb hB h _⟩
  · exact .inr ⟨hf, insA_wrote hi hv hvz hb hB h _⟩
theorem insX_b {B : Nat} {Z : Nat → Prop} {tb : Nat} {w w7 w8 : World} {r N sp : Nat} {ls : PId} {M : Nat → List MOp} {s : RoomS} {c : Nat} {L : List PId} {vb : Value} (hi : LInv B Z tb w7 r N sp ls M s) (hv : ownIds 0 w7 vb L) (hvz : ∀ k, vb.ownBlock = some k → Z k) (hb : Below B w w7) (hB : B ≤ w.heap.size) {i : Nat} {a b f : Int} (h : (f = 0 ∧ Tells (fun k => Z k ∨ (w7.heap.size ≤ k ∧ k < (w7.alloc (.cells #[.int .i64 0, .int .i64 0] 36)).drew.heap.size)) tb r N sp ls c (L.take i ++ (a, b) :: L.drop i) (w7.alloc (.cells #[.int .i64 0, .int .i64 0] 36)).drew w8) ∨ (f = 8 ∧ Tells (fun k => Z k ∨ (w7.heap.size ≤ k ∧ k < (w7.alloc (.cells #[.int .i64 0, .int .i64 0] 36)).drew.heap.size)) tb r N sp ls c L (w7.alloc (.cells #[.int .i64 0, .int .i64 0] 36)).drew w8)) : InsX B tb r N sp ls c L i vb w w7.heap.size a b f ((w8.setCell ⟨w7.heap.size, 0, none⟩ (.int .i64 a)).setCell ⟨w7.heap.size, 1, none⟩ (.int .i64 b)) := by
  obtain ⟨h0, h1⟩ := boxSet2 (u := .int .i64 a) (v := .int .i64 b) (boxKept h)
  refine ⟨h0, h1, ?_⟩
  rcases h with ⟨hf, h⟩ | ⟨hf, h⟩
  · exact .inl ⟨hf, insB_wrote hi hv hvz hb hB _ h _ _⟩
  · exact .inr ⟨hf, insB_wrote hi hv hvz hb hB _ h _ _⟩
end

/-- What is read of a part of a list. -/
theorem src_take {w : World} {g cap : Nat} {l : List PId} (h : idsAt w (.slice (some ⟨g, 0, none⟩) l.length cap) l) {i : Nat} (hi : i ≤ l.length) : srcIs w idC (.slice (some ⟨g, 0, none⟩) i cap) (l.take i) := (h.take hi).src
theorem src_drop {w : World} {g cap : Nat} {l : List PId} (h : idsAt w (.slice (some ⟨g, 0, none⟩) l.length cap) l) {i : Nat} (hi : i ≤ l.length) (hc : l.length ≤ cap) : srcIs w idC (.slice (if cap = i then some ⟨g, 0, none⟩ else some ⟨g, i * 2, none⟩) (l.length - i) (cap - i)) (l.drop i) := by
  by_cases e : cap = i
  · have hl : l.drop i = [] := List.drop_eq_nil_of_le (by omega)
    rw [if_pos e, hl]
    exact .inr ⟨⟨g, 0, none⟩, cap - i, by rw [show l.length - i = 0 by omega]; rfl, fun j u hu => by simp at hu⟩
  · rw [if_neg e]
    exact h.drop hi _
theorem ids_app {B : Nat} {w : World} {v : Value} {l m : List PId} {x : PId} (h : w.ownsRow B 36 2 v ((l ++ [x]).length + m.length) ((l ++ [x] ++ m).flatMap idC)) : ownIds B w v (l ++ x :: m) := by
  unfold ownIds
  have e : l ++ x :: m = l ++ [x] ++ m := by simp
  have e2 : (l ++ [x] ++ m).length = (l ++ [x]).length + m.length := List.length_append
  rw [e, e2]
  exact h
theorem WroteL.app {B tb r N sp : Nat} {ls : PId} {c : Nat} {LX L : List PId} {vb v : Value} {w WX W' : World} (h : WroteL B tb r N sp ls c LX vb L w WX) (hb : Below WX.heap.size WX W') (hv : ownIds WX.heap.size W' v LX) (hB : B ≤ w.heap.size) : WroteL B tb r N sp ls c LX v LX w W' := by
  have h1 := h.keep hb (Nat.le_trans hB h.2.2.size)
  exact ⟨h1.1, owns_mono hv (Nat.zero_le _), h1.2.2⟩
theorem ids_cap {B : Nat} {w : World} {a : Option Addr} {n cap : Nat} {l : List PId} (h : ownIds B w (.slice a n cap) l) : l.length ≤ cap ∧ cap ≤ maxLen := by
  obtain ⟨a', c', e, h1, h2, _⟩ := owns_form h
  injection e with _ _ e3
  rw [e3]
  exact ⟨h1, h2⟩
theorem src_none {w : World} {v : Value} {a : Addr} {c : Nat} (h : v = .slice (some a) 0 c) : srcIs w idC v [] := .inr ⟨a, c, h, fun j u hu => by simp at hu⟩

end Go.Proofs.YtnkpogjiiohapaaGreatDoor
