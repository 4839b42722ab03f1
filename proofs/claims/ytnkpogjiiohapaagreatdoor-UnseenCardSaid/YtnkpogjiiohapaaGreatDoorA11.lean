/- Our own text (PlC, PlD, PTextA). -/
import Derived.Test.YtnkpogjiiohapaaGreatDoorShelf
import Derived.Lib.AppendIntMem
import Derived.Test.YtnkpogjiiohapaaGreatDoorA10
import Derived.Test.YtnkpogjiiohapaaGreatDoorA02
import Derived.Test.YtnkpogjiiohapaaGreatDoorA05
set_option linter.unusedSimpArgs false
set_option linter.unusedVariables false

/-! PlC: Plain: what a document is like that one copy alone has written; each operation of a plan is as is asked. -/
namespace Go.Proofs.YtnkpogjiiohapaaGreatDoor
open Go.RowKit

/-! What the reference's document is like where each place has one value at most. -/
theorem objP_of (R : List PObj) (x : PId) (lst : Bool) : (objOf R x = none ∧ objP R x lst = .error 3) ∨ ∃ o k, objOf R x = some o ∧ R[k]? = some o ∧ objP R x lst = if o.list = lst then .ok k else .error 4 := by
  unfold objP
  by_cases hf : firstI (pobjIs x) R < 0
  · rw [if_pos hf]
    exact .inl ⟨first_neg.1 hf, rfl⟩
  · rw [if_neg hf]
    have h1 := first_pos hf
    obtain ⟨hk, h2, h3⟩ := List.findIdx?_eq_some_iff_getElem.1 h1
    refine .inr ⟨R[(firstI (pobjIs x) R).toNat], (firstI (pobjIs x) R).toNat, ?_, by simp [hk], ?_⟩
    · unfold objOf
      rw [List.find?_eq_some_iff_getElem]
      exact ⟨h2, _, hk, rfl, fun j hj => by simpa using h3 j hj⟩
    · rw [List.getElem?_eq_getElem hk]
theorem objOf_of_mem {R : List PObj} (hn : (R.map PObj.id).Nodup) {o : PObj} (ho : o ∈ R) : objOf R o.id = some o := by
  unfold objOf
  obtain ⟨k, hk, rfl⟩ := List.mem_iff_getElem.1 ho
  rw [List.find?_eq_some_iff_getElem]
  refine ⟨pobjIs_true.2 rfl, k, hk, rfl, fun j hj => ?_⟩
  have := List.pairwise_iff_getElem.1 (List.pairwise_map.1 hn) j k (by omega) hk hj
  cases h : pobjIs R[k].id R[j]
  · rfl
  · exact absurd (pobjIs_true.1 h) this

/-- A list that is changed in one place. -/
theorem mem_modify {α : Type} {f : α → α} {l : List α} {k : Nat} {a : α} (h : a ∈ l.modify k f) : a ∈ l ∨ ∃ b ∈ l, l[k]? = some b ∧ a = f b := by
  obtain ⟨j, hj, rfl⟩ := List.mem_iff_getElem.1 h
  rw [List.length_modify] at hj
  rw [List.getElem_modify]
  by_cases e : k = j
  · subst e
    simp only [if_true]
    exact .inr ⟨l[k], List.getElem_mem hj, by simp [hj], rfl⟩
  · rw [if_neg e]
    exact .inl (List.getElem_mem hj)

structure RefOk (R : List PObj) (t : Int) (n : Nat) : Prop where
  ids : (R.map PObj.id).Nodup
  top : 0 ≤ t
  bid : ∀ o ∈ R, o.id.1 ≤ t
  bsl : ∀ o ∈ R, ∀ s ∈ o.ss, s.id.1 ≤ t
  bgv : ∀ o ∈ R, ∀ s ∈ o.ss, ∀ h ∈ s.hs, h.giver.1 ≤ t
  ksz : ∀ o ∈ R, ∀ s ∈ o.ss, s.key.size ≤ 4
  nums : ∀ o ∈ R, ∀ s ∈ o.ss, ∀ h ∈ s.hs, intOk h.num
  objs : ∀ o ∈ R, ∀ s ∈ o.ss, ∀ h ∈ s.hs, ∃ o', objOf R h.obj = some o'
  one : ∀ o ∈ R, ∀ s ∈ o.ss, s.hs.length ≤ 1
  root : ∃ o, objOf R (0, 0) = some o ∧ o.list = false
  cnt : ∀ o ∈ R, o.ss.length ≤ n

/-- What is asked of the next operation. -/
structure Next (R : List PObj) (t : Int) (p : POp) : Prop where
  new : t < p.id.1
  kind : p.kind = 1 ∨ p.kind = 2 ∨ p.kind = 3 ∨ p.kind = 4
  lay : p.kind = 2 → ∃ o, objOf R p.object = some o ∧ o.list = true ∧ (p.behind = (0, 0) ∨ p.behind ∈ o.ss.map PSlot.id)
  val : p.kind = 3 ∨ p.kind = 4 → ∃ o, objOf R p.object = some o ∧ ((o.list = false ∧ p.key ≠ ⟨#[]⟩ ∧ p.element = (0, 0)) ∨ (o.list = true ∧ p.key = ⟨#[]⟩ ∧ p.element ∈ o.ss.map PSlot.id)) ∧ p.old = (heldsAt o p.key p.element).map PHeld.giver
  obj : p.kind = 3 → ∃ o, objOf R p.obj = some o
  ksz : p.key.size ≤ 4
  num : intOk p.num

theorem helds_mem {o : PObj} {key : ByteArray} {x : PId} {h : PHeld} (hh : h ∈ heldsAt o key x) : ∃ s ∈ o.ss, pslotIs key x s = true ∧ s.hs = heldsAt o key x := by
  unfold heldsAt at hh ⊢
  cases hf : o.ss.find? (pslotIs key x) with
  | none => rw [hf] at hh; cases hh
  | some s => exact ⟨s, List.mem_of_find?_eq_some hf, List.find?_some hf, rfl⟩

theorem RefOk.fit {R : List PObj} {t : Int} {n : Nat} (h : RefOk R t n) {p : POp} (hp : Next R t p) : Fit R p := by
  have hnew := hp.new
  have htop := h.top
  refine ⟨hp.kind, fun hk => ?_, fun hk => ⟨fun e => ?_, fun x o hx hm => ?_, hp.lay hk⟩, fun hk => ?_, hp.obj⟩
  · cases ho : objOf R p.id with
    | none => rfl
    | some o =>
      have h1 := h.bid o (objOf_mem ho)
      rw [objOf_id ho] at h1
      omega
  · rw [e] at hnew
    simp at hnew
    omega
  · obtain ⟨s, hs, he⟩ := List.mem_map.1 hm
    have := h.bsl o (objOf_mem hx) s hs
    rw [he] at this
    omega
  · obtain ⟨o, h1, h2, h3⟩ := hp.val hk
    refine ⟨o, h1, h2, fun x hx e => ?_⟩
    obtain ⟨s, hs, _, he⟩ := helds_mem hx
    have := h.bgv o (objOf_mem h1) s hs x (he ▸ hx)
    rw [e] at this
    omega

/-- The slots of an object behind an operation. -/
theorem does_slots {p : POp} {o : PObj} {s : PSlot} (hs : s ∈ (doesAt p o).ss) : s ∈ o.ss ∨ (s.key = ⟨#[]⟩ ∧ s.id = p.id ∧ s.hs = []) ∨ (p.kind ≠ 2 ∧ s.key = p.key ∧ s.id = (0, 0) ∧ s.hs = newHelds p.old [] p.kind p.held) ∨
    p.kind ≠ 2 ∧ ∃ s0 ∈ o.ss, s.key = s0.key ∧ s.id = s0.id ∧ pslotIs p.key p.element s0 = true ∧ s0.hs = heldsAt o p.key p.element ∧ s.hs = newHelds p.old s0.hs p.kind p.held := by
  unfold doesAt at hs
  split at hs
  · split at hs
    · simp only [laidP] at hs
      have hin : ∀ {l : List PSlot} {k : Nat}, s ∈ pinsAt l k (pslot0 ⟨#[]⟩ p.id) → s ∈ l ∨ (s.key = ⟨#[]⟩ ∧ s.id = p.id ∧ s.hs = []) := by
        intro l k hs
        unfold pinsAt at hs
        rw [List.mem_append, List.mem_cons] at hs
        rcases hs with hs | hs | hs
        · exact .inl (List.mem_of_mem_take hs)
        · subst hs; exact .inr ⟨rfl, rfl, rfl⟩
        · exact .inl (List.mem_of_mem_drop hs)
      split at hs
      · exact (hin hs).imp id .inl
      · split at hs
        · exact .inl hs
        · exact (hin hs).imp id .inl
    · exact .inl hs
  · rename_i hk2
    split at hs
    · simp only [valuedP] at hs
      split at hs
      · split at hs
        · exact .inl hs
        · rcases List.mem_append.1 hs with hs | hs
          · exact .inl hs
          · simp at hs
            subst hs
            exact .inr (.inr (.inl ⟨hk2, rfl, rfl, rfl⟩))
      · rename_i hf
        rcases mem_modify hs with hs | ⟨s0, hs0, hk0, rfl⟩
        · exact .inl hs
        · have h1 := first_pos hf
          obtain ⟨hk, h2, h3⟩ := List.findIdx?_eq_some_iff_getElem.1 h1
          rw [List.getElem?_eq_getElem hk] at hk0
          cases hk0
          refine .inr (.inr (.inr ⟨hk2, _, hs0, rfl, rfl, h2, ?_, rfl⟩))
          unfold heldsAt
          rw [List.find?_eq_some_iff_getElem.2 ⟨h2, _, hk, rfl, fun j hj => by simpa using h3 j hj⟩]
    · exact .inl hs
theorem does_len (p : POp) (o : PObj) : (doesAt p o).ss.length ≤ o.ss.length + 1 := by
  have hins : ∀ (l : List PSlot) (k : Nat) (s : PSlot), (pinsAt l k s).length ≤ l.length + 1 := fun l k s => by
    unfold pinsAt; rw [List.length_append, List.length_cons, List.length_take, List.length_drop]; omega
  unfold doesAt
  split
  · split
    · simp only [laidP]
      split
      · exact hins _ _ _
      · split
        · omega
        · exact hins _ _ _
    · omega
  · split
    · simp only [valuedP]
      split
      · split
        · omega
        · simp
      · simp
    · omega
theorem does_mem {R : List PObj} {p : POp} {o : PObj} (ho : o ∈ doesP R p) : o ∈ R ∨ (p.kind = 1 ∧ o = ⟨p.id, p.list, []⟩) ∨ ∃ o0 ∈ R, p.kind ≠ 1 ∧ objOf R p.object = some o0 ∧ o = doesAt p o0 := by
  unfold doesP at ho
  split at ho
  · rename_i hk
    rcases List.mem_append.1 ho with ho | ho
    · exact .inl ho
    · simp at ho
      exact .inr (.inl ⟨hk, ho⟩)
  · rename_i hk
    split at ho
    · exact .inl ho
    · rename_i hf
      rcases mem_modify ho with ho | ⟨o0, h0, hk0, rfl⟩
      · exact .inl ho
      · refine .inr (.inr ⟨o0, h0, hk, ?_, rfl⟩)
        have h1 := first_pos hf
        obtain ⟨hk', h2, h3⟩ := List.findIdx?_eq_some_iff_getElem.1 h1
        rw [List.getElem?_eq_getElem hk'] at hk0
        cases hk0
        unfold objOf
        rw [List.find?_eq_some_iff_getElem]
        exact ⟨h2, _, hk', rfl, fun j hj => by simpa using h3 j hj⟩
theorem does_keeps {R : List PObj} {p : POp} {x : PId} {o : PObj} (ho : objOf R x = some o) : ∃ o', objOf (doesP R p) x = some o' ∧ o'.list = o.list := by
  by_cases hk : p.kind = 1
  · exact ⟨o, by rw [make_obj hk, ho], rfl⟩
  · rw [does_obj hk]
    split
    · exact ⟨doesAt p o, by rw [ho]; rfl, by unfold doesAt; split <;> split <;> rfl⟩
    · exact ⟨o, ho, rfl⟩

/-- ONE OPERATION MORE. -/
theorem RefOk.step {R : List PObj} {t : Int} {n : Nat} (h : RefOk R t n) {p : POp} (hp : Next R t p) : RefOk (doesP R p) p.id.1 (n + 1) := by
  have hnew := hp.new
  have htop := h.top
  have hfit := h.fit hp
  have hslot : ∀ o ∈ doesP R p, ∀ s ∈ o.ss, (∃ o0 ∈ R, s ∈ o0.ss) ∨ (s.key = ⟨#[]⟩ ∧ s.id = p.id ∧ s.hs = []) ∨ ((p.kind = 3 ∨ p.kind = 4) ∧ s.key = p.key ∧ s.id = (0, 0) ∧ s.hs = newHelds p.old [] p.kind p.held) ∨
      (p.kind = 3 ∨ p.kind = 4) ∧ ∃ o0, objOf R p.object = some o0 ∧ ∃ s0 ∈ o0.ss, s.key = s0.key ∧ s.id = s0.id ∧ pslotIs p.key p.element s0 = true ∧ s0.hs = heldsAt o0 p.key p.element ∧ s.hs = newHelds p.old s0.hs p.kind p.held := by
    intro o ho s hs
    rcases does_mem ho with ho | ⟨_, rfl⟩ | ⟨o0, h0, hk1, h1, rfl⟩
    · exact .inl ⟨o, ho, hs⟩
    · cases hs
    · have hk34 : p.kind ≠ 2 → p.kind = 3 ∨ p.kind = 4 := fun h2 => by have := hp.kind; omega
      rcases does_slots hs with h' | h' | ⟨h2, h'⟩ | ⟨h2, h'⟩
      · exact .inl ⟨o0, h0, h'⟩
      · exact .inr (.inl h')
      · exact .inr (.inr (.inl ⟨hk34 h2, h'⟩))
      · exact .inr (.inr (.inr ⟨hk34 h2, o0, h1, h'⟩))
  have hheld : ∀ o ∈ doesP R p, ∀ s ∈ o.ss, ∀ x ∈ s.hs, (∃ o0 ∈ R, ∃ s0 ∈ o0.ss, x ∈ s0.hs) ∨ (p.kind = 3 ∧ x = p.held) := by
    intro o ho s hs x hx
    have hnh : ∀ hs0 : List PHeld, x ∈ newHelds p.old hs0 p.kind p.held → x ∈ hs0 ∨ (p.kind = 3 ∧ x = p.held) := by
      intro hs0 hx
      unfold newHelds at hx
      rcases List.mem_append.1 hx with hx | hx
      · exact .inl (List.mem_filter.1 hx).1
      · split at hx
        · rename_i hk
          exact .inr ⟨hk, by simpa using hx⟩
        · cases hx
    rcases hslot o ho s hs with ⟨o0, h0, hs0⟩ | ⟨_, _, he⟩ | ⟨_, _, _, he⟩ | ⟨_, o0, h0, s0, hs0, _, _, _, _, he⟩
    · exact .inl ⟨o0, h0, s, hs0, hx⟩
    · rw [he] at hx; cases hx
    · rw [he] at hx
      exact (hnh [] hx).imp (fun h' => by cases h') id
    · rw [he] at hx
      exact (hnh _ hx).imp (fun h' => ⟨o0, objOf_mem h0, s0, hs0, h'⟩) id
  refine ⟨?_, by omega, ?_, ?_, ?_, ?_, ?_, ?_, ?_, ?_, ?_⟩
  · by_cases hk : p.kind = 1
    · have hno := hfit.make hk
      unfold doesP
      rw [if_pos hk, List.map_append]
      have hp := List.perm_append_comm (l₁ := R.map PObj.id) (l₂ := [p.id])
      refine (hp.nodup_iff).2 (List.nodup_cons.2 ⟨fun hm => ?_, h.ids⟩)
      obtain ⟨o, ho, he⟩ := List.mem_map.1 hm
      have := objOf_of_mem h.ids ho
      rw [he, hno] at this
      cases this
    · unfold doesP
      rw [if_neg hk]
      split
      · exact h.ids
      · rw [ids_modify (doesAt_id' p)]
        exact h.ids
  · intro o ho
    rcases does_mem ho with ho | ⟨_, rfl⟩ | ⟨o0, h0, _, _, rfl⟩
    · have := h.bid o ho; omega
    · exact Int.le_refl _
    · rw [doesAt_id']
      have := h.bid o0 h0; omega
  · intro o ho s hs
    rcases hslot o ho s hs with ⟨o0, h0, hs0⟩ | ⟨_, he, _⟩ | ⟨_, _, he, _⟩ | ⟨_, o0, h0, s0, hs0, _, he, _⟩
    · have := h.bsl o0 h0 s hs0; omega
    · rw [he]; exact Int.le_refl _
    · rw [he]; show (0 : Int) ≤ _; omega
    · rw [he]
      have := h.bsl o0 (objOf_mem h0) s0 hs0; omega
  · intro o ho s hs x hx
    rcases hheld o ho s hs x hx with ⟨o0, h0, s0, hs0, hx0⟩ | ⟨_, rfl⟩
    · have := h.bgv o0 h0 s0 hs0 x hx0; omega
    · exact Int.le_refl _
  · intro o ho s hs
    rcases hslot o ho s hs with ⟨o0, h0, hs0⟩ | ⟨he, _⟩ | ⟨_, he, _⟩ | ⟨_, o0, h0, s0, hs0, he, _⟩
    · exact h.ksz o0 h0 s hs0
    · rw [he]; show (0 : Nat) ≤ 4; omega
    · rw [he]; exact hp.ksz
    · rw [he]; exact h.ksz o0 (objOf_mem h0) s0 hs0
  · intro o ho s hs x hx
    rcases hheld o ho s hs x hx with ⟨o0, h0, s0, hs0, hx0⟩ | ⟨_, rfl⟩
    · exact h.nums o0 h0 s0 hs0 x hx0
    · exact hp.num
  · intro o ho s hs x hx
    have : ∃ o', objOf R x.obj = some o' := by
      rcases hheld o ho s hs x hx with ⟨o0, h0, s0, hs0, hx0⟩ | ⟨hk, rfl⟩
      · exact h.objs o0 h0 s0 hs0 x hx0
      · exact hp.obj hk
    obtain ⟨o', ho'⟩ := this
    obtain ⟨o2, h2, _⟩ := does_keeps (p := p) ho'
    exact ⟨o2, h2⟩
  · intro o ho s hs
    have hun : ∀ hs0 : List PHeld, p.old = hs0.map PHeld.giver → (newHelds p.old hs0 p.kind p.held).length ≤ 1 := by
      intro hs0 he
      have : unnamed p.old hs0 = [] := by
        unfold unnamed
        rw [List.filter_eq_nil_iff]
        intro x hx
        have : x.giver ∈ p.old := by rw [he]; exact List.mem_map.2 ⟨x, hx, rfl⟩
        simp [this]
      unfold newHelds
      rw [this]
      split <;> simp
    rcases hslot o ho s hs with ⟨o0, h0, hs0⟩ | ⟨_, _, he⟩ | ⟨hk, _, _, he⟩ | ⟨hk, o0, h0, s0, hs0, _, _, _, hh, he⟩
    · exact h.one o0 h0 s hs0
    · rw [he]; simp
    · rw [he]
      unfold newHelds unnamed
      split <;> simp
    · rw [he]
      obtain ⟨o1, h1, _, h3⟩ := hp.val hk
      rw [h0] at h1
      cases h1
      exact hun _ (by rw [hh]; exact h3)
  · obtain ⟨o, ho, hl⟩ := h.root
    obtain ⟨o2, h2, h3⟩ := does_keeps (p := p) ho
    exact ⟨o2, h2, h3.trans hl⟩
  · intro o ho
    rcases does_mem ho with ho | ⟨_, rfl⟩ | ⟨o0, h0, _, _, rfl⟩
    · have := h.cnt o ho; omega
    · simp
    · have := does_len p o0
      have := h.cnt o0 h0; omega

theorem RefOk.start : RefOk rootP 0 0 := by
  have hm : ∀ o ∈ rootP, o = ⟨(0, 0), false, []⟩ := fun o ho => by simpa [rootP] using ho
  refine ⟨by simp [rootP], Int.le_refl _, fun o ho => ?_, fun o ho s hs => ?_, fun o ho s hs => ?_, fun o ho s hs => ?_, fun o ho s hs => ?_, fun o ho s hs => ?_, fun o ho s hs => ?_, ⟨⟨(0, 0), false, []⟩, by simp [objOf, rootP, pobjIs, idEq], rfl⟩, fun o ho => ?_⟩
  · rw [hm o ho]; exact Int.le_refl _
  all_goals (rw [hm o ho] at *)
  all_goals (first | (cases hs; done) | simp)

/-! The plans: each operation is as is asked of the next one. -/
section
theorem next_make {R : List PObj} {t : Int} (t' c : Int) (ht : t < t') (lst : Bool) : Next R t (opMake t' c lst) :=
  ⟨ht, .inl rfl, fun hk => absurd hk (by show ¬ (1 : Int) = 2; omega), fun hk => absurd hk (by show ¬ ((1 : Int) = 3 ∨ (1 : Int) = 4); omega), fun hk => absurd hk (by show ¬ (1 : Int) = 3; omega), Nat.zero_le _, by unfold intOk opMake; simp⟩
end
section
end
theorem Agree.made {R : List PObj} {t : Int} {m : Nat} (h : RefOk R t m) {D : QDoc} (ha : Agree R D) (c : Int) (lst : Bool) : Agree (doesP R (opMake (t + 1) c lst)) (putI (t + 1, c) ⟨lst, none, [], (0, 0)⟩ D.1, D.2) :=
  ha.make (p := opMake (t + 1) c lst) rfl ((h.fit (next_make (t + 1) c (by omega) lst)).make rfl)
end Go.Proofs.YtnkpogjiiohapaaGreatDoor

/-! PlD: Plain: the text of a document, joined; how long it may be. -/
namespace Go.Proofs.YtnkpogjiiohapaaGreatDoor
open Go.RowKit

theorem numText_len (n : Int) (h : intOk n) : (numText n).size ≤ 21 := numText_size n h.1 h.2
/-! The text of a document. -/
/-- Texts with a sign between them. -/
def joinB (sep : ByteArray) : List ByteArray → ByteArray
  | [] => ⟨#[]⟩
  | x :: l => l.foldl (fun s y => (s ++ sep) ++ y) x
theorem isEmpty_size (a : ByteArray) : a.toList.isEmpty = true ↔ a.size = 0 := by
  constructor
  · intro h
    have : a = ⟨#[]⟩ := key_inj (by rw [nil_toList]; exact List.isEmpty_iff.1 h)
    rw [this]; rfl
  · intro h
    have : a = ⟨#[]⟩ := by apply ByteArray.ext; exact Array.eq_empty_of_size_eq_zero h
    rw [this, nil_toList]; rfl
def seenS (s : PSlot) : Bool := decide (0 < s.hs.length)
theorem bodySize (T : PId → ByteArray) (list : Bool) (V : Nat) (M : List PSlot) (hM : ∀ s ∈ M, s.key.size ≤ 4 ∧ (valsText T s.hs).size ≤ V) : (objBody T list M).size ≤ M.length * (6 + V) := by
  have : ∀ (M : List PSlot), (∀ s ∈ M, s.key.size ≤ 4 ∧ (valsText T s.hs).size ≤ V) → ∀ a : ByteArray, (M.foldl (objStep T list) a).size ≤ a.size + M.length * (6 + V) := by
    intro M
    induction M with
    | nil => intro _ a; simp
    | cons s M ih =>
      intro hM a
      rw [List.foldl_cons]
      have h1 := ih (fun s hs => hM s (List.mem_cons_of_mem _ hs)) (objStep T list a s)
      have h2 := hM s List.mem_cons_self
      have h3 : (objStep T list a s).size ≤ a.size + (6 + V) := by
        unfold objStep
        have hc : comma.size = 1 := rfl
        have hc' : colon.size = 1 := rfl
        split
        · omega
        · simp only
          split <;> split <;> simp only [ba_size_append] <;> omega
      rw [List.length_cons, Nat.succ_mul]
      omega
  have := this M hM ⟨#[]⟩
  have e : (⟨#[]⟩ : ByteArray).size = 0 := rfl
  rw [e, Nat.zero_add] at this
  exact this

def TB : Nat → Nat
  | 0 => 1
  | r + 1 => 2 + 60 * (27 + TB r)
theorem ord_mem {o : PObj} {s : PSlot} (hs : s ∈ ordP o) : s ∈ o.ss := by
  unfold ordP sortP at hs
  split at hs
  · exact hs
  · exact (List.mergeSort_perm _ _).mem_iff.1 hs
theorem ord_len (o : PObj) : (ordP o).length = o.ss.length := by
  unfold ordP sortP
  split
  · rfl
  · exact (List.mergeSort_perm _ _).length_eq
section
theorem RefOk.vals_size {R : List PObj} {t : Int} {n : Nat} (h : RefOk R t n) {T : PId → ByteArray} {B : Nat} (hT : ∀ x, (T x).size ≤ B) {o : PObj} (ho : o ∈ R) {s : PSlot} (hs : s ∈ o.ss) : (valsText T s.hs).size ≤ 21 + B := by
  have h1 := h.one o ho s hs
  have h2 := h.nums o ho s hs
  match hh : s.hs with
  | [] => show 0 ≤ _; omega
  | [x] =>
    show (itemText T x).size ≤ _
    unfold itemText
    split
    · have := numText_len x.num (h2 x (by rw [hh]; simp)); omega
    · have := hT x.obj; omega
  | x :: y :: l => rw [hh] at h1; simp at h1
theorem RefOk.body_size {R : List PObj} {t : Int} {n : Nat} (h : RefOk R t n) (hn : n ≤ 60) {T : PId → ByteArray} {B : Nat} (hT : ∀ x, (T x).size ≤ B) {o : PObj} (ho : o ∈ R) : (objBody T o.list (ordP o)).size ≤ 60 * (27 + B) := by
  have h1 := bodySize T o.list (21 + B) (ordP o) (fun s hs => ⟨h.ksz o ho s (ord_mem hs), h.vals_size hT ho (ord_mem hs)⟩)
  rw [ord_len] at h1
  have h2 := h.cnt o ho
  have : o.ss.length * (6 + (21 + B)) ≤ 60 * (6 + (21 + B)) := Nat.mul_le_mul_right _ (by omega)
  omega
theorem RefOk.text_size {R : List PObj} {t : Int} {n : Nat} (h : RefOk R t n) (hn : n ≤ 60) (r : Nat) : ∀ x : PId, (textP R r x).size ≤ TB r := by
  induction r with
  | zero => exact fun x => Nat.le_refl 1
  | succ r ih =>
    intro x
    show (match R.find? (pobjIs x) with | some o => objText (textP R r) o.list (ordP o) | none => ⟨#[]⟩).size ≤ _
    cases hf : R.find? (pobjIs x) with
    | none => show 0 ≤ _; omega
    | some o =>
      have := h.body_size hn ih (List.mem_of_find?_eq_some hf)
      show (objText (textP R r) o.list (ordP o)).size ≤ 2 + 60 * (27 + TB r)
      unfold objText
      have e1 : (⟨#[91]⟩ : ByteArray).size = 1 := rfl
      have e2 : (⟨#[93]⟩ : ByteArray).size = 1 := rfl
      have e3 : (⟨#[123]⟩ : ByteArray).size = 1 := rfl
      have e4 : (⟨#[125]⟩ : ByteArray).size = 1 := rfl
      split <;> simp only [ba_size_append] <;> omega
end

end Go.Proofs.YtnkpogjiiohapaaGreatDoor

/-! PTextA: Numbers as text, texts joined, keys sorted: the library's contracts on our rows. -/
namespace Go.Proofs.YtnkpogjiiohapaaGreatDoor
open Go.RowKit

/-- The table of powers lies where the library looks it up. -/
def Pow (w : World) : Prop := Lib.TabIs Tryz.prog w "internal/strconv.uint64pow10" .u64 Lib.pow10Tab
theorem Pow.keep {w w' : World} (h : Pow w) (hb : Below w.heap.size w w') : Pow w' := Lib.tabBelow_of_tabIs h w' hb

theorem itoa_q (n : Int) (hn : intOk n) {w : World} (h : Pow w) : Calls Tryz.prog 206 #[.int .i64 n] w fun e w' => e = .returned (.string (numText n)) ∧ Below w.heap.size w w' :=
  (Tryz.strconv_Itoa n hn.1 hn.2 w h).mono fun e w' hh => by
    obtain ⟨h1, k, os, h2⟩ := hh
    exact ⟨h1, by rw [h2]; exact Lib.below_grow _ w (Nat.le_refl _) k os⟩

theorem join_data (sep : ByteArray) (l : List ByteArray) : (⟨(Lib.join (l.map (·.data.toList)) sep.data.toList).toArray⟩ : ByteArray) = joinB sep l := by
  cases l with
  | nil => rfl
  | cons x l =>
    apply ByteArray.ext
    apply Array.toList_inj.1
    simp only [List.map_cons, Lib.join_cons, joinB]
    have : ∀ (l : List ByteArray) (a : ByteArray), (l.foldl (fun s y => (s ++ sep) ++ y) a).data.toList = a.data.toList ++ Lib.joinTail sep.data.toList (l.map (·.data.toList)) := by
      intro l
      induction l with
      | nil => intro a; simp [Lib.joinTail]
      | cons y l ih =>
        intro a
        rw [List.foldl_cons, ih]
        simp [Lib.joinTail, ByteArray.data_append, List.append_assoc]
    rw [this]

theorem strC_len (l : List ByteArray) : (l.flatMap strC).length = l.length := by unfold strC; rw [← List.map_eq_flatMap]; simp
theorem strs_cells {B : Nat} {w : World} {g cap : Nat} {l : List ByteArray} (h : ownStrs B w (.slice (some ⟨g, 0, none⟩) l.length cap) l) (j : Nat) (x : ByteArray) (hx : l[j]? = some x) : w.cell? ⟨g, 0 + j, none⟩ = some (.string x) := by
  obtain ⟨hj, rfl⟩ := List.getElem?_eq_some_iff.1 hx
  have h1 := World.ownsRow.cellAt h j (by omega)
  rw [Nat.zero_add, h1]
  have : l.flatMap strC = l.map Value.string := by unfold strC; exact List.map_eq_flatMap.symm
  rw [this]
  simp [hj]
theorem join_q {B : Nat} {w : World} {v : Value} {l : List ByteArray} (h : ownStrs B w v l) (sep : ByteArray) (hl : l.length ≤ 10000) (hs : (joinB sep l).size ≤ 140737488355328) :
    Calls Tryz.prog 168 #[v, .string sep] w fun e w' => e = .returned (.string (joinB sep l)) ∧ Below w.heap.size w w' := by
  obtain ⟨a, c, rfl, hlc, hcm, hf⟩ := owns_form h
  cases l with
  | nil => exact (Tryz.strings_Join_none a c sep w).mono fun e w' hh => ⟨hh.1, by rw [hh.2]; exact Below.refl _ _⟩
  | cons x l =>
    obtain ⟨g, rfl⟩ := hf 0 (by simp)
    have hd := join_data sep (x :: l)
    have hz : (Lib.join ((x :: l).map (·.data.toList)) sep.data.toList).length ≤ 140737488355328 := by
      have := congrArg (fun z : ByteArray => z.data.size) hd
      simp only [List.size_toArray] at this
      rw [this]; exact hs
    have := Tryz.strings_Join g 0 c (x :: l) sep w (strs_cells h) (World.ownsRow.lt h g rfl).2 (by omega) hlc hz
    rw [hd] at this
    exact this

/-- The keys in their order. -/
def srtB (l : List ByteArray) : List ByteArray := ((l.map (·.data.toList)).mergeSort fun x y => decide (x ≤ y)).map fun x => ⟨x.toArray⟩
theorem srtB_len (l : List ByteArray) : (srtB l).length = l.length := by unfold srtB; simp
theorem back_id (l : List ByteArray) : (l.map (·.data.toList)).map (fun x => (⟨x.toArray⟩ : ByteArray)) = l := by
  rw [List.map_map]
  refine (List.map_congr_left (g := id) fun a _ => ?_).trans (List.map_id l)
  rfl
theorem le_trans_b (a b c : List UInt8) : decide (a ≤ b) = true → decide (b ≤ c) = true → decide (a ≤ c) = true := fun h1 h2 => by
  simp only [decide_eq_true_eq] at *
  exact List.le_trans h1 h2
theorem le_total_b (a b : List UInt8) : (decide (a ≤ b) || decide (b ≤ a)) = true := by
  simp only [Bool.or_eq_true, decide_eq_true_eq]
  exact List.le_total a b
theorem srtB_perm (l : List ByteArray) : (srtB l).Perm l := by
  unfold srtB
  have := (List.mergeSort_perm (l.map (·.data.toList)) (fun x y => decide (x ≤ y))).map (fun x => (⟨x.toArray⟩ : ByteArray))
  rw [back_id] at this
  exact this
theorem srtB_sorted (l : List ByteArray) : (srtB l).Pairwise fun a b => a.data.toList ≤ b.data.toList := by
  unfold srtB
  rw [List.pairwise_map]
  refine (List.pairwise_mergeSort (le := fun x y => decide (x ≤ y)) le_trans_b le_total_b (l.map (·.data.toList))).imp fun {a b} h => ?_
  simpa using h
theorem bytes_anti {a b : ByteArray} (h1 : a.data.toList ≤ b.data.toList) (h2 : b.data.toList ≤ a.data.toList) : a = b := by
  apply ByteArray.ext
  apply Array.toList_inj.1
  exact List.le_antisymm h1 h2
theorem srtB_eq {l m : List ByteArray} (hp : l.Perm m) (hs : m.Pairwise fun a b => a.data.toList ≤ b.data.toList) : srtB l = m :=
  List.Perm.eq_of_pairwise (le := fun a b => a.data.toList ≤ b.data.toList) (fun a b _ _ h1 h2 => bytes_anti h1 h2) (srtB_sorted l) hs ((srtB_perm l).trans hp)
theorem srtB_cong (l m : List ByteArray) (hp : l.Perm m) : srtB l = srtB m := srtB_eq (hp.trans (srtB_perm m).symm) (srtB_sorted m)
theorem less_le : ∀ (a b : List UInt8), Op.bytesLess b a = false → a ≤ b
  | [], b, _ => List.nil_le b
  | x :: a, [], h => by simp [Op.bytesLess] at h
  | x :: a, y :: b, h => by
    simp [Op.bytesLess, UInt8.lt_iff_toNat_lt, UInt8.le_iff_toNat_le] at h
    rw [List.cons_le_cons_iff]
    by_cases e : x = y
    · subst e
      exact .inr ⟨rfl, less_le a b (h.2 rfl)⟩
    · refine .inl ?_
      rw [UInt8.lt_iff_toNat_lt]
      have : x.toNat ≠ y.toNat := fun h' => e (UInt8.toNat_inj.1 h')
      omega

theorem sort_q (B : Nat) (W : World) (v : Value) (l : List ByteArray) (h : ownStrs B W v l) (hl : l.length ≤ 10000) :
    Calls Tryz.prog 188 #[v] W fun e W' => (∃ r, e = .returned r) ∧ ownStrs B W' v (srtB l) ∧ W.grownBy W' v.ownBlock := by
  obtain ⟨a, c, e, hlc, hcm, hf⟩ := owns_form h
  cases l with
  | nil =>
    subst e
    refine (Tryz.slices_Sort_string_none a c W).mono fun e W' hh => ?_
    obtain ⟨h1, rfl⟩ := hh
    have hnil : srtB [] = [] := by simp [srtB]
    exact ⟨⟨_, h1⟩, by rw [hnil]; exact h, rfl, rfl, rfl, Nat.le_refl _, fun _ _ _ => rfl⟩
  | cons x l =>
    obtain ⟨g, rfl⟩ := hf 0 (by simp)
    subst e
    rcases h.2 with ⟨h1, _⟩ | ⟨g', cap, cur, e, hb, hg, hnc, hcm', hcs, htake⟩
    · cases h1
    · cases e
      have hlen : ((x :: l).map (·.data.toList)).length = (x :: l).length := by simp
      have hH : Go.Sort.Holds encStr W g 0 ((x :: l).map (·.data.toList)).toArray := fun j hj => by
        have hj' : j < (x :: l).length := by simpa using hj
        refine ⟨?_, by simp [World.frozen?, hg]⟩
        rw [strs_cells h j (x :: l)[j] (by simp [hj'])]
        rw [getElem!_pos _ j hj]
        simp only [List.getElem_toArray, List.getElem_map]
      have hc := Tryz.slices_Sort_string g 0 c ((x :: l).map (·.data.toList)) W hH (blk_lt hg) (by rw [hlen]; omega)
      rw [hlen] at hc
      refine hc.mono fun e W' hh => ?_
      obtain ⟨h1, n, os, rfl⟩ := hh
      generalize hd : (((x :: l).map (·.data.toList)).mergeSort fun x y => decide (x ≤ y)) = d
      have hdl : d.length = (x :: l).length := by rw [← hd]; simp
      have hsr : srtB (x :: l) = d.map fun x => ⟨x.toArray⟩ := by unfold srtB; rw [hd]
      have hgl := blk_lt hg
      have hblk : (Go.Sort.grow (Go.Sort.putRow encStr (Go.Sort.ahead W n) g 0 d.toArray) os).heap[g]? = some (.cells (Go.Sort.putCells encStr 0 d.toArray cur) 9 (0, 0)) := by
        obtain ⟨_, hge⟩ := Array.getElem?_eq_some_iff.1 hg
        simp [Go.Sort.grow, Go.Sort.putRow, Go.Sort.mapBlock, Go.Sort.ahead, Array.getElem?_append, Array.getElem_modify, hge, Go.Sort.onCells, hgl]
      refine ⟨⟨_, h1⟩, ⟨?_, .inr ⟨g, c, _, ?_, hb, hblk, ?_, hcm', ?_, ?_⟩⟩, rfl, rfl, rfl, ?_, ?_⟩
      · rw [strC_len]; simp
      · rw [srtB_len]
      · rw [srtB_len]; exact hnc
      · simp only [Go.Sort.putCells, Array.size_mapIdx]; exact hcs
      · rw [srtB_len, hsr]
        apply List.ext_getElem?
        intro i
        have hcl : (x :: l).length ≤ cur.size := by omega
        by_cases hi : i < (x :: l).length
        · have h2 : i < cur.size := by omega
          have h3 : i < d.length := by omega
          rw [List.getElem?_take_of_lt (by omega)]
          simp only [Go.Sort.putCells]
          have hfm : ((d.map fun x => (⟨x.toArray⟩ : ByteArray)).flatMap strC) = d.map encStr := by
            unfold strC
            rw [← List.map_eq_flatMap, List.map_map]
            rfl
          rw [hfm]
          simp [h2, h3]
        · have h4 : ((d.map fun x => (⟨x.toArray⟩ : ByteArray)).flatMap strC).length = (x :: l).length := by rw [strC_len, List.length_map, hdl]
          rw [List.getElem?_eq_none (by rw [List.length_take]; omega), List.getElem?_eq_none (by omega)]
      · simp [Go.Sort.grow, Go.Sort.putRow, Go.Sort.mapBlock, Go.Sort.ahead]
      · intro k hk hne
        have hkg : g ≠ k := fun e => hne (by rw [← e]; rfl)
        simp [Go.Sort.grow, Go.Sort.putRow, Go.Sort.mapBlock, Go.Sort.ahead, Array.getElem?_append, Array.getElem_modify, hkg, hk]

end Go.Proofs.YtnkpogjiiohapaaGreatDoor
