/- Our own text (PlC, PlD). -/
import Derived.Test.YtnkpogjiiohapaaGreatDoorP06
import Derived.Test.YtnkpogjiiohapaaGreatDoorR01
set_option linter.unusedSimpArgs false
set_option linter.unusedVariables false

/-! PlC: Plain: what a document is like that one copy alone has written; each operation of a plan is as is asked. -/
namespace Go.Proofs.YtnkpogjiiohapaaGreatDoor
open Go.RowKit

/-! What the reference's document is like where each place has one value at most. -/
theorem objP_of (R : List PObj) (x : PId) (lst : Bool) : (objOf R x = none ∧ objP R x lst = .error 3) ∨ ∃ o k, objOf R x = some o ∧ R[k]? = some o ∧ objP R x lst = if o.list = lst then .ok k else .error 4 := by
  unfold objP
  by_cases hf : firstI (pobjIs x) R < 0
  · rw [if_pos hf]
    exact .inl ⟨first_neg.1 hf, rfl⟩
  · rw [if_neg hf]
    have h1 := first_pos hf
    obtain ⟨hk, h2, h3⟩ := List.findIdx?_eq_some_iff_getElem.1 h1
    refine .inr ⟨R[(firstI (pobjIs x) R).toNat], (firstI (pobjIs x) R).toNat, ?_, by simp [hk], ?_⟩
    · unfold objOf
      rw [List.find?_eq_some_iff_getElem]
      exact ⟨h2, _, hk, rfl, fun j hj => by simpa using h3 j hj⟩
    · rw [List.getElem?_eq_getElem hk]
theorem objOf_of_mem {R : List PObj} (hn : (R.map PObj.id).Nodup) {o : PObj} (ho : o ∈ R) : objOf R o.id = some o := by
  unfold objOf
  obtain ⟨k, hk, rfl⟩ := List.mem_iff_getElem.1 ho
  rw [List.find?_eq_some_iff_getElem]
  refine ⟨pobjIs_true.2 rfl, k, hk, rfl, fun j hj => ?_⟩
  have := List.pairwise_iff_getElem.1 (List.pairwise_map.1 hn) j k (by omega) hk hj
  cases h : pobjIs R[k].id R[j]
  · rfl
  · exact absurd (pobjIs_true.1 h) this

/-- A list that is changed in one place. -/
theorem mem_modify {α : Type} {f : α → α} {l : List α} {k : Nat} {a : α} (h : a ∈ l.modify k f) : a ∈ l ∨ ∃ b ∈ l, l[k]? = some b ∧ a = f b := by
  obtain ⟨j, hj, rfl⟩ := List.mem_iff_getElem.1 h
  rw [List.length_modify] at hj
  rw [List.getElem_modify]
  by_cases e : k = j
  · subst e
    simp only [if_true]
    exact .inr ⟨l[k], List.getElem_mem hj, by simp [hj], rfl⟩
  · rw [if_neg e]
    exact .inl (List.getElem_mem hj)

structure RefOk (R : List PObj) (t : Int) (n : Nat) : Prop where
  ids : (R.map PObj.id).Nodup
  top : 0 ≤ t
  bid : ∀ o ∈ R, o.id.1 ≤ t
  bsl : ∀ o ∈ R, ∀ s ∈ o.ss, s.id.1 ≤ t
  bgv : ∀ o ∈ R, ∀ s ∈ o.ss, ∀ h ∈ s.hs, h.giver.1 ≤ t
  ksz : ∀ o ∈ R, ∀ s ∈ o.ss, s.key.size ≤ 4
  nums : ∀ o ∈ R, ∀ s ∈ o.ss, ∀ h ∈ s.hs, intOk h.num
  objs : ∀ o ∈ R, ∀ s ∈ o.ss, ∀ h ∈ s.hs, ∃ o', objOf R h.obj = some o'
  one : ∀ o ∈ R, ∀ s ∈ o.ss, s.hs.length ≤ 1
  root : ∃ o, objOf R (0, 0) = some o ∧ o.list = false
  cnt : ∀ o ∈ R, o.ss.length ≤ n

/-- What is asked of the next operation. -/
structure Next (R : List PObj) (t : Int) (p : POp) : Prop where
  new : t < p.id.1
  kind : p.kind = 1 ∨ p.kind = 2 ∨ p.kind = 3 ∨ p.kind = 4
  lay : p.kind = 2 → ∃ o, objOf R p.object = some o ∧ o.list = true ∧ (p.behind = (0, 0) ∨ p.behind ∈ o.ss.map PSlot.id)
  val : p.kind = 3 ∨ p.kind = 4 → ∃ o, objOf R p.object = some o ∧ ((o.list = false ∧ p.key ≠ ⟨#[]⟩ ∧ p.element = (0, 0)) ∨ (o.list = true ∧ p.key = ⟨#[]⟩ ∧ p.element ∈ o.ss.map PSlot.id)) ∧ p.old = (heldsAt o p.key p.element).map PHeld.giver
  obj : p.kind = 3 → ∃ o, objOf R p.obj = some o
  ksz : p.key.size ≤ 4
  num : intOk p.num

theorem helds_mem {o : PObj} {key : ByteArray} {x : PId} {h : PHeld} (hh : h ∈ heldsAt o key x) : ∃ s ∈ o.ss, pslotIs key x s = true ∧ s.hs = heldsAt o key x := by
  unfold heldsAt at hh ⊢
  cases hf : o.ss.find? (pslotIs key x) with
  | none => rw [hf] at hh; cases hh
  | some s => exact ⟨s, List.mem_of_find?_eq_some hf, List.find?_some hf, rfl⟩

theorem RefOk.fit {R : List PObj} {t : Int} {n : Nat} (h : RefOk R t n) {p : POp} (hp : Next R t p) : Fit R p := by
  have hnew := hp.new
  have htop := h.top
  refine ⟨hp.kind, fun hk => ?_, fun hk => ⟨fun e => ?_, fun x o hx hm => ?_, hp.lay hk⟩, fun hk => ?_, hp.obj⟩
  · cases ho : objOf R p.id with
    | none => rfl
    | some o =>
      have h1 := h.bid o (objOf_mem ho)
      rw [objOf_id ho] at h1
      omega
  · rw [e] at hnew
    simp at hnew
    omega
  · obtain ⟨s, hs, he⟩ := List.mem_map.1 hm
    have := h.bsl o (objOf_mem hx) s hs
    rw [he] at this
    omega
  · obtain ⟨o, h1, h2, h3⟩ := hp.val hk
    refine ⟨o, h1, h2, fun x hx e => ?_⟩
    obtain ⟨s, hs, _, he⟩ := helds_mem hx
    have := h.bgv o (objOf_mem h1) s hs x (he ▸ hx)
    rw [e] at this
    omega

/-- The slots of an object behind an operation. -/
theorem does_slots {p : POp} {o : PObj} {s : PSlot} (hs : s ∈ (doesAt p o).ss) : s ∈ o.ss ∨ (s.key = ⟨#[]⟩ ∧ s.id = p.id ∧ s.hs = []) ∨ (p.kind ≠ 2 ∧ s.key = p.key ∧ s.id = (0, 0) ∧ s.hs = newHelds p.old [] p.kind p.held) ∨
    p.kind ≠ 2 ∧ ∃ s0 ∈ o.ss, s.key = s0.key ∧ s.id = s0.id ∧ pslotIs p.key p.element s0 = true ∧ s0.hs = heldsAt o p.key p.element ∧ s.hs = newHelds p.old s0.hs p.kind p.held := by
  unfold doesAt at hs
  split at hs
  · split at hs
    · simp only [laidP] at hs
      have hin : ∀ {l : List PSlot} {k : Nat}, s ∈ pinsAt l k (pslot0 ⟨#[]⟩ p.id) → s ∈ l ∨ (s.key = ⟨#[]⟩ ∧ s.id = p.id ∧ s.hs = []) := by
        intro l k hs
        unfold pinsAt at hs
        rw [List.mem_append, List.mem_cons] at hs
        rcases hs with hs | hs | hs
        · exact .inl (List.mem_of_mem_take hs)
        · subst hs; exact .inr ⟨rfl, rfl, rfl⟩
        · exact .inl (List.mem_of_mem_drop hs)
      split at hs
      · exact (hin hs).imp id .inl
      · split at hs
        · exact .inl hs
        · exact (hin hs).imp id .inl
    · exact .inl hs
  · rename_i hk2
    split at hs
    · simp only [valuedP] at hs
      split at hs
      · split at hs
        · exact .inl hs
        · rcases List.mem_append.1 hs with hs | hs
          · exact .inl hs
          · simp at hs
            subst hs
            exact .inr (.inr (.inl ⟨hk2, rfl, rfl, rfl⟩))
      · rename_i hf
        rcases mem_modify hs with hs | ⟨s0, hs0, hk0, rfl⟩
        · exact .inl hs
        · have h1 := first_pos hf
          obtain ⟨hk, h2, h3⟩ := List.findIdx?_eq_some_iff_getElem.1 h1
          rw [List.getElem?_eq_getElem hk] at hk0
          cases hk0
          refine .inr (.inr (.inr ⟨hk2, _, hs0, rfl, rfl, h2, ?_, rfl⟩))
          unfold heldsAt
          rw [List.find?_eq_some_iff_getElem.2 ⟨h2, _, hk, rfl, fun j hj => by simpa using h3 j hj⟩]
    · exact .inl hs
theorem does_len (p : POp) (o : PObj) : (doesAt p o).ss.length ≤ o.ss.length + 1 := by
  have hins : ∀ (l : List PSlot) (k : Nat) (s : PSlot), (pinsAt l k s).length ≤ l.length + 1 := fun l k s => by
    unfold pinsAt; rw [List.length_append, List.length_cons, List.length_take, List.length_drop]; omega
  unfold doesAt
  split
  · split
    · simp only [laidP]
      split
      · exact hins _ _ _
      · split
        · omega
        · exact hins _ _ _
    · omega
  · split
    · simp only [valuedP]
      split
      · split
        · omega
        · simp
      · simp
    · omega
theorem does_mem {R : List PObj} {p : POp} {o : PObj} (ho : o ∈ doesP R p) : o ∈ R ∨ (p.kind = 1 ∧ o = ⟨p.id, p.list, []⟩) ∨ ∃ o0 ∈ R, p.kind ≠ 1 ∧ objOf R p.object = some o0 ∧ o = doesAt p o0 := by
  unfold doesP at ho
  split at ho
  · rename_i hk
    rcases List.mem_append.1 ho with ho | ho
    · exact .inl ho
    · simp at ho
      exact .inr (.inl ⟨hk, ho⟩)
  · rename_i hk
    split at ho
    · exact .inl ho
    · rename_i hf
      rcases mem_modify ho with ho | ⟨o0, h0, hk0, rfl⟩
      · exact .inl ho
      · refine .inr (.inr ⟨o0, h0, hk, ?_, rfl⟩)
        have h1 := first_pos hf
        obtain ⟨hk', h2, h3⟩ := List.findIdx?_eq_some_iff_getElem.1 h1
        rw [List.getElem?_eq_getElem hk'] at hk0
        cases hk0
        unfold objOf
        rw [List.find?_eq_some_iff_getElem]
        exact ⟨h2, _, hk', rfl, fun j hj => by simpa using h3 j hj⟩
theorem does_keeps {R : List PObj} {p : POp} {x : PId} {o : PObj} (ho : objOf R x = some o) : ∃ o', objOf (doesP R p) x = some o' ∧ o'.list = o.list := by
  by_cases hk : p.kind = 1
  · exact ⟨o, by rw [make_obj hk, ho], rfl⟩
  · rw [does_obj hk]
    split
    · exact ⟨doesAt p o, by rw [ho]; rfl, by unfold doesAt; split <;> split <;> rfl⟩
    · exact ⟨o, ho, rfl⟩

/-- ONE OPERATION MORE. -/
theorem RefOk.step {R : List PObj} {t : Int} {n : Nat} (h : RefOk R t n) {p : POp} (hp : Next R t p) : RefOk (doesP R p) p.id.1 (n + 1) := by
  have hnew := hp.new
  have htop := h.top
  have hfit := h.fit hp
  have hslot : ∀ o ∈ doesP R p, ∀ s ∈ o.ss, (∃ o0 ∈ R, s ∈ o0.ss) ∨ (s.key = ⟨#[]⟩ ∧ s.id = p.id ∧ s.hs = []) ∨ ((p.kind = 3 ∨ p.kind = 4) ∧ s.key = p.key ∧ s.id = (0, 0) ∧ s.hs = newHelds p.old [] p.kind p.held) ∨
      (p.kind = 3 ∨ p.kind = 4) ∧ ∃ o0, objOf R p.object = some o0 ∧ ∃ s0 ∈ o0.ss, s.key = s0.key ∧ s.id = s0.id ∧ pslotIs p.key p.element s0 = true ∧ s0.hs = heldsAt o0 p.key p.element ∧ s.hs = newHelds p.old s0.hs p.kind p.held := by
    intro o ho s hs
    rcases does_mem ho with ho | ⟨_, rfl⟩ | ⟨o0, h0, hk1, h1, rfl⟩
    · exact .inl ⟨o, ho, hs⟩
    · cases hs
    · have hk34 : p.kind ≠ 2 → p.kind = 3 ∨ p.kind = 4 := fun h2 => by have := hp.kind; omega
      rcases does_slots hs with h' | h' | ⟨h2, h'⟩ | ⟨h2, h'⟩
      · exact .inl ⟨o0, h0, h'⟩
      · exact .inr (.inl h')
      · exact .inr (.inr (.inl ⟨hk34 h2, h'⟩))
      · exact .inr (.inr (.inr ⟨hk34 h2, o0, h1, h'⟩))
  have hheld : ∀ o ∈ doesP R p, ∀ s ∈ o.ss, ∀ x ∈ s.hs, (∃ o0 ∈ R, ∃ s0 ∈ o0.ss, x ∈ s0.hs) ∨ (p.kind = 3 ∧ x = p.held) := by
    intro o ho s hs x hx
    have hnh : ∀ hs0 : List PHeld, x ∈ newHelds p.old hs0 p.kind p.held → x ∈ hs0 ∨ (p.kind = 3 ∧ x = p.held) := by
      intro hs0 hx
      unfold newHelds at hx
      rcases List.mem_append.1 hx with hx | hx
      · exact .inl (List.mem_filter.1 hx).1
      · split at hx
        · rename_i hk
          exact .inr ⟨hk, by simpa using hx⟩
        · cases hx
    rcases hslot o ho s hs with ⟨o0, h0, hs0⟩ | ⟨_, _, he⟩ | ⟨_, _, _, he⟩ | ⟨_, o0, h0, s0, hs0, _, _, _, _, he⟩
    · exact .inl ⟨o0, h0, s, hs0, hx⟩
    · rw [he] at hx; cases hx
    · rw [he] at hx
      exact (hnh [] hx).imp (fun h' => by cases h') id
    · rw [he] at hx
      exact (hnh _ hx).imp (fun h' => ⟨o0, objOf_mem h0, s0, hs0, h'⟩) id
  refine ⟨?_, by omega, ?_, ?_, ?_, ?_, ?_, ?_, ?_, ?_, ?_⟩
  · by_cases hk : p.kind = 1
    · have hno := hfit.make hk
      unfold doesP
      rw [if_pos hk, List.map_append]
      have hp := List.perm_append_comm (l₁ := R.map PObj.id) (l₂ := [p.id])
      refine (hp.nodup_iff).2 (List.nodup_cons.2 ⟨fun hm => ?_, h.ids⟩)
      obtain ⟨o, ho, he⟩ := List.mem_map.1 hm
      have := objOf_of_mem h.ids ho
      rw [he, hno] at this
      cases this
    · unfold doesP
      rw [if_neg hk]
      split
      · exact h.ids
      · rw [ids_modify (doesAt_id' p)]
        exact h.ids
  · intro o ho
    rcases does_mem ho with ho | ⟨_, rfl⟩ | ⟨o0, h0, _, _, rfl⟩
    · have := h.bid o ho; omega
    · exact Int.le_refl _
    · rw [doesAt_id']
      have := h.bid o0 h0; omega
  · intro o ho s hs
    rcases hslot o ho s hs with ⟨o0, h0, hs0⟩ | ⟨_, he, _⟩ | ⟨_, _, he, _⟩ | ⟨_, o0, h0, s0, hs0, _, he, _⟩
    · have := h.bsl o0 h0 s hs0; omega
    · rw [he]; exact Int.le_refl _
    · rw [he]; show (0 : Int) ≤ _; omega
    · rw [he]
      have := h.bsl o0 (objOf_mem h0) s0 hs0; omega
  · intro o ho s hs x hx
    rcases hheld o ho s hs x hx with ⟨o0, h0, s0, hs0, hx0⟩ | ⟨_, rfl⟩
    · have := h.bgv o0 h0 s0 hs0 x hx0; omega
    · exact Int.le_refl _
  · intro o ho s hs
    rcases hslot o ho s hs with ⟨o0, h0, hs0⟩ | ⟨he, _⟩ | ⟨_, he, _⟩ | ⟨_, o0, h0, s0, hs0, he, _⟩
    · exact h.ksz o0 h0 s hs0
    · rw [he]; show (0 : Nat) ≤ 4; omega
    · rw [he]; exact hp.ksz
    · rw [he]; exact h.ksz o0 (objOf_mem h0) s0 hs0
  · intro o ho s hs x hx
    rcases hheld o ho s hs x hx with ⟨o0, h0, s0, hs0, hx0⟩ | ⟨_, rfl⟩
    · exact h.nums o0 h0 s0 hs0 x hx0
    · exact hp.num
  · intro o ho s hs x hx
    have : ∃ o', objOf R x.obj = some o' := by
      rcases hheld o ho s hs x hx with ⟨o0, h0, s0, hs0, hx0⟩ | ⟨hk, rfl⟩
      · exact h.objs o0 h0 s0 hs0 x hx0
      · exact hp.obj hk
    obtain ⟨o', ho'⟩ := this
    obtain ⟨o2, h2, _⟩ := does_keeps (p := p) ho'
    exact ⟨o2, h2⟩
  · intro o ho s hs
    have hun : ∀ hs0 : List PHeld, p.old = hs0.map PHeld.giver → (newHelds p.old hs0 p.kind p.held).length ≤ 1 := by
      intro hs0 he
      have : unnamed p.old hs0 = [] := by
        unfold unnamed
        rw [List.filter_eq_nil_iff]
        intro x hx
        have : x.giver ∈ p.old := by rw [he]; exact List.mem_map.2 ⟨x, hx, rfl⟩
        simp [this]
      unfold newHelds
      rw [this]
      split <;> simp
    rcases hslot o ho s hs with ⟨o0, h0, hs0⟩ | ⟨_, _, he⟩ | ⟨hk, _, _, he⟩ | ⟨hk, o0, h0, s0, hs0, _, _, _, hh, he⟩
    · exact h.one o0 h0 s hs0
    · rw [he]; simp
    · rw [he]
      unfold newHelds unnamed
      split <;> simp
    · rw [he]
      obtain ⟨o1, h1, _, h3⟩ := hp.val hk
      rw [h0] at h1
      cases h1
      exact hun _ (by rw [hh]; exact h3)
  · obtain ⟨o, ho, hl⟩ := h.root
    obtain ⟨o2, h2, h3⟩ := does_keeps (p := p) ho
    exact ⟨o2, h2, h3.trans hl⟩
  · intro o ho
    rcases does_mem ho with ho | ⟨_, rfl⟩ | ⟨o0, h0, _, _, rfl⟩
    · have := h.cnt o ho; omega
    · simp
    · have := does_len p o0
      have := h.cnt o0 h0; omega

theorem RefOk.start : RefOk rootP 0 0 := by
  have hm : ∀ o ∈ rootP, o = ⟨(0, 0), false, []⟩ := fun o ho => by simpa [rootP] using ho
  refine ⟨by simp [rootP], Int.le_refl _, fun o ho => ?_, fun o ho s hs => ?_, fun o ho s hs => ?_, fun o ho s hs => ?_, fun o ho s hs => ?_, fun o ho s hs => ?_, fun o ho s hs => ?_, ⟨⟨(0, 0), false, []⟩, by simp [objOf, rootP, pobjIs, idEq], rfl⟩, fun o ho => ?_⟩
  · rw [hm o ho]; exact Int.le_refl _
  all_goals (rw [hm o ho] at *)
  all_goals (first | (cases hs; done) | simp)

/-! The plans: each operation is as is asked of the next one. -/
def Nexts : List PObj → Int → List POp → Prop
  | _, _, [] => True
  | R, t, p :: ps => Next R t p ∧ Nexts (doesP R p) p.id.1 ps

theorem keyOk_size {key : ByteArray} (h : keyOk key = true) : key ≠ ⟨#[]⟩ ∧ key.size ≤ 4 := by
  unfold keyOk at h
  simp at h
  exact ⟨fun e => by subst e; simp [ByteArray.size] at h, h.2.2⟩
theorem keyed_ok {R : List PObj} {x : PId} {key : ByteArray} {hs : List PHeld} (h : keyedP R x key = .ok hs) : ∃ o, objOf R x = some o ∧ o.list = false ∧ keyOk key = true ∧ hs = heldsAt o key (0, 0) := by
  unfold keyedP at h
  rcases objP_of R x false with ⟨_, h2⟩ | ⟨o, k, h1, h2, h3⟩
  · rw [h2] at h; cases h
  · rw [h3] at h
    by_cases hl : o.list = false
    · rw [if_pos hl] at h
      simp only [h2] at h
      split at h
      · rename_i hk
        cases h
        exact ⟨o, h1, hl, hk, rfl⟩
      · cases h
    · rw [if_neg hl] at h; cases h
theorem elements_ok {R : List PObj} {x : PId} {l : List PId} (h : elementsP R x = .ok l) : ∃ o, objOf R x = some o ∧ o.list = true ∧ l = pseen o := by
  unfold elementsP at h
  rcases objP_of R x true with ⟨_, h2⟩ | ⟨o, k, h1, h2, h3⟩
  · rw [h2] at h; cases h
  · rw [h3] at h
    by_cases hl : o.list = true
    · rw [if_pos hl] at h
      simp only [h2] at h
      cases h
      exact ⟨o, h1, hl, rfl⟩
    · rw [if_neg hl] at h; cases h
theorem pseen_in {o : PObj} {y : PId} (h : y ∈ pseen o) : y ∈ o.ss.map PSlot.id := by
  unfold pseen at h
  obtain ⟨s, hs, he⟩ := List.mem_map.1 h
  exact List.mem_map.2 ⟨s, (List.mem_filter.1 hs).1, he⟩
theorem behind_in {l : List PId} {i : Int} {b : PId} (h : behindP l i = some b) : b = (0, 0) ∨ b ∈ l := by
  unfold behindP at h
  split at h
  · cases h
  · split at h
    · cases h; exact .inl rfl
    · exact .inr (List.mem_of_getElem? h)
theorem given_of {R : List PObj} {x y : PId} {o : PObj} (ho : objOf R x = some o) (hl : o.list = true) : givenAt R x y = (heldsAt o ⟨#[]⟩ y).map (·.giver) := by
  unfold givenAt
  rcases objP_of R x true with ⟨h1, _⟩ | ⟨o', k, h1, h2, h3⟩
  · rw [ho] at h1; cases h1
  · rw [ho] at h1
    cases h1
    rw [h3, if_pos hl]
    simp only [h2]

section
theorem next_make {R : List PObj} {t : Int} (t' c : Int) (ht : t < t') (lst : Bool) : Next R t (opMake t' c lst) :=
  ⟨ht, .inl rfl, fun hk => absurd hk (by show ¬ (1 : Int) = 2; omega), fun hk => absurd hk (by show ¬ ((1 : Int) = 3 ∨ (1 : Int) = 4); omega), fun hk => absurd hk (by show ¬ (1 : Int) = 3; omega), Nat.zero_le _, by unfold intOk opMake; simp⟩
theorem next_lay {R : List PObj} {t : Int} (t' c : Int) (ht : t < t') {x b : PId} {o : PObj} (ho : objOf R x = some o) (hl : o.list = true) (hb : b = (0, 0) ∨ b ∈ o.ss.map PSlot.id) : Next R t (opLay t' c x b) :=
  ⟨ht, .inr (.inl rfl), fun _ => ⟨o, ho, hl, hb⟩, fun hk => absurd hk (by show ¬ ((2 : Int) = 3 ∨ (2 : Int) = 4); omega), fun hk => absurd hk (by show ¬ (2 : Int) = 3; omega), Nat.zero_le _, by unfold intOk opLay; simp⟩
theorem next_key {R : List PObj} {t : Int} (kind : Int) (hk : kind = 3 ∨ kind = 4) (t' c : Int) (ht : t < t') {x : PId} {key : ByteArray} (hkey : keyOk key = true) {o : PObj} (ho : objOf R x = some o) (hl : o.list = false) (n : Int) (hn : intOk n) (ob : PId) (hob : ∃ o', objOf R ob = some o') : Next R t (opKey kind t' c x key n ob ((heldsAt o key (0, 0)).map PHeld.giver)) := by
  have := keyOk_size hkey
  refine ⟨ht, ?_, fun hk' => ?_, fun _ => ⟨o, ho, .inl ⟨hl, this.1, rfl⟩, rfl⟩, fun _ => hob, this.2, hn⟩
  · show kind = 1 ∨ kind = 2 ∨ kind = 3 ∨ kind = 4; omega
  · have : kind = 2 := hk'
    omega
theorem next_el {R : List PObj} {t : Int} (kind : Int) (hk : kind = 3 ∨ kind = 4) (t' c : Int) (ht : t < t') {x y : PId} {o : PObj} (ho : objOf R x = some o) (hl : o.list = true) (hy : y ∈ o.ss.map PSlot.id) (n : Int) (hn : intOk n) (ob : PId) (hob : ∃ o', objOf R ob = some o') : Next R t (opEl kind t' c x y n ob ((heldsAt o ⟨#[]⟩ y).map PHeld.giver)) := by
  refine ⟨ht, ?_, fun hk' => ?_, fun _ => ⟨o, ho, .inr ⟨hl, rfl, hy⟩, rfl⟩, fun _ => hob, Nat.zero_le _, hn⟩
  · show kind = 1 ∨ kind = 2 ∨ kind = 3 ∨ kind = 4; omega
  · have : kind = 2 := hk'
    omega
theorem RefOk.rootIn {R : List PObj} {t : Int} {m : Nat} (h : RefOk R t m) : ∃ o', objOf R (0, 0) = some o' := by obtain ⟨o, h1, _⟩ := h.root; exact ⟨o, h1⟩

theorem put_next {R : List PObj} {t : Int} {m : Nat} (h : RefOk R t m) {own : Nat} {c : Int} {x : PId} {key : ByteArray} {n : Int} (hn : intOk n) {ps : List POp} (hp : putPl R t own c x key n = .ok ps) : Nexts R t ps := by
  unfold putPl at hp
  split at hp
  · cases hp
  · rename_i hs hkd
    obtain ⟨o, ho, hl, hkey, rfl⟩ := keyed_ok hkd
    split at hp
    · cases hp
      exact ⟨next_key 3 (.inl rfl) _ _ (by omega) hkey ho hl n hn _ h.rootIn, trivial⟩
    · cases hp
theorem cut_next {R : List PObj} {t : Int} {m : Nat} (h : RefOk R t m) {own : Nat} {c : Int} {x : PId} {key : ByteArray} {ps : List POp} (hp : cutPl R t own c x key = .ok ps) : Nexts R t ps := by
  unfold cutPl at hp
  split at hp
  · cases hp
  · rename_i hs hkd
    obtain ⟨o, ho, hl, hkey, rfl⟩ := keyed_ok hkd
    split at hp
    · cases hp
    · split at hp
      · cases hp
        exact ⟨next_key 4 (.inr rfl) _ _ (by omega) hkey ho hl 0 (by unfold intOk; omega) _ h.rootIn, trivial⟩
      · cases hp
/-- What is there stays as it is when an object is made. -/
theorem make_keeps {R : List PObj} {t : Int} {c : Int} {lst : Bool} {x : PId} {o : PObj} (ho : objOf R x = some o) : objOf (doesP R (opMake (t + 1) c lst)) x = some o := by
  rw [make_obj rfl, ho]
theorem make_new {R : List PObj} {t : Int} {m : Nat} (h : RefOk R t m) {c : Int} {lst : Bool} : objOf (doesP R (opMake (t + 1) c lst)) (t + 1, c) = some ⟨(t + 1, c), lst, []⟩ := by
  have hf := (h.fit (next_make (t + 1) c (by omega) lst)).make rfl
  rw [make_obj rfl]
  have : objOf R (t + 1, c) = none := hf
  rw [this]
  simp [opMake]
theorem nest_next {R : List PObj} {t : Int} {m : Nat} (h : RefOk R t m) {own : Nat} {c : Int} {x : PId} {key : ByteArray} {lst : Bool} {ps : List POp} (hp : nestPl R t own c x key lst = .ok ps) : Nexts R t ps := by
  unfold nestPl at hp
  split at hp
  · cases hp
  · rename_i hs hkd
    obtain ⟨o, ho, hl, hkey, rfl⟩ := keyed_ok hkd
    split at hp
    · cases hp
      have hm := next_make (R := R) (t := t) (t + 1) c (by omega) lst
      exact ⟨hm, next_key 3 (.inl rfl) _ _ (by show t + 1 < t + 2; omega) hkey (make_keeps ho) hl 0 (by unfold intOk; omega) _ ⟨_, make_new h⟩, trivial⟩
    · cases hp
theorem placed_next {R : List PObj} {t : Int} {m : Nat} (h : RefOk R t m) {own : Nat} {c : Int} {x : PId} {i kind n : Int} (hk : kind = 3 ∨ kind = 4) (hn : intOk n) {ps : List POp} (hp : placedPl R t own c x i kind n = .ok ps) : Nexts R t ps := by
  unfold placedPl at hp
  split at hp
  · cases hp
  · rename_i l hel
    obtain ⟨o, ho, hl, rfl⟩ := elements_ok hel
    split at hp
    · cases hp
    · rename_i hi
      split at hp
      · cases hp
        rw [given_of ho hl]
        refine ⟨next_el kind hk _ _ (by omega) ho hl (pseen_in ?_) n hn _ h.rootIn, trivial⟩
        have : i.toNat < (pseen o).length := by omega
        rw [List.getD_eq_getElem?_getD, List.getElem?_eq_getElem this]
        exact List.getElem_mem this
      · cases hp
end
/-- A list behind a Lay: the new element is there, without values. -/
theorem laid_in {R : List PObj} {t : Int} {m : Nat} (h : RefOk R t m) {D : QDoc} (ha : Agree R D) {t' c : Int} (ht : t < t') {x b : PId} {o : PObj} (ho : objOf R x = some o) (hl : o.list = true) (hb : b = (0, 0) ∨ b ∈ o.ss.map PSlot.id) :
    ∃ o', objOf (doesP R (opLay t' c x b)) x = some o' ∧ o'.list = true ∧ (t', c) ∈ o'.ss.map PSlot.id ∧ heldsAt o' ⟨#[]⟩ (t', c) = [] := by
  have hnx := next_lay t' c ht ho hl hb
  have hf := h.fit hnx
  obtain ⟨hi, hfr, _⟩ := hf.lay rfl
  obtain ⟨ob, _, hag⟩ := ha.o1 _ o ho
  have hd : doesAt (opLay t' c x b) o = ⟨o.id, o.list, laidP o.ss b (t', c)⟩ := by
    unfold doesAt; rw [if_pos (show (opLay t' c x b).kind = 2 from rfl), if_pos hl]; rfl
  refine ⟨doesAt (opLay t' c x b) o, ?_, by rw [hd]; exact hl, ?_, ?_⟩
  · rw [does_obj (by show (2 : Int) ≠ 1; omega)]
    rw [if_pos (show x = (opLay t' c x b).object from rfl), ho]; rfl
  · rw [hd]
    show (t', c) ∈ (laidP o.ss b (t', c)).map PSlot.id
    unfold laidP
    split
    · simp [pinsAt, pslot0]
    · rename_i hb0
      have hbm : b ∈ o.ss.map PSlot.id := hb.resolve_left (fun e => hb0 (by rw [e]; simp [idEq]))
      obtain ⟨s, hs, hsid⟩ := List.mem_map.1 hbm
      rw [if_neg]
      · simp [pinsAt, pslot0]
      · intro h'
        rw [first_neg, List.find?_eq_none] at h'
        exact h' s hs (slotIs_true.2 ⟨(hag.elems hl s hs).1, hsid⟩)
  · cases hh : heldsAt (doesAt (opLay t' c x b) o) ⟨#[]⟩ (t', c) with
    | nil => rfl
    | cons y ys =>
      have hy : y ∈ heldsAt (doesAt (opLay t' c x b) o) ⟨#[]⟩ (t', c) := by rw [hh]; exact List.mem_cons_self
      obtain ⟨s, hs, hps, hse⟩ := helds_mem hy
      have hsi := (slotIs_true.1 hps).2
      rcases does_slots hs with h' | ⟨_, _, h'⟩ | ⟨h2, _⟩ | ⟨h2, _⟩
      · exact absurd (List.mem_map.2 ⟨s, h', hsi⟩) (hfr x o ho)
      · rw [← hse, h'] at hh; cases hh
      · exact absurd rfl h2
      · exact absurd rfl h2
section
theorem insert_next {R : List PObj} {t : Int} {m : Nat} (h : RefOk R t m) {D : QDoc} (ha : Agree R D) {own : Nat} {c : Int} {x : PId} {i n : Int} (hn : intOk n) {ps : List POp} (hp : insertPl R t own c x i n = .ok ps) : Nexts R t ps := by
  unfold insertPl at hp
  split at hp
  · cases hp
  · rename_i l hel
    obtain ⟨o, ho, hl, rfl⟩ := elements_ok hel
    split at hp
    · cases hp
    · rename_i b hb
      split at hp
      · cases hp
        have hb' : b = (0, 0) ∨ b ∈ o.ss.map PSlot.id := (behind_in hb).imp id pseen_in
        have hm := next_lay (R := R) (t := t) (t + 1) c (by omega) ho hl hb'
        obtain ⟨o', h1, h2, h3, h4⟩ := laid_in h ha (c := c) (t' := t + 1) (by omega) ho hl hb'
        have := next_el 3 (.inl rfl) (t + 2) c (by show t + 1 < t + 2; omega) h1 h2 h3 n hn (0, 0) (h.step hm).rootIn
        rw [h4] at this
        exact ⟨hm, this, trivial⟩
      · cases hp
end
theorem Agree.made {R : List PObj} {t : Int} {m : Nat} (h : RefOk R t m) {D : QDoc} (ha : Agree R D) (c : Int) (lst : Bool) : Agree (doesP R (opMake (t + 1) c lst)) (putI (t + 1, c) ⟨lst, none, [], (0, 0)⟩ D.1, D.2) :=
  ha.make (p := opMake (t + 1) c lst) rfl ((h.fit (next_make (t + 1) c (by omega) lst)).make rfl)
theorem nestAt_next {R : List PObj} {t : Int} {m : Nat} (h : RefOk R t m) {D : QDoc} (ha : Agree R D) {own : Nat} {c : Int} {x : PId} {i : Int} {lst : Bool} {ps : List POp} (hp : nestAtPl R t own c x i lst = .ok ps) : Nexts R t ps := by
  unfold nestAtPl at hp
  split at hp
  · cases hp
  · rename_i l hel
    obtain ⟨o, ho, hl, rfl⟩ := elements_ok hel
    split at hp
    · cases hp
    · rename_i b hb
      split at hp
      · cases hp
        have hb' : b = (0, 0) ∨ b ∈ o.ss.map PSlot.id := (behind_in hb).imp id pseen_in
        have hm := next_make (R := R) (t := t) (t + 1) c (by omega) lst
        have hs := h.step hm
        have ho' := make_keeps (t := t) (c := c) (lst := lst) ho
        have hm2 := next_lay (t := t + 1) (t + 2) c (by show t + 1 < t + 2; omega) ho' hl hb'
        obtain ⟨o', h1, h2, h3, h4⟩ := laid_in hs (Agree.made h ha c lst) (c := c) (t' := t + 2) (by show t + 1 < t + 2; omega) ho' hl hb'
        obtain ⟨o2, h5, _⟩ := does_keeps (p := opLay (t + 2) c x b) (make_new h (c := c) (lst := lst))
        have := next_el 3 (.inl rfl) (t + 3) c (by show t + 2 < t + 3; omega) h1 h2 h3 0 (by unfold intOk; omega) (t + 1, c) ⟨o2, h5⟩
        rw [h4] at this
        exact ⟨hm, hm2, this, trivial⟩
      · cases hp

end Go.Proofs.YtnkpogjiiohapaaGreatDoor

/-! PlD: Plain: the text of a document, joined; how long it may be. -/
namespace Go.Proofs.YtnkpogjiiohapaaGreatDoor
open Go.RowKit

theorem numText_len (n : Int) (h : intOk n) : (numText n).size ≤ 21 := numText_size n h.1 h.2
theorem dec_pos (q : Nat) : 0 < (Lib.decDigits q).length := by
  rw [Lib.decDigits]
  split <;> simp
theorem numText_pos (n : Int) : 0 < (numText n).size := by
  show 0 < (Lib.itoa n).toArray.size
  rw [List.size_toArray]
  unfold Lib.itoa
  split
  · simp
  · exact dec_pos _

/-! The text of a document. -/
/-- Texts with a sign between them. -/
def joinB (sep : ByteArray) : List ByteArray → ByteArray
  | [] => ⟨#[]⟩
  | x :: l => l.foldl (fun s y => (s ++ sep) ++ y) x
theorem join_snoc (sep : ByteArray) (l : List ByteArray) (y : ByteArray) (h : l ≠ []) : joinB sep (l ++ [y]) = (joinB sep l ++ sep) ++ y := by
  cases l with
  | nil => exact absurd rfl h
  | cons x l => simp [joinB, List.foldl_append]
theorem isEmpty_size (a : ByteArray) : a.toList.isEmpty = true ↔ a.size = 0 := by
  constructor
  · intro h
    have : a = ⟨#[]⟩ := key_inj (by rw [nil_toList]; exact List.isEmpty_iff.1 h)
    rw [this]; rfl
  · intro h
    have : a = ⟨#[]⟩ := by apply ByteArray.ext; exact Array.eq_empty_of_size_eq_zero h
    rw [this, nil_toList]; rfl
theorem join_pos (sep : ByteArray) {l : List ByteArray} (h : l ≠ []) (hp : ∀ x ∈ l, 0 < x.size) : 0 < (joinB sep l).size := by
  cases l with
  | nil => exact absurd rfl h
  | cons x l =>
    have h0 := hp x List.mem_cons_self
    have : ∀ (l : List ByteArray) (a : ByteArray), 0 < a.size → 0 < (l.foldl (fun s y => (s ++ sep) ++ y) a).size := by
      intro l
      induction l with
      | nil => intro a h; exact h
      | cons y l ih => intro a h; exact ih _ (by rw [ba_size_append, ba_size_append]; omega)
    exact this l x h0
def slotText (T : PId → ByteArray) (list : Bool) (s : PSlot) : ByteArray := if list then valsText T s.hs else (s.key ++ colon) ++ valsText T s.hs
def seenS (s : PSlot) : Bool := decide (0 < s.hs.length)
theorem ba_assoc (a b c : ByteArray) : (a ++ b) ++ c = a ++ (b ++ c) := by apply ByteArray.ext; simp [Array.append_assoc]
theorem step_join (T : PId → ByteArray) (list : Bool) {L : List ByteArray} (hL : ∀ x ∈ L, 0 < x.size) (s : PSlot) (hs : seenS s = true) : objStep T list (joinB comma L) s = joinB comma (L ++ [slotText T list s]) := by
  unfold seenS at hs
  simp at hs
  unfold objStep
  rw [if_neg (by omega)]
  cases L with
  | nil =>
    have : (joinB comma []).toList.isEmpty = true := (isEmpty_size _).2 rfl
    simp only [this, if_true]
    show (if list = true then (⟨#[]⟩ : ByteArray) else ((⟨#[]⟩ : ByteArray) ++ s.key) ++ colon) ++ _ = slotText T list s
    unfold slotText
    rw [empty_append]
    split
    · rw [empty_append]
    · rfl
  | cons x L =>
    rw [join_snoc _ _ _ (by simp)]
    have hp := join_pos comma (l := x :: L) (by simp) hL
    have : (joinB comma (x :: L)).toList.isEmpty = false := by
      cases h : (joinB comma (x :: L)).toList.isEmpty
      · rfl
      · rw [(isEmpty_size _).1 h] at hp; omega
    simp only [this, Bool.false_eq_true, if_false]
    unfold slotText
    split
    · rfl
    · simp only [ba_assoc]
theorem body_join (T : PId → ByteArray) (list : Bool) (M : List PSlot) (hM : ∀ s ∈ M, seenS s = true → 0 < (slotText T list s).size) : objBody T list M = joinB comma ((M.filter seenS).map (slotText T list)) := by
  have : ∀ (M : List PSlot), (∀ s ∈ M, seenS s = true → 0 < (slotText T list s).size) → ∀ (L : List ByteArray), (∀ x ∈ L, 0 < x.size) → M.foldl (objStep T list) (joinB comma L) = joinB comma (L ++ (M.filter seenS).map (slotText T list)) := by
    intro M
    induction M with
    | nil => intro _ L _; simp
    | cons s M ih =>
      intro hM L hL
      rw [List.foldl_cons]
      cases hs : seenS s
      · have : objStep T list (joinB comma L) s = joinB comma L := by
          unfold seenS at hs
          simp at hs
          unfold objStep
          rw [if_pos (by simp [hs])]
        rw [this, ih (fun s hs => hM s (List.mem_cons_of_mem _ hs)) L hL]
        simp [hs]
      · rw [step_join T list hL s hs, ih (fun s hs => hM s (List.mem_cons_of_mem _ hs))]
        · simp [hs]
        · intro x hx
          rcases List.mem_append.1 hx with hx | hx
          · exact hL x hx
          · simp at hx
            subst hx
            exact hM s List.mem_cons_self hs
  exact this M hM [] (by simp)

theorem bodySize (T : PId → ByteArray) (list : Bool) (V : Nat) (M : List PSlot) (hM : ∀ s ∈ M, s.key.size ≤ 4 ∧ (valsText T s.hs).size ≤ V) : (objBody T list M).size ≤ M.length * (6 + V) := by
  have : ∀ (M : List PSlot), (∀ s ∈ M, s.key.size ≤ 4 ∧ (valsText T s.hs).size ≤ V) → ∀ a : ByteArray, (M.foldl (objStep T list) a).size ≤ a.size + M.length * (6 + V) := by
    intro M
    induction M with
    | nil => intro _ a; simp
    | cons s M ih =>
      intro hM a
      rw [List.foldl_cons]
      have h1 := ih (fun s hs => hM s (List.mem_cons_of_mem _ hs)) (objStep T list a s)
      have h2 := hM s List.mem_cons_self
      have h3 : (objStep T list a s).size ≤ a.size + (6 + V) := by
        unfold objStep
        have hc : comma.size = 1 := rfl
        have hc' : colon.size = 1 := rfl
        split
        · omega
        · simp only
          split <;> split <;> simp only [ba_size_append] <;> omega
      rw [List.length_cons, Nat.succ_mul]
      omega
  have := this M hM ⟨#[]⟩
  have e : (⟨#[]⟩ : ByteArray).size = 0 := rfl
  rw [e, Nat.zero_add] at this
  exact this

def TB : Nat → Nat
  | 0 => 1
  | r + 1 => 2 + 60 * (27 + TB r)
theorem ord_mem {o : PObj} {s : PSlot} (hs : s ∈ ordP o) : s ∈ o.ss := by
  unfold ordP sortP at hs
  split at hs
  · exact hs
  · exact (List.mergeSort_perm _ _).mem_iff.1 hs
theorem ord_len (o : PObj) : (ordP o).length = o.ss.length := by
  unfold ordP sortP
  split
  · rfl
  · exact (List.mergeSort_perm _ _).length_eq
theorem TB_le {r : Nat} (hr : r ≤ 4) : 60 * (27 + TB r) ≤ 100000000000 := by
  have h0 : TB 0 = 1 := rfl
  have h1 : TB 1 = 2 + 60 * (27 + TB 0) := rfl
  have h2 : TB 2 = 2 + 60 * (27 + TB 1) := rfl
  have h3 : TB 3 = 2 + 60 * (27 + TB 2) := rfl
  have h4 : TB 4 = 2 + 60 * (27 + TB 3) := rfl
  have : r = 0 ∨ r = 1 ∨ r = 2 ∨ r = 3 ∨ r = 4 := by omega
  rcases this with rfl | rfl | rfl | rfl | rfl <;> omega
section
theorem RefOk.vals_size {R : List PObj} {t : Int} {n : Nat} (h : RefOk R t n) {T : PId → ByteArray} {B : Nat} (hT : ∀ x, (T x).size ≤ B) {o : PObj} (ho : o ∈ R) {s : PSlot} (hs : s ∈ o.ss) : (valsText T s.hs).size ≤ 21 + B := by
  have h1 := h.one o ho s hs
  have h2 := h.nums o ho s hs
  match hh : s.hs with
  | [] => show 0 ≤ _; omega
  | [x] =>
    show (itemText T x).size ≤ _
    unfold itemText
    split
    · have := numText_len x.num (h2 x (by rw [hh]; simp)); omega
    · have := hT x.obj; omega
  | x :: y :: l => rw [hh] at h1; simp at h1
theorem RefOk.body_size {R : List PObj} {t : Int} {n : Nat} (h : RefOk R t n) (hn : n ≤ 60) {T : PId → ByteArray} {B : Nat} (hT : ∀ x, (T x).size ≤ B) {o : PObj} (ho : o ∈ R) : (objBody T o.list (ordP o)).size ≤ 60 * (27 + B) := by
  have h1 := bodySize T o.list (21 + B) (ordP o) (fun s hs => ⟨h.ksz o ho s (ord_mem hs), h.vals_size hT ho (ord_mem hs)⟩)
  rw [ord_len] at h1
  have h2 := h.cnt o ho
  have : o.ss.length * (6 + (21 + B)) ≤ 60 * (6 + (21 + B)) := Nat.mul_le_mul_right _ (by omega)
  omega
theorem RefOk.text_size {R : List PObj} {t : Int} {n : Nat} (h : RefOk R t n) (hn : n ≤ 60) (r : Nat) : ∀ x : PId, (textP R r x).size ≤ TB r := by
  induction r with
  | zero => exact fun x => Nat.le_refl 1
  | succ r ih =>
    intro x
    show (match R.find? (pobjIs x) with | some o => objText (textP R r) o.list (ordP o) | none => ⟨#[]⟩).size ≤ _
    cases hf : R.find? (pobjIs x) with
    | none => show 0 ≤ _; omega
    | some o =>
      have := h.body_size hn ih (List.mem_of_find?_eq_some hf)
      show (objText (textP R r) o.list (ordP o)).size ≤ 2 + 60 * (27 + TB r)
      unfold objText
      have e1 : (⟨#[91]⟩ : ByteArray).size = 1 := rfl
      have e2 : (⟨#[93]⟩ : ByteArray).size = 1 := rfl
      have e3 : (⟨#[123]⟩ : ByteArray).size = 1 := rfl
      have e4 : (⟨#[125]⟩ : ByteArray).size = 1 := rfl
      split <;> simp only [ba_size_append] <;> omega
/-- The reference's text is told. -/
theorem RefOk.textOk {R : List PObj} {t : Int} {n : Nat} (h : RefOk R t n) (hn : n ≤ 60) {D : QDoc} (ha : Agree R D) : TextOk R := by
  refine ⟨fun o ho hl => ?_, fun o ho s hs => Nat.le_trans (h.ksz o ho s hs) (by omega), h.nums, fun o ho s hs x hx => .inr ?_, fun r hr o ho => ?_⟩
  · obtain ⟨ob, _, hag⟩ := ha.o1 _ o (objOf_of_mem h.ids ho)
    exact ⟨List.pairwise_map.1 (hag.kone hl), fun s hs => (hag.keys hl s hs).1⟩
  · obtain ⟨o', ho'⟩ := h.objs o ho s hs x hx
    exact ⟨o', objOf_mem ho', objOf_id ho'⟩
  · have h1 := h.body_size hn (h.text_size hn r) ho
    have h2 := TB_le hr
    omega
end

end Go.Proofs.YtnkpogjiiohapaaGreatDoor
