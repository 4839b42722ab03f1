/- Our own text (GPlA, GPlB). -/
import Derived.Test.YtnkpogjiiohapaaGreatDoorA11
set_option linter.unusedSimpArgs false
set_option linter.unusedVariables false

/-! GPlA: Plain: one operation, whether it finds its place or not: the two documents say the same behind it. -/
namespace Go.Proofs.YtnkpogjiiohapaaGreatDoor
open Go.RowKit

theorem Agree.congr {R R' : List PObj} {D : QDoc} (h : Agree R D) (he : ∀ y, objOf R' y = objOf R y) : Agree R' D :=
  ⟨fun x o ho => h.o1 x o ((he x).symm.trans ho), fun x hx => h.o0 x ((he x).symm.trans hx), fun y e hy => by
    obtain ⟨o, h1, h2⟩ := h.el y e hy
    exact ⟨o, (he _).trans h1, h2⟩⟩
theorem does_same {R : List PObj} {p : POp} (hk : p.kind ≠ 1) (h : ∀ o, objOf R p.object = some o → doesAt p o = o) : ∀ y, objOf (doesP R p) y = objOf R y := by
  intro y
  rw [does_obj hk]
  by_cases e : y = p.object
  · subst e
    rw [if_pos rfl]
    cases ho : objOf R p.object with
    | none => rfl
    | some o => simp [h o ho]
  · rw [if_neg e]

/-- What is asked of an operation that is new: its Id is no other's; the object that it gives is there. -/
structure Fresh (R : List PObj) (p : POp) : Prop where
  kind : p.kind = 1 ∨ p.kind = 2 ∨ p.kind = 3 ∨ p.kind = 4
  make : p.kind = 1 → objOf R p.id = none
  lay : p.kind = 2 → p.id ≠ (0, 0) ∧ ∀ x o, objOf R x = some o → p.id ∉ o.ss.map PSlot.id
  place : p.kind = 3 ∨ p.kind = 4 → p.key ≠ ⟨#[]⟩ → p.element = (0, 0)
  giver : p.kind = 3 ∨ p.kind = 4 → ∀ x o, objOf R x = some o → ∀ s ∈ o.ss, ∀ h ∈ s.hs, h.giver ≠ p.id
  obj : p.kind = 3 → ∃ o, objOf R p.obj = some o

theorem first_no {l : List PSlot} {key : ByteArray} {x : PId} (h : x ∉ l.map PSlot.id) : firstI (pslotIs key x) l < 0 := by
  have : firstI (pslotIs key x) l = -1 := by
    refine firstI_none fun j hj => ?_
    cases hp : pslotIs key x l[j] with
    | false => rfl
    | true =>
      exfalso
      unfold pslotIs at hp
      rw [Bool.and_eq_true, idEq_true] at hp
      have e : l[j].id = x := hp.2
      exact h (e ▸ List.mem_map.2 ⟨_, List.getElem_mem hj, rfl⟩)
  omega

theorem Agree.any {R : List PObj} {D D' : QDoc} (h : Agree R D) (hn : QNd D) {p : POp} {n : Int} (hf : Fresh R p) (hs : StepTo D (qopOf p n) D') : Agree (doesP R p) D' := by
  rcases hf.kind with hk | hk | hk
  · exact h.step hn ⟨hf.kind, hf.make, fun e => by omega, fun e => by omega, fun e => by omega⟩ hs
  · by_cases hfit : ∃ o, objOf R p.object = some o ∧ o.list = true ∧ (p.behind = (0, 0) ∨ p.behind ∈ o.ss.map PSlot.id)
    · exact h.step hn ⟨hf.kind, hf.make, fun e => ⟨(hf.lay e).1, (hf.lay e).2, hfit⟩, fun e => by omega, fun e => by omega⟩ hs
    · have hD : D' = D := by
        have h1 : ¬ p.kind = 1 := by omega
        unfold StepTo qopOf chgOf at hs
        simp only [h1, hk, if_true, if_false] at hs
        simp at hs
        rw [hs]
        unfold layQ
        cases hl : lookI p.object D.1 with
        | none => rfl
        | some ob =>
          cases ho : objOf R p.object with
          | none => rw [h.o0 _ ho] at hl; cases hl
          | some o =>
            obtain ⟨ob', hob', hag⟩ := h.o1 _ _ ho
            rw [hl] at hob'
            cases hob'
            by_cases hli : ob.list = false
            · simp [hli]
            · have hol : o.list = true := by rw [← hag.list]; simpa using hli
              have hb0 : ¬ p.behind = (0, 0) := fun e => hfit ⟨o, ho, hol, .inl e⟩
              simp only [hli, hb0, if_false]
              cases hb : lookI p.behind D.2 with
              | none => rfl
              | some e =>
                by_cases hel : e.list = p.object
                · exfalso
                  obtain ⟨o', h1, h2, h3⟩ := h.el _ _ hb
                  rw [hel, ho] at h1
                  cases h1
                  exact hfit ⟨o, ho, hol, .inr h3⟩
                · simp [hel]
      rw [hD]
      refine h.congr (does_same (by omega) fun o ho => ?_)
      unfold doesAt
      rw [if_pos hk]
      by_cases hol : o.list = true
      · rw [if_pos hol]
        have hb0 : ¬ p.behind = (0, 0) := fun e => hfit ⟨o, ho, hol, .inl e⟩
        have hno := first_no (key := ⟨#[]⟩) (fun e => hfit ⟨o, ho, hol, .inr e⟩)
        have hz : idEq p.behind.1 p.behind.2 0 0 = false := by
          cases hq : idEq p.behind.1 p.behind.2 0 0 with
          | false => rfl
          | true =>
            exfalso
            exact hb0 (show p.behind = (0, 0) from idEq_true.1 hq)
        unfold laidP
        rw [hz, if_neg (by simp), if_pos hno]
      · rw [if_neg hol]
  · have hk34 : p.kind = 3 ∨ p.kind = 4 := hk
    by_cases hfit : ∃ o, objOf R p.object = some o ∧ ((o.list = false ∧ p.key ≠ ⟨#[]⟩ ∧ p.element = (0, 0)) ∨ (o.list = true ∧ p.key = ⟨#[]⟩ ∧ p.element ∈ o.ss.map PSlot.id))
    · obtain ⟨o, ho, hc⟩ := hfit
      refine h.step hn ⟨hf.kind, hf.make, fun e => by omega, fun _ => ⟨o, ho, hc, fun x hx => ?_⟩, hf.obj⟩ hs
      unfold heldsAt at hx
      split at hx
      · rename_i s hfs
        exact hf.giver hk34 _ _ ho s (List.mem_of_find?_eq_some hfs) x hx
      · cases hx
    · have hpl : hasPl D.1 D.2 p.object p.key p.element = false := by
        unfold hasPl
        by_cases hkey : p.key = ⟨#[]⟩
        · rw [if_pos hkey]
          cases hl : lookI p.element D.2 with
          | none => rfl
          | some e =>
            by_cases hel : e.list = p.object
            · exfalso
              obtain ⟨o, h1, h2, h3⟩ := h.el _ _ hl
              rw [hel] at h1
              exact hfit ⟨o, h1, .inr ⟨h2, hkey, h3⟩⟩
            · simp [hel]
        · rw [if_neg hkey]
          cases hl : lookI p.object D.1 with
          | none => rfl
          | some ob =>
            cases ho : objOf R p.object with
            | none => rw [h.o0 _ ho] at hl; cases hl
            | some o =>
              obtain ⟨ob', hob', hag⟩ := h.o1 _ _ ho
              rw [hl] at hob'
              cases hob'
              have hol : o.list = true := by
                cases hq : o.list with
                | true => rfl
                | false => exact absurd ⟨o, ho, .inl ⟨hq, hkey, hf.place hk34 hkey⟩⟩ hfit
              have : qlist p.object D.1 = true := by
                unfold qlist
                rw [hl]
                simp [hag.list, hol]
              simp [this]
      have hD : D' = D := by
        have h1 : ¬ p.kind = 1 := by omega
        have h2 : ¬ p.kind = 2 := by omega
        unfold StepTo qopOf chgOf at hs
        rcases hk with hk | hk
        · simp only [h1, h2, hk, if_true, if_false, GiveTo] at hs
          have hg : giveOk D p.object p.key p.element p.obj = false := by unfold giveOk; rw [hpl]; rfl
          simpa [hg] using hs
        · have h3 : ¬ p.kind = 3 := by omega
          simp only [h1, h2, h3, if_false, TakeTo, hpl] at hs
          simpa using hs
      rw [hD]
      refine h.congr (does_same (by omega) fun o ho => ?_)
      have h2 : ¬ p.kind = 2 := by omega
      unfold doesAt
      rw [if_neg h2]
      by_cases hc : o.list = p.key.toList.isEmpty
      · rw [if_pos hc]
        cases hol : o.list with
        | true =>
          have hkey : p.key = ⟨#[]⟩ := by
            by_cases e : p.key = ⟨#[]⟩
            · exact e
            · rw [hol, key_ne e] at hc; cases hc
          have hno := first_no (key := p.key) (fun e => hfit ⟨o, ho, .inr ⟨hol, hkey, e⟩⟩)
          unfold valuedP
          rw [if_pos hno, if_pos rfl]
          cases o
          simp at hol
          simp [hol]
        | false =>
          exfalso
          have hkey : p.key ≠ ⟨#[]⟩ := fun e => by
            rw [hol, e, nil_toList] at hc
            cases hc
          exact hfit ⟨o, ho, .inl ⟨hol, hkey, hf.place hk34 hkey⟩⟩
      · rw [if_neg hc]

end Go.Proofs.YtnkpogjiiohapaaGreatDoor

/-! GPlB: Plain: operations in whatever order, each with an Id of its own: the two documents say the same behind all of them. -/
namespace Go.Proofs.YtnkpogjiiohapaaGreatDoor
open Go.RowKit

/-- All that a document names comes of these Ids. -/
structure InR (R : List PObj) (I : List PId) : Prop where
  obj : ∀ x o, objOf R x = some o → x = (0, 0) ∨ x ∈ I
  slot : ∀ x o, objOf R x = some o → ∀ s ∈ o.ss, s.id = (0, 0) ∨ s.id ∈ I
  giver : ∀ x o, objOf R x = some o → ∀ s ∈ o.ss, ∀ h ∈ s.hs, h.giver ∈ I

theorem mem_modifyG {α : Type} {f : α → α} {x : α} : ∀ {l : List α} {k : Nat}, x ∈ l.modify k f → x ∈ l ∨ ∃ y ∈ l, x = f y
  | [], k, h => by simp at h
  | a :: l, 0, h => by
    simp only [List.modify_zero_cons, List.mem_cons] at h
    rcases h with rfl | h
    · exact .inr ⟨a, List.mem_cons_self, rfl⟩
    · exact .inl (List.mem_cons_of_mem _ h)
  | a :: l, k + 1, h => by
    simp only [List.modify_succ_cons, List.mem_cons] at h
    rcases h with rfl | h
    · exact .inl List.mem_cons_self
    · rcases mem_modifyG h with h | ⟨y, hy, e⟩
      · exact .inl (List.mem_cons_of_mem _ h)
      · exact .inr ⟨y, List.mem_cons_of_mem _ hy, e⟩
theorem new_giver {old : List PId} {hs : List PHeld} {kind : Int} {y h : PHeld} (hm : h ∈ newHelds old hs kind y) : h ∈ hs ∨ h = y := by
  unfold newHelds at hm
  rcases List.mem_append.1 hm with hm | hm
  · exact .inl (List.mem_filter.1 hm).1
  · split at hm
    · exact .inr (by simpa using hm)
    · cases hm
theorem laid_memG {l : List PSlot} {b x : PId} {s : PSlot} (h : s ∈ laidP l b x) : s ∈ l ∨ s = pslot0 ⟨#[]⟩ x := by
  have hins : ∀ n, s ∈ pinsAt l n (pslot0 ⟨#[]⟩ x) → s ∈ l ∨ s = pslot0 ⟨#[]⟩ x := fun n hm => by
    unfold pinsAt at hm
    rcases List.mem_append.1 hm with hm | hm
    · exact .inl (List.mem_of_mem_take hm)
    · rcases List.mem_cons.1 hm with rfl | hm
      · exact .inr rfl
      · exact .inl (List.mem_of_mem_drop hm)
  unfold laidP at h
  split at h
  · exact hins _ h
  · split at h
    · exact .inl h
    · exact hins _ h
/-- What a slot behind an operation is. -/
theorem does_slot {p : POp} {o : PObj} {s : PSlot} (h : s ∈ (doesAt p o).ss) : (s.id = p.id ∧ s.hs = []) ∨ ((s.id = (0, 0) ∨ ∃ s0 ∈ o.ss, s0.id = s.id ∧ ∀ x ∈ s.hs, x ∈ s0.hs ∨ x = p.held) ∧ ((∃ s0 ∈ o.ss, ∀ x ∈ s.hs, x ∈ s0.hs ∨ x = p.held) ∨ ∀ x ∈ s.hs, x = p.held)) := by
  unfold doesAt at h
  split at h
  · split at h
    · rcases laid_memG h with h | rfl
      · exact .inr ⟨.inr ⟨s, h, rfl, fun x hx => .inl hx⟩, .inl ⟨s, h, fun x hx => .inl hx⟩⟩
      · exact .inl ⟨rfl, rfl⟩
    · exact .inr ⟨.inr ⟨s, h, rfl, fun x hx => .inl hx⟩, .inl ⟨s, h, fun x hx => .inl hx⟩⟩
  · split at h
    · unfold valuedP at h
      simp only at h
      split at h
      · split at h
        · exact .inr ⟨.inr ⟨s, h, rfl, fun x hx => .inl hx⟩, .inl ⟨s, h, fun x hx => .inl hx⟩⟩
        · rcases List.mem_append.1 h with h | h
          · exact .inr ⟨.inr ⟨s, h, rfl, fun x hx => .inl hx⟩, .inl ⟨s, h, fun x hx => .inl hx⟩⟩
          · obtain rfl := List.mem_singleton.1 h
            refine .inr ⟨.inl rfl, .inr fun x hx => ?_⟩
            rcases new_giver hx with hx | hx
            · cases hx
            · exact hx
      · rcases mem_modifyG h with h | ⟨s0, h0, rfl⟩
        · exact .inr ⟨.inr ⟨s, h, rfl, fun x hx => .inl hx⟩, .inl ⟨s, h, fun x hx => .inl hx⟩⟩
        · exact .inr ⟨.inr ⟨s0, h0, rfl, fun x hx => new_giver hx⟩, .inl ⟨s0, h0, fun x hx => new_giver hx⟩⟩
    · exact .inr ⟨.inr ⟨s, h, rfl, fun x hx => .inl hx⟩, .inl ⟨s, h, fun x hx => .inl hx⟩⟩
theorem InR.does {R : List PObj} {I : List PId} (h : InR R I) (p : POp) : InR (doesP R p) (p.id :: I) := by
  by_cases hk : p.kind = 1
  · have hm : ∀ x o, objOf (doesP R p) x = some o → objOf R x = some o ∨ (x = p.id ∧ o.ss = []) := fun x o ho => by
      rw [make_obj hk] at ho
      cases hx : objOf R x with
      | some o' => rw [hx] at ho; exact .inl ho
      | none =>
        rw [hx] at ho
        simp only at ho
        split at ho
        · rename_i e
          cases ho
          exact .inr ⟨e, rfl⟩
        · cases ho
    refine ⟨fun x o ho => ?_, fun x o ho s hs => ?_, fun x o ho s hs y hy => ?_⟩
    · rcases hm x o ho with ho | ⟨rfl, _⟩
      · exact (h.obj x o ho).imp id (List.mem_cons_of_mem _)
      · exact .inr List.mem_cons_self
    · rcases hm x o ho with ho | ⟨_, e⟩
      · exact (h.slot x o ho s hs).imp id (List.mem_cons_of_mem _)
      · rw [e] at hs; cases hs
    · rcases hm x o ho with ho | ⟨_, e⟩
      · exact List.mem_cons_of_mem _ (h.giver x o ho s hs y hy)
      · rw [e] at hs; cases hs
  · have hm : ∀ x o, objOf (doesP R p) x = some o → ∃ o', objOf R x = some o' ∧ (o = o' ∨ o = doesAt p o') := fun x o ho => by
      rw [does_obj hk] at ho
      split at ho
      · cases hx : objOf R x with
        | none => rw [hx] at ho; cases ho
        | some o' => rw [hx] at ho; exact ⟨o', rfl, .inr (by simpa using ho.symm)⟩
      · exact ⟨o, ho, .inl rfl⟩
    refine ⟨fun x o ho => ?_, fun x o ho s hs => ?_, fun x o ho s hs y hy => ?_⟩
    · obtain ⟨o', ho', _⟩ := hm x o ho
      exact (h.obj x o' ho').imp id (List.mem_cons_of_mem _)
    · obtain ⟨o', ho', e | e⟩ := hm x o ho
      · subst e
        exact (h.slot x _ ho' s hs).imp id (List.mem_cons_of_mem _)
      · subst e
        rcases does_slot hs with ⟨e, _⟩ | ⟨e | ⟨s0, h0, e, _⟩, _⟩
        · exact .inr (e ▸ List.mem_cons_self)
        · exact .inl e
        · rw [← e]
          exact (h.slot x _ ho' s0 h0).imp id (List.mem_cons_of_mem _)
    · obtain ⟨o', ho', e | e⟩ := hm x o ho
      · subst e
        exact List.mem_cons_of_mem _ (h.giver x _ ho' s hs y hy)
      · subst e
        rcases does_slot hs with ⟨_, e⟩ | ⟨_, ⟨s0, h0, hx⟩ | hx⟩
        · rw [e] at hy; cases hy
        · rcases hx y hy with hy | rfl
          · exact List.mem_cons_of_mem _ (h.giver x _ ho' s0 h0 y hy)
          · exact List.mem_cons_self
        · rw [hx y hy]; exact List.mem_cons_self
theorem does_keepsG {R : List PObj} (p : POp) {x : PId} (h : ∃ o, objOf R x = some o) : ∃ o, objOf (doesP R p) x = some o := by
  obtain ⟨o, h⟩ := h
  by_cases hk : p.kind = 1
  · rw [make_obj hk, h]; exact ⟨o, rfl⟩
  · rw [does_obj hk, h]
    split
    · exact ⟨_, rfl⟩
    · exact ⟨_, rfl⟩
theorem does_makes {R : List PObj} {p : POp} (hk : p.kind = 1) : ∃ o, objOf (doesP R p) p.id = some o := by
  rw [make_obj hk]
  cases objOf R p.id with
  | some o => exact ⟨o, rfl⟩
  | none => exact ⟨_, if_pos rfl⟩

/-- Operations each of which is new; M: the objects that are there. -/
def OpsOk : List PId → List PId → List POp → Prop
  | _, _, [] => True
  | I, M, p :: S => (p.kind = 1 ∨ p.kind = 2 ∨ p.kind = 3 ∨ p.kind = 4) ∧ p.id ≠ (0, 0) ∧ p.id ∉ I ∧ (p.kind = 3 ∨ p.kind = 4 → p.key ≠ ⟨#[]⟩ → p.element = (0, 0)) ∧ (p.kind = 3 → p.obj ∈ M) ∧ OpsOk (p.id :: I) (if p.kind = 1 then p.id :: M else M) S

theorem Agree.all : ∀ (S : List POp) (ns : Nat → Int) (R : List PObj) (D D' : QDoc) (I M : List PId), Agree R D → QNd D → InR R I → (∀ x ∈ M, ∃ o, objOf R x = some o) → OpsOk I M S → DoTo D ((List.range S.length).map fun i => qopOf (S.getD i ⟨(0, 0), 0, false, (0, 0), ⟨#[]⟩, (0, 0), (0, 0), 0, (0, 0), []⟩) (ns i)) D' → Agree (S.foldl doesP R) D' ∧ QNd D'
  | [], ns, R, D, D', I, M, h, hn, _, _, _, hd => by
    have e : D' = D := hd
    exact ⟨e ▸ h, e ▸ hn⟩
  | p :: S, ns, R, D, D', I, M, h, hn, hI, hM, hok, hd => by
    rw [List.length_cons, List.range_succ_eq_map, List.map_cons, List.map_map] at hd
    obtain ⟨D1, h1, h2⟩ := hd
    simp only [List.getD_cons_zero] at h1
    have hf : Fresh R p := ⟨hok.1, fun _ => by
        cases ho : objOf R p.id with
        | none => rfl
        | some o => rcases hI.obj _ _ ho with e | e
                    · exact absurd e hok.2.1
                    · exact absurd e hok.2.2.1,
      fun _ => ⟨hok.2.1, fun x o ho hm => by
        obtain ⟨s, hs, e⟩ := List.mem_map.1 hm
        rcases hI.slot x o ho s hs with e' | e'
        · exact hok.2.1 (e.symm.trans e')
        · exact hok.2.2.1 (e ▸ e')⟩, hok.2.2.2.1, fun _ x o ho s hs y hy e => hok.2.2.1 (e ▸ hI.giver x o ho s hs y hy), fun hk => hM _ (hok.2.2.2.2.1 hk)⟩
    refine Agree.all S (fun i => ns (i + 1)) (doesP R p) D1 D' (p.id :: I) (if p.kind = 1 then p.id :: M else M) (h.any hn hf h1) (hn.step h1) (hI.does p) (fun x hx => ?_) hok.2.2.2.2.2 ?_
    · split at hx
      · rename_i hk
        rcases List.mem_cons.1 hx with rfl | hx
        · exact does_makes hk
        · exact does_keepsG p (hM x hx)
      · exact does_keepsG p (hM x hx)
    · simpa [Function.comp_def] using h2

end Go.Proofs.YtnkpogjiiohapaaGreatDoor
