/- Our own text (PlB). -/
import Derived.Test.YtnkpogjiiohapaaGreatDoorA09
set_option linter.unusedSimpArgs false
set_option linter.unusedVariables false

/-! PlB: Plain: one operation keeps it that the two documents say the same. -/
namespace Go.Proofs.YtnkpogjiiohapaaGreatDoor
open Go.RowKit

/-- What is asked of an operation that is done. -/
structure Fit (R : List PObj) (p : POp) : Prop where
  kind : p.kind = 1 ∨ p.kind = 2 ∨ p.kind = 3 ∨ p.kind = 4
  make : p.kind = 1 → objOf R p.id = none
  lay : p.kind = 2 → p.id ≠ (0, 0) ∧ (∀ x o, objOf R x = some o → p.id ∉ o.ss.map PSlot.id) ∧ ∃ o, objOf R p.object = some o ∧ o.list = true ∧ (p.behind = (0, 0) ∨ p.behind ∈ o.ss.map PSlot.id)
  val : p.kind = 3 ∨ p.kind = 4 → ∃ o, objOf R p.object = some o ∧ ((o.list = false ∧ p.key ≠ ⟨#[]⟩ ∧ p.element = (0, 0)) ∨ (o.list = true ∧ p.key = ⟨#[]⟩ ∧ p.element ∈ o.ss.map PSlot.id)) ∧ ∀ h ∈ heldsAt o p.key p.element, h.giver ≠ p.id
  obj : p.kind = 3 → ∃ o, objOf R p.obj = some o

def chgOf (p : POp) : QChg :=
  if p.kind = 1 then .inl p.list else if p.kind = 2 then .inr (.inl (p.object, p.behind)) else if p.kind = 3 then .inr (.inr (.inl (p.object, p.key, p.element, (p.num, p.obj), p.old))) else .inr (.inr (.inr (p.object, p.key, p.element, p.old)))
def qopOf (p : POp) (n : Int) : QOp := ⟨p.id, n, chgOf p⟩

theorem ObjAg.elsKeep {els els' : List (PId × CQEl)} {x : PId} {o : PObj} {ob : CQObj} (h : ObjAg els x o ob) (h1 : o.list = true → ∀ s ∈ o.ss, lookI s.id els' = lookI s.id els) (h2 : o.list = true → Chain els' ob.first (o.ss.map PSlot.id)) : ObjAg els' x o ob :=
  ⟨h.list, h.keys, h.kone, h.kval, fun hl s hs => by rw [h1 hl s hs]; exact h.elems hl s hs, h.eone, h2⟩

section
theorem Agree.make {R : List PObj} {D : QDoc} (h : Agree R D) {p : POp} (hk : p.kind = 1) (hf : objOf R p.id = none) : Agree (doesP R p) (putI p.id ⟨p.list, none, [], (0, 0)⟩ D.1, D.2) := by
  refine ⟨fun x o hx => ?_, fun x hx => ?_, fun y e hy => ?_⟩
  · rw [make_obj hk] at hx
    rw [look_put]
    cases ho : objOf R x with
    | some o' =>
      rw [ho] at hx
      cases hx
      have hne : ¬ x = p.id := fun e => by subst e; rw [hf] at ho; cases ho
      rw [if_neg hne]
      exact h.o1 x o ho
    | none =>
      rw [ho] at hx
      simp only at hx
      split at hx
      · rename_i e
        cases hx
        rw [if_pos e]
        exact ⟨_, rfl, rfl, fun _ s hs => (by cases hs), fun _ => List.nodup_nil, fun _ key => (by simp [lookI, heldsAt]), fun _ s hs => (by cases hs), fun _ => List.nodup_nil, fun _ => rfl⟩
      · cases hx
  · rw [make_obj hk] at hx
    rw [look_put]
    cases ho : objOf R x with
    | some o' => rw [ho] at hx; cases hx
    | none =>
      rw [ho] at hx
      simp only at hx
      split at hx
      · cases hx
      · rename_i e
        rw [if_neg e]
        exact h.o0 x ho
  · obtain ⟨o, h1, h2, h3⟩ := h.el y e hy
    exact ⟨o, by rw [make_obj hk, h1], h2, h3⟩

theorem Agree.elem {R : List PObj} {D : QDoc} (h : Agree R D) {x : PId} {o : PObj} (hx : objOf R x = some o) (hl : o.list = true) {y : PId} (hy : y ∈ o.ss.map PSlot.id) : ∃ e s, lookI y D.2 = some e ∧ e.list = x ∧ s ∈ o.ss ∧ s.id = y ∧ s.key = ⟨#[]⟩ ∧ y ≠ (0, 0) ∧ e.vs.Perm (s.hs.map hpair) := by
  obtain ⟨ob, _, hag⟩ := h.o1 x o hx
  obtain ⟨s, hs, rfl⟩ := List.mem_map.1 hy
  obtain ⟨h1, h2, e, h3, h4, h5⟩ := hag.elems hl s hs
  exact ⟨e, s, h3, h4, hs, rfl, h1, h2, h5⟩
/-- An element lies in one list alone. -/
theorem Agree.one {R : List PObj} {D : QDoc} (h : Agree R D) {x x' : PId} {o o' : PObj} (hx : objOf R x = some o) (hl : o.list = true) (hx' : objOf R x' = some o') (hl' : o'.list = true) {y : PId} (hy : y ∈ o.ss.map PSlot.id) (hy' : y ∈ o'.ss.map PSlot.id) : x = x' := by
  obtain ⟨e, _, h1, h2, _⟩ := h.elem hx hl hy
  obtain ⟨e', _, h1', h2', _⟩ := h.elem hx' hl' hy'
  rw [h1] at h1'
  cases h1'
  exact h2.symm.trans h2'
theorem Agree.noEl {R : List PObj} {D : QDoc} (h : Agree R D) {y : PId} (hf : ∀ x o, objOf R x = some o → y ∉ o.ss.map PSlot.id) : lookI y D.2 = none := by
  cases he : lookI y D.2 with
  | none => rfl
  | some e =>
    obtain ⟨o, h1, _, h3⟩ := h.el y e he
    exact absurd h3 (hf _ o h1)
end

theorem ins_ids {l : List PSlot} {b i : PId} {k : Nat} (h1 : l.findIdx? (pslotIs ⟨#[]⟩ b) = some k) : ∃ L1 L2, l.map PSlot.id = L1 ++ b :: L2 ∧ (pinsAt l (k + 1) (pslot0 ⟨#[]⟩ i)).map PSlot.id = L1 ++ b :: i :: L2 := by
  obtain ⟨hk, h2, _⟩ := List.findIdx?_eq_some_iff_getElem.1 h1
  have hid := (slotIs_true.1 h2).2
  refine ⟨(l.take k).map PSlot.id, (l.drop (k + 1)).map PSlot.id, ?_, ?_⟩
  · have e : l = l.take k ++ l[k] :: l.drop (k + 1) := by rw [← List.drop_eq_getElem_cons hk, List.take_append_drop]
    have e2 := congrArg (List.map PSlot.id) e
    rw [List.map_append, List.map_cons, hid] at e2
    exact e2
  · unfold pinsAt
    rw [List.take_succ_eq_append_getElem hk, List.map_append, List.map_append, List.map_cons, List.map_cons, List.map_nil, hid, List.append_assoc]
    rfl

theorem Agree.lay {R : List PObj} {D : QDoc} (h : Agree R D) {p : POp} (hk : p.kind = 2) (hi : p.id ≠ (0, 0)) (hf : ∀ x o, objOf R x = some o → p.id ∉ o.ss.map PSlot.id) {o : PObj} (ho : objOf R p.object = some o) (hl : o.list = true) (hb : p.behind = (0, 0) ∨ p.behind ∈ o.ss.map PSlot.id) :
    Agree (doesP R p) (layQ D p.object p.behind p.id) := by
  obtain ⟨ob, hob, hag⟩ := h.o1 _ o ho
  have hobl : ob.list = true := hag.list.trans hl
  have hnew := h.noEl hf
  have hk1 : p.kind ≠ 1 := by omega
  have hdo : ∀ y, objOf (doesP R p) y = if y = p.object then (objOf R y).map (doesAt p) else objOf R y := fun y => does_obj hk1 y
  have hda : doesAt p o = ⟨o.id, o.list, laidP o.ss p.behind p.id⟩ := by unfold doesAt; rw [if_pos hk, if_pos hl]
  have hdo' : objOf (doesP R p) p.object = some ⟨o.id, o.list, laidP o.ss p.behind p.id⟩ := by rw [hdo, if_pos rfl, ho, Option.map_some, hda]
  have hid : p.id ∉ o.ss.map PSlot.id := hf _ o ho
  unfold layQ
  rw [hob]
  dsimp only
  rw [if_neg (by rw [hobl]; simp)]
  by_cases hb0 : p.behind = (0, 0)
  · rw [if_pos hb0]
    have hla : laidP o.ss p.behind p.id = pslot0 ⟨#[]⟩ p.id :: o.ss := by
      unfold laidP; rw [hb0, if_pos (by simp [idEq])]; simp [pinsAt]
    have hoth : ∀ y, y ≠ p.id → lookI y (putI p.id ⟨p.object, ob.first, none, []⟩ D.2) = lookI y D.2 := fun y hy => by rw [look_put, if_neg hy]
    refine ⟨fun x o' hx => ?_, fun x hx => ?_, fun y e hy => ?_⟩
    · by_cases hxo : x = p.object
      · subst hxo
        rw [hdo', hla] at hx
        cases hx
        refine ⟨{ ob with first := p.id }, by rw [look_put, if_pos rfl], hag.list, fun h' => ?_, fun h' => ?_, fun h' => ?_, fun _ s hs => ?_, fun _ => ?_, fun _ => ?_⟩
        · rw [hl] at h'; cases h'
        · rw [hl] at h'; cases h'
        · rw [hl] at h'; cases h'
        · rcases List.mem_cons.1 hs with rfl | hs
          · exact ⟨rfl, hi, _, by show lookI p.id _ = _; rw [look_put, if_pos rfl], rfl, by simp [pslot0]⟩
          · obtain ⟨h1, h2, e, h3, h4⟩ := hag.elems hl s hs
            exact ⟨h1, h2, e, by rw [hoth _ (fun e => hid (e ▸ List.mem_map.2 ⟨s, hs, rfl⟩))]; exact h3, h4⟩
        · show (p.id :: o.ss.map PSlot.id).Nodup
          exact List.nodup_cons.2 ⟨hid, hag.eone hl⟩
        · show Chain _ p.id (p.id :: o.ss.map PSlot.id)
          exact ⟨rfl, hi, _, by rw [look_put, if_pos rfl], (hag.chain hl).put hid⟩
      · rw [hdo, if_neg hxo] at hx
        obtain ⟨ob', h1, h2⟩ := h.o1 x o' hx
        have hid' := hf x o' hx
        refine ⟨ob', by rw [look_put, if_neg hxo]; exact h1, h2.elsKeep (fun _ s hs => hoth _ (fun e => hid' (e ▸ List.mem_map.2 ⟨s, hs, rfl⟩))) (fun hl' => (h2.chain hl').put hid')⟩
    · have hxo : x ≠ p.object := fun e => by subst e; rw [hdo'] at hx; cases hx
      rw [hdo, if_neg hxo] at hx
      show lookI x (putI _ _ _) = none
      rw [look_put, if_neg hxo]
      exact h.o0 x hx
    · have hy' : lookI y (putI p.id ⟨p.object, ob.first, none, []⟩ D.2) = some e := hy
      by_cases hyi : y = p.id
      · subst hyi
        rw [look_put, if_pos rfl] at hy'
        cases hy'
        exact ⟨_, hdo', hl, by rw [hla]; simp [pslot0]⟩
      · rw [hoth y hyi] at hy'
        obtain ⟨o', h1, h2, h3⟩ := h.el y e hy'
        by_cases hxo : e.list = p.object
        · rw [hxo] at h1 ⊢
          rw [ho] at h1
          cases h1
          exact ⟨_, hdo', hl, by rw [hla]; simp; exact .inr (by simpa using h3)⟩
        · exact ⟨o', by rw [hdo, if_neg hxo]; exact h1, h2, h3⟩
  · rw [if_neg hb0]
    have hbm : p.behind ∈ o.ss.map PSlot.id := hb.resolve_left hb0
    obtain ⟨e, s0, he, hel, hs0, hsid, hskey, _, _⟩ := h.elem ho hl hbm
    rw [he]
    dsimp only
    rw [if_pos hel]
    have hbi : p.behind ≠ p.id := fun e' => hid (e' ▸ hbm)
    have hfi : ¬ firstI (pslotIs ⟨#[]⟩ p.behind) o.ss < 0 := fun h' => by
      rw [first_neg, List.find?_eq_none] at h'
      exact h' s0 hs0 (slotIs_true.2 ⟨hskey, hsid⟩)
    have hla : laidP o.ss p.behind p.id = pinsAt o.ss ((firstI (pslotIs ⟨#[]⟩ p.behind) o.ss).toNat + 1) (pslot0 ⟨#[]⟩ p.id) := by
      unfold laidP
      have : idEq p.behind.1 p.behind.2 0 0 = false := idEq_false.2 hb0
      rw [this, if_neg (by simp), if_neg hfi]
    have hfp := first_pos hfi
    generalize (firstI (pslotIs ⟨#[]⟩ p.behind) o.ss).toNat = k at hla hfp
    obtain ⟨L1, L2, hL, hL'⟩ := ins_ids (i := p.id) hfp
    have hmem : ∀ s, s ∈ pinsAt o.ss (k + 1) (pslot0 ⟨#[]⟩ p.id) → s ∈ o.ss ∨ s = pslot0 ⟨#[]⟩ p.id := by
      intro s hs
      unfold pinsAt at hs
      rw [List.mem_append, List.mem_cons] at hs
      rcases hs with hs | hs | hs
      · exact .inl (List.mem_of_mem_take hs)
      · exact .inr hs
      · exact .inl (List.mem_of_mem_drop hs)
    have hlk : ∀ y, y ≠ p.id → ∀ e', lookI y D.2 = some e' → ∃ e'', lookI y (putI p.behind { e with next := p.id } (putI p.id ⟨p.object, e.next, none, []⟩ D.2)) = some e'' ∧ e''.list = e'.list ∧ e''.vs = e'.vs := by
      intro y hy e' he'
      rw [look_put]
      by_cases hyb : y = p.behind
      · rw [if_pos hyb]
        subst hyb
        rw [he] at he'
        cases he'
        exact ⟨_, rfl, rfl, rfl⟩
      · rw [if_neg hyb, look_put, if_neg hy]
        exact ⟨e', he', rfl, rfl⟩
    have hch : Chain (putI p.behind { e with next := p.id } (putI p.id ⟨p.object, e.next, none, []⟩ D.2)) ob.first (L1 ++ p.behind :: p.id :: L2) := by
      have := hag.chain hl
      have hnd := hag.eone hl
      rw [hL] at this hid hnd
      exact this.ins he hi hbi hid hnd
    refine ⟨fun x o' hx => ?_, fun x hx => ?_, fun y e1 hy => ?_⟩
    · by_cases hxo : x = p.object
      · subst hxo
        rw [hdo', hla] at hx
        cases hx
        refine ⟨ob, hob, hag.list, fun h' => ?_, fun h' => ?_, fun h' => ?_, fun _ s hs => ?_, fun _ => ?_, fun _ => ?_⟩
        · rw [hl] at h'; cases h'
        · rw [hl] at h'; cases h'
        · rw [hl] at h'; cases h'
        · rcases hmem s hs with hs | rfl
          · obtain ⟨h1, h2, e1, h3, h4, h5⟩ := hag.elems hl s hs
            obtain ⟨e2, h6, h7, h8⟩ := hlk s.id (fun e => hid (e ▸ List.mem_map.2 ⟨s, hs, rfl⟩)) e1 h3
            exact ⟨h1, h2, e2, h6, h7.trans h4, h8 ▸ h5⟩
          · exact ⟨rfl, hi, ⟨p.object, e.next, none, []⟩, by show lookI p.id _ = _; rw [look_put, if_neg (Ne.symm hbi), look_put, if_pos rfl], rfl, by simp [pslot0]⟩
        · show ((pinsAt o.ss (k + 1) (pslot0 ⟨#[]⟩ p.id)).map PSlot.id).Nodup
          rw [hL']
          have hnd := hag.eone hl
          rw [hL] at hnd hid
          have : (L1 ++ p.behind :: p.id :: L2).Perm (p.id :: (L1 ++ p.behind :: L2)) := by
            have := List.perm_middle (a := p.id) (l₁ := L1 ++ [p.behind]) (l₂ := L2)
            simpa using this
          rw [this.nodup_iff]
          exact List.nodup_cons.2 ⟨hid, hnd⟩
        · show Chain _ ob.first ((pinsAt o.ss (k + 1) (pslot0 ⟨#[]⟩ p.id)).map PSlot.id)
          rw [hL']; exact hch
      · rw [hdo, if_neg hxo] at hx
        obtain ⟨ob', h1, h2⟩ := h.o1 x o' hx
        have hid' := hf x o' hx
        have hbn : o'.list = true → p.behind ∉ o'.ss.map PSlot.id := fun hl' hm => hxo (h.one hx hl' ho hl hm hbm)
        refine ⟨ob', h1, h2.elsKeep (fun hl' s hs => ?_) (fun hl' => ((h2.chain hl').put hid').put (hbn hl'))⟩
        have hm : s.id ∈ o'.ss.map PSlot.id := List.mem_map.2 ⟨s, hs, rfl⟩
        show lookI s.id (putI _ _ (putI _ _ _)) = _
        rw [look_put, if_neg (fun (e : s.id = p.behind) => hbn hl' (e ▸ hm)), look_put, if_neg (fun (e : s.id = p.id) => hid' (e ▸ hm))]
    · have hxo : x ≠ p.object := fun e => by subst e; rw [hdo'] at hx; cases hx
      rw [hdo, if_neg hxo] at hx
      exact h.o0 x hx
    · have hy' : lookI y (putI p.behind { e with next := p.id } (putI p.id ⟨p.object, e.next, none, []⟩ D.2)) = some e1 := hy
      by_cases hyi : y = p.id
      · subst hyi
        rw [look_put, if_neg (Ne.symm hbi), look_put, if_pos rfl] at hy'
        cases hy'
        refine ⟨_, hdo', hl, ?_⟩
        rw [hla]
        show p.id ∈ (pinsAt o.ss (k + 1) (pslot0 ⟨#[]⟩ p.id)).map PSlot.id
        rw [hL']; simp
      · have hold : ∃ e', lookI y D.2 = some e' ∧ e'.list = e1.list := by
          rw [look_put] at hy'
          by_cases hyb : y = p.behind
          · rw [if_pos hyb] at hy'
            cases hy'
            exact ⟨e, hyb ▸ he, rfl⟩
          · rw [if_neg hyb, look_put, if_neg hyi] at hy'
            exact ⟨e1, hy', rfl⟩
        obtain ⟨e', h0, h0'⟩ := hold
        obtain ⟨o', h1, h2, h3⟩ := h.el y e' h0
        rw [← h0']
        by_cases hxo : e'.list = p.object
        · rw [hxo] at h1 ⊢
          rw [ho] at h1
          cases h1
          refine ⟨_, hdo', hl, ?_⟩
          rw [hla]
          show y ∈ (pinsAt o.ss (k + 1) (pslot0 ⟨#[]⟩ p.id)).map PSlot.id
          rw [hL'] 
          rw [hL] at h3
          simp only [List.mem_append, List.mem_cons] at h3 ⊢
          rcases h3 with h3 | h3 | h3
          · exact .inl h3
          · exact .inr (.inl h3)
          · exact .inr (.inr (.inr h3))
        · exact ⟨o', by rw [hdo, if_neg hxo]; exact h1, h2, h3⟩

/-! Values. -/
theorem less_map (gs : List PId) (hs : List PHeld) : lessI gs (hs.map hpair) = (unnamed gs hs).map hpair := by
  unfold lessI unnamed
  rw [List.filter_map]
  congr 1
  apply List.filter_congr
  intro h _
  by_cases hm : h.giver ∈ gs <;> simp [hpair, hm]
theorem pslot_set {key key' : ByteArray} {x x' : PId} {old : List PId} {kind : Int} {y : PHeld} (s : PSlot) : pslotIs key' x' (setHelds key x old kind y s) = pslotIs key' x' s := by
  unfold pslotIs; rw [set_id, set_key']
theorem helds_valued {o : PObj} {key : ByteArray} {x : PId} {old : List PId} {kind : Int} {y : PHeld} (hn : o.ss.Pairwise fun a b => ¬ (a.key = b.key ∧ a.id = b.id)) (hx : o.list = false → x = (0, 0)) (he : o.list = true → ∃ s ∈ o.ss, pslotIs key x s = true) (key' : ByteArray) (x' : PId) :
    heldsAt ⟨o.id, o.list, valuedP o.ss o.list key x old kind y⟩ key' x' = if key' = key ∧ x' = x then newHelds old (heldsAt o key x) kind y else heldsAt o key' x' := by
  by_cases hs : ∃ s ∈ o.ss, pslotIs key x s = true
  · obtain ⟨s, hs, hp⟩ := hs
    unfold heldsAt
    rw [valued_at hn hs hp]
    simp only
    rw [List.find?_map]
    have : (pslotIs key' x' ∘ setHelds key x old kind y) = pslotIs key' x' := by funext s; exact pslot_set s
    rw [this]
    cases hf : o.ss.find? (pslotIs key' x') with
    | none =>
      simp only [Option.map_none]
      rw [if_neg]
      rintro ⟨rfl, rfl⟩
      rw [List.find?_eq_none] at hf
      exact hf s hs hp
    | some s' =>
      simp only [Option.map_some]
      have h1 := slotIs_true.1 (List.find?_some hf)
      by_cases he : key' = key ∧ x' = x
      · obtain ⟨rfl, rfl⟩ := he
        rw [if_pos ⟨rfl, rfl⟩, hf]
        unfold setHelds
        rw [if_pos (List.find?_some hf)]
      · rw [if_neg he]
        unfold setHelds
        rw [if_neg]
        intro h2
        have h3 := slotIs_true.1 h2
        exact he ⟨h1.1.symm.trans h3.1, h1.2.symm.trans h3.2⟩
  · have hl : o.list = false := by
      cases h : o.list
      · rfl
      · exact absurd (he h) hs
    have hx' := hx hl
    subst hx'
    have hno : ∀ s ∈ o.ss, pslotIs key (0, 0) s = false := fun s hs' => by
      cases h : pslotIs key (0, 0) s
      · rfl
      · exact absurd ⟨s, hs', h⟩ hs
    have h0 : heldsAt o key (0, 0) = [] := by
      unfold heldsAt
      rw [List.find?_eq_none.2 fun s hs => by rw [hno s hs]; simp]
    rw [h0, hl, valued_none hno]
    unfold heldsAt
    simp only
    rw [List.find?_append]
    by_cases he : key' = key ∧ x' = (0, 0)
    · obtain ⟨rfl, rfl⟩ := he
      rw [List.find?_eq_none.2 fun s hs => by rw [hno s hs]; simp]
      simp [pslotIs, idEq]
    · rw [if_neg he]
      cases hf : o.ss.find? (pslotIs key' x') with
      | some s => rfl
      | none =>
        have : pslotIs key' x' ⟨key, (0, 0), newHelds old [] kind y⟩ = false := by
          cases h : pslotIs key' x' ⟨key, (0, 0), newHelds old [] kind y⟩
          · rfl
          · have := slotIs_true.1 h
            exact absurd ⟨this.1.symm, this.2.symm⟩ he
        simp [this]

theorem ObjAg.apart {els : List (PId × CQEl)} {x : PId} {o : PObj} {ob : CQObj} (h : ObjAg els x o ob) : o.ss.Pairwise fun a b => ¬ (a.key = b.key ∧ a.id = b.id) := by
  cases hl : o.list
  · have := List.pairwise_map.1 (h.kone hl)
    exact this.imp fun hne he => hne he.1
  · have := List.pairwise_map.1 (h.eone hl)
    exact this.imp fun hne he => hne he.2

theorem ObjAg.heldsOf {els : List (PId × CQEl)} {x : PId} {o : PObj} {ob : CQObj} (h : ObjAg els x o ob) {s : PSlot} (hs : s ∈ o.ss) {key : ByteArray} {y : PId} (hp : pslotIs key y s = true) : heldsAt o key y = s.hs := by
  unfold heldsAt
  cases hf : o.ss.find? (pslotIs key y) with
  | none => rw [List.find?_eq_none] at hf; exact absurd hp (hf s hs)
  | some s2 =>
    have hs2 := List.mem_of_find?_eq_some hf
    have h6 := slotIs_true.1 (List.find?_some hf)
    have h7 := slotIs_true.1 hp
    have : s2 = s := by
      have hpw := h.apart
      rcases List.mem_iff_getElem.1 hs2 with ⟨i, hi, rfl⟩
      rcases List.mem_iff_getElem.1 hs with ⟨j, hj, rfl⟩
      rcases Nat.lt_trichotomy i j with hij | hij | hij
      · exact absurd ⟨h6.1.trans h7.1.symm, h6.2.trans h7.2.symm⟩ (List.pairwise_iff_getElem.1 hpw i j hi hj hij)
      · subst hij; rfl
      · exact absurd ⟨h7.1.trans h6.1.symm, h7.2.trans h6.2.symm⟩ (List.pairwise_iff_getElem.1 hpw j i hj hi hij)
    rw [this]

/-- The values of a key. -/
theorem Agree.atK {R : List PObj} {D : QDoc} (h : Agree R D) {x : PId} {o : PObj} (ho : objOf R x = some o) (hl : o.list = false) {key : ByteArray} (hkey : key ≠ ⟨#[]⟩) (y : PId) : hasPl D.1 D.2 x key y = true ∧ (atPl D.1 D.2 x key y).vs.Perm ((heldsAt o key (0, 0)).map hpair) := by
  obtain ⟨ob, hob, hag⟩ := h.o1 _ o ho
  have hhas : hasPl D.1 D.2 x key y = true := by
    unfold hasPl qlist
    rw [if_neg hkey, hob]
    simp [hag.list, hl]
  refine ⟨hhas, ?_⟩
  have := hag.kval hl key
  unfold atPl
  rw [if_pos hhas, if_neg hkey, hob]
  dsimp only
  cases hlk : lookI key ob.ks with
  | none => rw [hlk] at this; exact this
  | some c => rw [hlk] at this; exact this
/-- The values of an element. -/
theorem Agree.atE {R : List PObj} {D : QDoc} (h : Agree R D) {x : PId} {o : PObj} (ho : objOf R x = some o) (hl : o.list = true) {y : PId} (hy : y ∈ o.ss.map PSlot.id) : hasPl D.1 D.2 x ⟨#[]⟩ y = true ∧ (atPl D.1 D.2 x ⟨#[]⟩ y).vs.Perm ((heldsAt o ⟨#[]⟩ y).map hpair) := by
  obtain ⟨e0, s, he0, hel0, hs, hsid, hskey, _, hperm⟩ := h.elem ho hl hy
  obtain ⟨ob, hob, hag⟩ := h.o1 _ o ho
  have hhas : hasPl D.1 D.2 x ⟨#[]⟩ y = true := by
    unfold hasPl
    rw [if_pos rfl, he0]
    simp [hel0]
  refine ⟨hhas, ?_⟩
  unfold atPl
  rw [if_pos hhas, if_pos rfl, he0, hag.heldsOf hs (slotIs_true.2 ⟨hskey, hsid⟩)]
  exact hperm

theorem Agree.valK {R : List PObj} {D : QDoc} (h : Agree R D) {p : POp} (hk : p.kind = 3 ∨ p.kind = 4) {o : PObj} (ho : objOf R p.object = some o) (hl : o.list = false) (hkey : p.key ≠ ⟨#[]⟩) (hel : p.element = (0, 0)) {ob : CQObj} (hob : lookI p.object D.1 = some ob) (hnd : (ob.ks.map (·.1)).Nodup)
    {g : Nat} {v : Option Nat} {vs : List (PId × PVal)} {ks' : List (ByteArray × CKey)} (hks : ks'.Perm ob.ks) (hvs : vs.Perm ((newHelds p.old (heldsAt o p.key p.element) p.kind p.held).map hpair)) :
    Agree (doesP R p) (putI p.object { ob with kv := some g, ks := putI p.key ⟨v, vs⟩ ks' } D.1, D.2) := by
  obtain ⟨ob', hob', hag⟩ := h.o1 _ o ho
  rw [hob] at hob'
  cases hob'
  have hk1 : p.kind ≠ 1 := by omega
  have hk2 : p.kind ≠ 2 := by omega
  have hdo : ∀ y, objOf (doesP R p) y = if y = p.object then (objOf R y).map (doesAt p) else objOf R y := fun y => does_obj hk1 y
  have hda : doesAt p o = ⟨o.id, o.list, valuedP o.ss o.list p.key p.element p.old p.kind p.held⟩ := by
    unfold doesAt; rw [if_neg hk2, if_pos (by rw [hl, key_ne hkey])]
  have hdo' := hdo p.object
  rw [if_pos rfl, ho, Option.map_some, hda] at hdo'
  have hhv := helds_valued (old := p.old) (kind := p.kind) (y := p.held) (key := p.key) (x := p.element) hag.apart (fun _ => hel) (fun h' => by rw [hl] at h'; cases h')
  refine ⟨fun x o' hx => ?_, fun x hx => ?_, fun y e hy => ?_⟩
  · by_cases hxo : x = p.object
    · subst hxo
      rw [hdo'] at hx
      cases hx
      refine ⟨{ ob with kv := some g, ks := putI p.key ⟨v, vs⟩ ks' }, by rw [look_put, if_pos rfl], hag.list, fun _ s hs => ?_, fun _ => ?_, fun _ key => ?_, fun h' => ?_, fun h' => ?_, fun h' => ?_⟩
      · by_cases hex : ∃ s ∈ o.ss, pslotIs p.key p.element s = true
        · obtain ⟨s0, hs0, hp0⟩ := hex
          simp only [valued_at hag.apart hs0 hp0] at hs
          obtain ⟨s1, hs1, rfl⟩ := List.mem_map.1 hs
          rw [set_id, set_key']
          exact hag.keys hl s1 hs1
        · have hno : ∀ s ∈ o.ss, pslotIs p.key p.element s = false := fun s hs' => by
            cases h : pslotIs p.key p.element s
            · rfl
            · exact absurd ⟨s, hs', h⟩ hex
          simp only [hl, valued_none hno] at hs
          rcases List.mem_append.1 hs with hs | hs
          · exact hag.keys hl s hs
          · simp at hs
            subst hs
            exact ⟨hkey, rfl⟩
      · by_cases hex : ∃ s ∈ o.ss, pslotIs p.key p.element s = true
        · obtain ⟨s0, hs0, hp0⟩ := hex
          simp only [valued_at hag.apart hs0 hp0]
          rw [List.map_map]
          have : (PSlot.key ∘ setHelds p.key p.element p.old p.kind p.held) = PSlot.key := by funext s; exact set_key' s
          rw [this]
          exact hag.kone hl
        · have hno : ∀ s ∈ o.ss, pslotIs p.key p.element s = false := fun s hs' => by
            cases h : pslotIs p.key p.element s
            · rfl
            · exact absurd ⟨s, hs', h⟩ hex
          simp only [hl, valued_none hno]
          rw [List.map_append]
          have hnew : p.key ∉ o.ss.map PSlot.key := fun hm => by
            obtain ⟨s, hs, he⟩ := List.mem_map.1 hm
            have := hno s hs
            rw [slotIs_true.2 ⟨he, (hag.keys hl s hs).2.trans hel.symm⟩] at this
            cases this
          have hp := List.perm_append_comm (l₁ := o.ss.map PSlot.key) (l₂ := [p.key])
          exact (hp.nodup_iff).2 (List.nodup_cons.2 ⟨hnew, hag.kone hl⟩)
      · rw [hhv, look_put, hel]
        by_cases hkk : key = p.key
        · subst hkk
          rw [if_pos rfl, if_pos ⟨rfl, rfl⟩]
          rw [hel] at hvs
          exact hvs
        · rw [if_neg hkk, if_neg (fun h' => hkk h'.1), look_perm hks hnd]
          exact hag.kval hl key
      · exact absurd h' (by simp [hl])
      · exact absurd h' (by simp [hl])
      · exact absurd h' (by simp [hl])
    · rw [hdo, if_neg hxo] at hx
      obtain ⟨ob', h1, h2⟩ := h.o1 x o' hx
      exact ⟨ob', by rw [look_put, if_neg hxo]; exact h1, h2⟩
  · have hxo : x ≠ p.object := fun e => by subst e; rw [hdo'] at hx; cases hx
    rw [hdo, if_neg hxo] at hx
    show lookI x (putI _ _ _) = none
    rw [look_put, if_neg hxo]
    exact h.o0 x hx
  · obtain ⟨o', h1, h2, h3⟩ := h.el y e hy
    have hxo : e.list ≠ p.object := fun e' => by rw [e', ho] at h1; cases h1; rw [hl] at h2; cases h2
    exact ⟨o', by rw [hdo, if_neg hxo]; exact h1, h2, h3⟩

theorem Agree.valE {R : List PObj} {D : QDoc} (h : Agree R D) {p : POp} (hk : p.kind = 3 ∨ p.kind = 4) {o : PObj} (ho : objOf R p.object = some o) (hl : o.list = true) (hkey : p.key = ⟨#[]⟩) (hel : p.element ∈ o.ss.map PSlot.id) {el : CQEl} (hle : lookI p.element D.2 = some el)
    {v : Option Nat} {vs : List (PId × PVal)} (hvs : vs.Perm ((newHelds p.old (heldsAt o p.key p.element) p.kind p.held).map hpair)) :
    Agree (doesP R p) (D.1, putI p.element { el with v := v, vs := vs } D.2) := by
  obtain ⟨ob, hob, hag⟩ := h.o1 _ o ho
  have hk1 : p.kind ≠ 1 := by omega
  have hk2 : p.kind ≠ 2 := by omega
  have hdo : ∀ y, objOf (doesP R p) y = if y = p.object then (objOf R y).map (doesAt p) else objOf R y := fun y => does_obj hk1 y
  have hda : doesAt p o = ⟨o.id, o.list, valuedP o.ss o.list p.key p.element p.old p.kind p.held⟩ := by
    unfold doesAt; rw [if_neg hk2, if_pos (by rw [hl, hkey, nil_toList]; rfl)]
  have hdo' := hdo p.object
  rw [if_pos rfl, ho, Option.map_some, hda] at hdo'
  obtain ⟨s0, hs0, hsid⟩ := List.mem_map.1 hel
  have hp0 : pslotIs p.key p.element s0 = true := slotIs_true.2 ⟨(hag.elems hl s0 hs0).1.trans hkey.symm, hsid⟩
  rw [valued_at hag.apart hs0 hp0] at hdo'
  have hids : (o.ss.map (setHelds p.key p.element p.old p.kind p.held)).map PSlot.id = o.ss.map PSlot.id := by
    rw [List.map_map]
    congr 1
    funext s; exact set_id s
  obtain ⟨e0, _, he0, hel0, _⟩ := h.elem ho hl hel
  rw [hle] at he0
  cases he0
  refine ⟨fun x o' hx => ?_, fun x hx => ?_, fun y e hy => ?_⟩
  · by_cases hxo : x = p.object
    · subst hxo
      rw [hdo'] at hx
      cases hx
      refine ⟨ob, hob, hag.list, fun h' => ?_, fun h' => ?_, fun h' => ?_, fun _ s hs => ?_, fun _ => ?_, fun _ => ?_⟩
      · exact absurd h' (by simp [hl])
      · exact absurd h' (by simp [hl])
      · exact absurd h' (by simp [hl])
      · obtain ⟨s1, hs1, rfl⟩ := List.mem_map.1 hs
        obtain ⟨h1, h2, e1, h3, h4, h5⟩ := hag.elems hl s1 hs1
        rw [set_id, set_key']
        refine ⟨h1, h2, ?_⟩
        show ∃ e, lookI s1.id (putI _ _ _) = some e ∧ _
        rw [look_put]
        by_cases hse : s1.id = p.element
        · rw [if_pos hse]
          refine ⟨_, rfl, hel0, ?_⟩
          have hp1 : pslotIs p.key p.element s1 = true := slotIs_true.2 ⟨h1.trans hkey.symm, hse⟩
          have hh : heldsAt o p.key p.element = s1.hs := hag.heldsOf hs1 hp1
          unfold setHelds
          rw [if_pos hp1]
          rw [hh] at hvs
          exact hvs
        · rw [if_neg hse]
          refine ⟨e1, h3, h4, ?_⟩
          unfold setHelds
          rw [if_neg (fun h' => hse (slotIs_true.1 h').2)]
          exact h5
      · show ((o.ss.map (setHelds p.key p.element p.old p.kind p.held)).map PSlot.id).Nodup
        rw [hids]; exact hag.eone hl
      · show Chain _ _ ((o.ss.map (setHelds p.key p.element p.old p.kind p.held)).map PSlot.id)
        rw [hids]; exact (hag.chain hl).same (e' := { el with v := v, vs := vs }) hle rfl
    · rw [hdo, if_neg hxo] at hx
      obtain ⟨ob', h1, h2⟩ := h.o1 x o' hx
      refine ⟨ob', h1, h2.elsKeep (fun hl' s hs => ?_) (fun hl' => (h2.chain hl').same (e' := { el with v := v, vs := vs }) hle rfl)⟩
      have hm : s.id ∈ o'.ss.map PSlot.id := List.mem_map.2 ⟨s, hs, rfl⟩
      show lookI s.id (putI _ _ _) = _
      rw [look_put, if_neg (fun (e : s.id = p.element) => hxo (h.one hx hl' ho hl (e ▸ hm) hel))]
  · have hxo : x ≠ p.object := fun e => by subst e; rw [hdo'] at hx; cases hx
    rw [hdo, if_neg hxo] at hx
    exact h.o0 x hx
  · have hold : ∃ e', lookI y D.2 = some e' ∧ e'.list = e.list := by
      have hy' : lookI y (putI p.element { el with v := v, vs := vs } D.2) = some e := hy
      rw [look_put] at hy'
      by_cases hyb : y = p.element
      · rw [if_pos hyb] at hy'
        cases hy'
        exact ⟨el, hyb ▸ hle, rfl⟩
      · rw [if_neg hyb] at hy'
        exact ⟨e, hy', rfl⟩
    obtain ⟨e', h0, h0'⟩ := hold
    obtain ⟨o', h1, h2, h3⟩ := h.el y e' h0
    rw [← h0']
    by_cases hxo : e'.list = p.object
    · rw [hxo] at h1 ⊢
      rw [ho] at h1
      cases h1
      exact ⟨_, hdo', hl, by show y ∈ (o.ss.map (setHelds p.key p.element p.old p.kind p.held)).map PSlot.id; rw [hids]; exact h3⟩
    · exact ⟨o', by rw [hdo, if_neg hxo]; exact h1, h2, h3⟩

/-- ONE OPERATION: the two documents say the same behind it. -/
theorem Agree.step {R : List PObj} {D D' : QDoc} (h : Agree R D) (hn : QNd D) {p : POp} {n : Int} (hf : Fit R p) (hs : StepTo D (qopOf p n) D') : Agree (doesP R p) D' := by
  unfold StepTo qopOf chgOf at hs
  have hval : (p.kind = 3 ∨ p.kind = 4) → ∀ {v : Option Nat} {vs vs' : List (PId × PVal)}, vs.Perm (lessI p.old (atPl D.1 D.2 p.object p.key p.element).vs) → vs' = (if p.kind = 3 then putI p.id (p.num, p.obj) vs else vs) → SetTo D p.object p.key p.element v vs' D' → Agree (doesP R p) D' := by
    intro hk v vs vs' hp hv' hst
    obtain ⟨o, ho, hcase, hgiv⟩ := hf.val hk
    have hmain : ∀ hs : List PHeld, (atPl D.1 D.2 p.object p.key p.element).vs.Perm (hs.map hpair) → (∀ h ∈ hs, h.giver ≠ p.id) → vs'.Perm ((newHelds p.old hs p.kind p.held).map hpair) := by
      intro hs hat hg
      have h1 : vs.Perm ((unnamed p.old hs).map hpair) := by
        rw [← less_map]
        exact hp.trans (hat.filter _)
      unfold newHelds
      rw [List.map_append, hv']
      by_cases h3 : p.kind = 3
      · rw [if_pos h3, if_pos h3]
        have hnew : p.id ∉ vs.map (·.1) := fun hm => by
          rw [(h1.map (·.1)).mem_iff] at hm
          simp only [List.map_map, List.mem_map, Function.comp] at hm
          obtain ⟨x, hx, he⟩ := hm
          exact hg x (List.mem_filter.1 hx).1 he
        rw [put_fresh hnew]
        exact h1.append_right _
      · rw [if_neg h3, if_neg h3]
        simpa using h1
    rcases hcase with ⟨hl, hkey, hel⟩ | ⟨hl, hkey, hel⟩
    · rcases hst with ⟨hk0, _⟩ | ⟨_, ob, g, ks', hob, hks, rfl⟩
      · exact absurd hk0 hkey
      · have hat := (h.atK ho hl hkey p.element).2
        rw [← hel] at hat
        exact h.valK hk ho hl hkey hel hob (hn.ks _ (look_mem hob)) hks (hmain _ hat hgiv)
    · rcases hst with ⟨_, el, hle, rfl⟩ | ⟨hk0, _⟩
      · have hat := (h.atE ho hl hel).2
        rw [← hkey] at hat
        exact h.valE hk ho hl hkey hel hle (hmain _ hat hgiv)
      · exact absurd hkey hk0
  have hhas : (p.kind = 3 ∨ p.kind = 4) → hasPl D.1 D.2 p.object p.key p.element = true := by
    intro hk
    obtain ⟨o, ho, hcase, _⟩ := hf.val hk
    rcases hcase with ⟨hl, hkey, hel⟩ | ⟨hl, hkey, hel⟩
    · exact (h.atK ho hl hkey p.element).1
    · rw [hkey]; exact (h.atE ho hl hel).1
  rcases hf.kind with hk | hk | hk | hk
  · simp only [hk, if_true] at hs
    subst hs
    exact h.make hk (hf.make hk)
  · have h1 : ¬ p.kind = 1 := by omega
    simp only [h1, hk, if_true, if_false] at hs
    obtain ⟨h2, h3, o, h4, h5, h6⟩ := hf.lay hk
    simp at hs
    subst hs
    exact h.lay hk h2 h3 h4 h5 h6
  · have h1 : ¬ p.kind = 1 := by omega
    have h2 : ¬ p.kind = 2 := by omega
    simp only [h1, h2, hk, if_true, if_false, GiveTo] at hs
    obtain ⟨o', ho'⟩ := hf.obj hk
    obtain ⟨ob', hob', _⟩ := h.o1 _ o' ho'
    have hg : giveOk D p.object p.key p.element p.obj = true := by
      unfold giveOk
      rw [hhas (.inl hk), hob']; rfl
    simp [hg] at hs
    obtain ⟨v, vs, hp, hst⟩ := hs
    exact hval (.inl hk) hp (by rw [if_pos hk]) hst
  · have h1 : ¬ p.kind = 1 := by omega
    have h2 : ¬ p.kind = 2 := by omega
    have h3 : ¬ p.kind = 3 := by omega
    simp only [h1, h2, h3, if_false, TakeTo, hhas (.inr hk), if_true] at hs
    obtain ⟨v, vs, hp, hst⟩ := hs
    exact hval (.inr hk) hp (by rw [if_neg h3]) hst

end Go.Proofs.YtnkpogjiiohapaaGreatDoor
