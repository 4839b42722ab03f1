/- Our own text (PlA, PlB). -/
import Derived.Test.YtnkpogjiiohapaaGreatDoorP04
import Derived.Test.YtnkpogjiiohapaaGreatDoorR04
set_option linter.unusedSimpArgs false
set_option linter.unusedVariables false

/-! PlA: Plain: the document of the reference's and the program's, object by object; what it is that they say the same. -/
namespace Go.Proofs.YtnkpogjiiohapaaGreatDoor
open Go.RowKit

theorem key_inj {a b : ByteArray} (h : a.toList = b.toList) : a = b := by
  rw [← Go.MapKept.bytes_beq, beq_toListBytes, h]
  exact beq_self_eq_true _
/-- The object with this Id. -/
def objOf (R : List PObj) (x : PId) : Option PObj := R.find? (pobjIs x)
def hpair (h : PHeld) : PId × PVal := (h.giver, valOf h)

theorem pobjIs_true {x : PId} {o : PObj} : pobjIs x o = true ↔ o.id = x := by
  unfold pobjIs; rw [idEq_true]
theorem objOf_id {R : List PObj} {x : PId} {o : PObj} (h : objOf R x = some o) : o.id = x := pobjIs_true.1 (List.find?_some h)
theorem objOf_mem {R : List PObj} {x : PId} {o : PObj} (h : objOf R x = some o) : o ∈ R := List.mem_of_find?_eq_some h

theorem look_put {κ ν : Type} [DecidableEq κ] (x y : κ) (v : ν) (m : List (κ × ν)) : lookI y (putI x v m) = if y = x then some v else lookI y m := by
  induction m with
  | nil => by_cases h : y = x <;> simp [putI, lookI, h]
  | cons p m ih =>
    unfold putI
    by_cases hx : x = p.1
    · rw [if_pos hx]
      by_cases h : y = x
      · simp [lookI, h]
      · have h' : ¬ y = p.1 := hx ▸ h
        simp [lookI, h, h']
    · rw [if_neg hx]
      by_cases hy : y = p.1
      · have h : ¬ y = x := fun e => hx (e ▸ hy)
        simp [lookI, hy, Ne.symm hx]
      · have e1 : lookI y (p :: putI x v m) = lookI y (putI x v m) := by simp [lookI, hy]
        have e2 : lookI y (p :: m) = lookI y m := by simp [lookI, hy]
        rw [e1, e2, ih]
theorem look_none {κ ν : Type} [DecidableEq κ] {x : κ} {m : List (κ × ν)} (h : x ∉ m.map (·.1)) : lookI x m = none := by
  unfold lookI
  rw [Option.map_eq_none_iff, List.find?_eq_none]
  intro p hp
  simp
  intro e
  exact h (e ▸ List.mem_map.2 ⟨p, hp, rfl⟩)
theorem look_of_mem {κ ν : Type} [DecidableEq κ] {x : κ} {v : ν} : ∀ {m : List (κ × ν)}, (m.map (·.1)).Nodup → (x, v) ∈ m → lookI x m = some v
  | [], _, h => by cases h
  | p :: m, hn, h => by
    simp only [List.map_cons, List.nodup_cons] at hn
    rcases List.mem_cons.1 h with h | h
    · subst h; simp [lookI]
    · have hx : ¬ x = p.1 := fun e => hn.1 (e ▸ List.mem_map.2 ⟨_, h, rfl⟩)
      have := look_of_mem hn.2 h
      simpa [lookI, hx] using this
theorem look_perm {κ ν : Type} [DecidableEq κ] {x : κ} {m m' : List (κ × ν)} (hp : m.Perm m') (hn : (m'.map (·.1)).Nodup) : lookI x m = lookI x m' := by
  have hn' : (m.map (·.1)).Nodup := (hp.map (·.1)).nodup_iff.2 hn
  cases h : lookI x m' with
  | some v => exact look_of_mem hn' (hp.mem_iff.2 (look_mem h))
  | none =>
    cases h2 : lookI x m with
    | none => rfl
    | some v => rw [look_of_mem hn (hp.mem_iff.1 (look_mem h2))] at h; cases h
theorem put_fresh {κ ν : Type} [DecidableEq κ] {x : κ} {v : ν} : ∀ {m : List (κ × ν)}, x ∉ m.map (·.1) → putI x v m = m ++ [(x, v)]
  | [], _ => rfl
  | p :: m, h => by
    simp only [List.map_cons, List.mem_cons, not_or] at h
    unfold putI
    rw [if_neg h.1, put_fresh h.2]; rfl

/-- A list is changed at the first that is meant. -/
theorem find_modify {α : Type} {p q : α → Bool} {f : α → α} {l : List α} {k : Nat} (hk : l.findIdx? p = some k) (hq : ∀ o, q (f o) = q o) : (l.modify k f).find? q = match l.find? q with | none => none | some o => if l.findIdx? q = some k then some (f o) else some o := by
  induction l generalizing k with
  | nil => simp at hk
  | cons a l ih =>
    rw [List.findIdx?_cons] at hk
    by_cases ha : p a = true
    · rw [if_pos ha] at hk
      cases hk
      simp only [List.modify_zero_cons, List.find?_cons, hq, List.findIdx?_cons]
      cases hqa : q a
      · simp
        cases l.find? q <;> simp
      · simp
    · rw [if_neg ha] at hk
      cases hl : l.findIdx? p with
      | none => rw [hl] at hk; cases hk
      | some j =>
        rw [hl] at hk
        cases hk
        simp only [List.modify_succ_cons, List.find?_cons, List.findIdx?_cons]
        cases hqa : q a
        · rw [ih hl]
          simp
        · simp
theorem first_neg {α : Type} {p : α → Bool} {l : List α} : firstI p l < 0 ↔ l.find? p = none := by
  unfold firstI
  rw [List.find?_eq_none]
  cases h : l.findIdx? p with
  | none => rw [List.findIdx?_eq_none_iff] at h; simpa using h
  | some k =>
    simp only
    constructor
    · intro h'; omega
    · intro h'
      obtain ⟨hk, h1, _⟩ := List.findIdx?_eq_some_iff_getElem.1 h
      exact absurd h1 (h' _ (List.getElem_mem hk))
theorem first_pos {α : Type} {p : α → Bool} {l : List α} (h : ¬ firstI p l < 0) : l.findIdx? p = some (firstI p l).toNat := by
  unfold firstI at *
  cases h' : l.findIdx? p with
  | none => rw [h'] at h; simp at h
  | some k => simp
theorem find_idx {α : Type} {p q : α → Bool} {l : List α} {k : Nat} {o : α} (h1 : l.findIdx? p = some k) (h2 : l.findIdx? q = some k) (h3 : l.find? p = some o) : q o = true := by
  obtain ⟨hk, h4, h5⟩ := List.findIdx?_eq_some_iff_getElem.1 h1
  obtain ⟨_, h6, _⟩ := List.findIdx?_eq_some_iff_getElem.1 h2
  have : l.find? p = some l[k] := by
    rw [List.find?_eq_some_iff_getElem]
    exact ⟨h4, k, hk, rfl, fun j hj => by simpa using h5 j hj⟩
  rw [this] at h3
  cases h3
  exact h6

theorem doesAt_id' (p : POp) (o : PObj) : (doesAt p o).id = o.id := by
  unfold doesAt; split <;> split <;> rfl
theorem pobjIs_does (p : POp) (y : PId) (o : PObj) : pobjIs y (doesAt p o) = pobjIs y o := by unfold pobjIs; rw [doesAt_id']
/-- WHAT AN OPERATION LEAVES, object by object. -/
theorem does_obj {R : List PObj} {p : POp} (hk : p.kind ≠ 1) (y : PId) : objOf (doesP R p) y = if y = p.object then (objOf R y).map (doesAt p) else objOf R y := by
  unfold doesP
  rw [if_neg hk]
  by_cases hf : firstI (pobjIs p.object) R < 0
  · rw [if_pos hf]
    split
    · rename_i e; subst e
      unfold objOf; rw [first_neg.1 hf]; rfl
    · rfl
  · rw [if_neg hf]
    have h1 := first_pos hf
    unfold objOf
    rw [find_modify h1 (pobjIs_does p y)]
    by_cases e : y = p.object
    · subst e
      rw [if_pos rfl]
      cases R.find? (pobjIs p.object) with
      | none => rfl
      | some o => simp [h1]
    · rw [if_neg e]
      cases ho : R.find? (pobjIs y) with
      | none => rfl
      | some o =>
        simp only
        rw [if_neg]
        intro h2
        have h3 := find_idx h2 h1 ho
        have h4 := List.find?_some ho
        exact e ((pobjIs_true.1 h4).symm.trans (pobjIs_true.1 h3))
theorem make_obj {R : List PObj} {p : POp} (hk : p.kind = 1) (y : PId) : objOf (doesP R p) y = match objOf R y with | some o => some o | none => if y = p.id then some ⟨p.id, p.list, []⟩ else none := by
  unfold doesP objOf
  rw [if_pos hk, List.find?_append]
  cases R.find? (pobjIs y) with
  | some o => rfl
  | none =>
    by_cases h : y = p.id
    · subst h; simp [pobjIs, idEq]
    · have : pobjIs y ⟨p.id, p.list, []⟩ = false := by
        cases hb : pobjIs y ⟨p.id, p.list, []⟩
        · rfl
        · exact absurd (pobjIs_true.1 hb).symm h
      simp [this, h]

/-! The slots of an object. -/
theorem slotIs_true {key : ByteArray} {x : PId} {s : PSlot} : pslotIs key x s = true ↔ s.key = key ∧ s.id = x := by
  unfold pslotIs
  rw [Bool.and_eq_true, idEq_true, beq_iff_eq]
  exact ⟨fun h => ⟨key_inj h.1, h.2⟩, fun h => ⟨by rw [h.1], h.2⟩⟩

def setHelds (key : ByteArray) (x : PId) (old : List PId) (kind : Int) (y : PHeld) (s : PSlot) : PSlot := if pslotIs key x s then ⟨s.key, s.id, newHelds old s.hs kind y⟩ else s
/-- Where a slot is there once, it is the one that is changed. -/
theorem valued_at {l : List PSlot} {list : Bool} {key : ByteArray} {x : PId} {old : List PId} {kind : Int} {y : PHeld} (hn : l.Pairwise fun a b => ¬ (a.key = b.key ∧ a.id = b.id)) {s : PSlot} (hs : s ∈ l) (h : pslotIs key x s = true) : valuedP l list key x old kind y = l.map (setHelds key x old kind y) := by
  unfold valuedP
  have hf : ¬ firstI (pslotIs key x) l < 0 := fun h' => by
    rw [first_neg, List.find?_eq_none] at h'
    exact h' s hs h
  rw [if_neg hf]
  have h1 := first_pos hf
  generalize (firstI (pslotIs key x) l).toNat = k at h1
  clear hf hs h s
  induction l generalizing k with
  | nil => simp at h1
  | cons a l ih =>
    rw [List.pairwise_cons] at hn
    rw [List.findIdx?_cons] at h1
    by_cases ha : pslotIs key x a = true
    · rw [if_pos ha] at h1
      cases h1
      simp only [List.modify_zero_cons, List.map_cons]
      congr 1
      · unfold setHelds; rw [if_pos ha]
      · symm
        refine (List.map_congr_left (g := id) fun b hb => ?_).trans (List.map_id l)
        show _ = b
        unfold setHelds
        rw [if_neg]
        intro hb'
        have e1 := slotIs_true.1 ha
        have e2 := slotIs_true.1 hb'
        exact hn.1 b hb ⟨e1.1.trans e2.1.symm, e1.2.trans e2.2.symm⟩
    · rw [if_neg ha] at h1
      cases hl : l.findIdx? (pslotIs key x) with
      | none => rw [hl] at h1; cases h1
      | some j =>
        rw [hl] at h1
        cases h1
        simp only [List.modify_succ_cons, List.map_cons]
        rw [ih hn.2 j hl]
        congr 1
        unfold setHelds; rw [if_neg ha]
theorem valued_none {l : List PSlot} {key : ByteArray} {x : PId} {old : List PId} {kind : Int} {y : PHeld} (h : ∀ s ∈ l, pslotIs key x s = false) : valuedP l false key x old kind y = l ++ [⟨key, (0, 0), newHelds old [] kind y⟩] := by
  unfold valuedP
  rw [if_pos (first_neg.2 (List.find?_eq_none.2 fun s hs => by rw [h s hs]; simp))]
  rfl
theorem set_id {key : ByteArray} {x : PId} {old : List PId} {kind : Int} {y : PHeld} (s : PSlot) : (setHelds key x old kind y s).id = s.id := by unfold setHelds; split <;> rfl
theorem set_key' {key : ByteArray} {x : PId} {old : List PId} {kind : Int} {y : PHeld} (s : PSlot) : (setHelds key x old kind y s).key = s.key := by unfold setHelds; split <;> rfl

/-- What an object of the reference's and one of the program's have in common. -/
structure ObjAg (els : List (PId × CQEl)) (x : PId) (o : PObj) (ob : CQObj) : Prop where
  list : ob.list = o.list
  keys : o.list = false → ∀ s ∈ o.ss, s.key ≠ ⟨#[]⟩ ∧ s.id = (0, 0)
  kone : o.list = false → (o.ss.map PSlot.key).Nodup
  kval : o.list = false → ∀ key, ((lookI key ob.ks).elim [] CKey.vs).Perm ((heldsAt o key (0, 0)).map hpair)
  elems : o.list = true → ∀ s ∈ o.ss, s.key = ⟨#[]⟩ ∧ s.id ≠ (0, 0) ∧ ∃ e, lookI s.id els = some e ∧ e.list = x ∧ e.vs.Perm (s.hs.map hpair)
  eone : o.list = true → (o.ss.map PSlot.id).Nodup
  chain : o.list = true → Chain els ob.first (o.ss.map PSlot.id)
/-- THE TWO DOCUMENTS SAY THE SAME. -/
structure Agree (R : List PObj) (D : QDoc) : Prop where
  o1 : ∀ x o, objOf R x = some o → ∃ ob, lookI x D.1 = some ob ∧ ObjAg D.2 x o ob
  o0 : ∀ x, objOf R x = none → lookI x D.1 = none
  el : ∀ y e, lookI y D.2 = some e → ∃ o, objOf R e.list = some o ∧ o.list = true ∧ y ∈ o.ss.map PSlot.id

theorem Agree.root : Agree rootP rootQ := by
  refine ⟨fun x o h => ?_, fun x h => ?_, fun y e h => ?_⟩
  · have hx := objOf_id h
    unfold objOf rootP at h
    simp only [List.find?_cons, List.find?_nil] at h
    split at h
    · cases h
      simp at hx
      subst hx
      exact ⟨⟨false, none, [], (0, 0)⟩, by simp [rootQ, lookI], rfl, fun _ s hs => (by simp at hs), fun _ => (by simp), fun _ key => (by simp [lookI, heldsAt]), fun h => (by cases h), fun h => (by cases h), fun h => (by cases h)⟩
    · cases h
  · unfold objOf rootP at h
    simp only [List.find?_cons, List.find?_nil] at h
    split at h
    · cases h
    · rename_i hx
      have : ¬ x = (0, 0) := fun e => by subst e; simp [pobjIs, idEq] at hx
      simp [rootQ, lookI, this]
  · simp [rootQ, lookI] at h

theorem Chain.put {els : List (PId × CQEl)} {y : PId} {e : CQEl} : ∀ {x : PId} {L : List PId}, Chain els x L → y ∉ L → Chain (putI y e els) x L
  | _, [], h, _ => h
  | _, z :: L, ⟨h1, h2, e', h3, h4⟩, hy => by
    simp only [List.mem_cons, not_or] at hy
    exact ⟨h1, h2, e', by rw [look_put, if_neg (Ne.symm hy.1)]; exact h3, h4.put hy.2⟩
theorem Chain.same {els : List (PId × CQEl)} {y : PId} {e e' : CQEl} (hl : lookI y els = some e) (hn : e'.next = e.next) : ∀ {x : PId} {L : List PId}, Chain els x L → Chain (putI y e' els) x L
  | _, [], h => h
  | _, z :: L, ⟨h1, h2, e1, h3, h4⟩ => by
    by_cases hz : z = y
    · subst hz
      rw [hl] at h3
      cases h3
      exact ⟨h1, h2, e', by rw [look_put, if_pos rfl], by rw [hn]; exact h4.same hl hn⟩
    · exact ⟨h1, h2, e1, by rw [look_put, if_neg hz]; exact h3, h4.same hl hn⟩
theorem Chain.ins {els : List (PId × CQEl)} {b i x : PId} {e : CQEl} (hl : lookI b els = some e) (hi : i ≠ (0, 0)) (hbi : b ≠ i) : ∀ {L1 L2 : List PId} {f : PId}, Chain els f (L1 ++ b :: L2) → i ∉ L1 ++ b :: L2 → (L1 ++ b :: L2).Nodup → Chain (putI b { e with next := i } (putI i ⟨x, e.next, none, []⟩ els)) f (L1 ++ b :: i :: L2)
  | [], L2, f, ⟨h1, h2, e1, h3, h4⟩, hn, hd => by
    rw [hl] at h3
    cases h3
    simp only [List.nil_append, List.mem_cons, not_or] at hn
    simp only [List.nil_append, List.nodup_cons] at hd
    refine ⟨h1, h2, { e with next := i }, by rw [look_put, if_pos rfl], rfl, hi, ⟨x, e.next, none, []⟩, by rw [look_put, if_neg (Ne.symm hbi), look_put, if_pos rfl], ?_⟩
    exact (h4.put hn.2).put hd.1
  | z :: L1, L2, f, ⟨h1, h2, e1, h3, h4⟩, hn, hd => by
    simp only [List.cons_append, List.mem_cons, not_or] at hn
    simp only [List.cons_append, List.nodup_cons] at hd
    have hzb : z ≠ b := fun e => hd.1 (by rw [e]; simp)
    exact ⟨h1, h2, e1, by rw [look_put, if_neg hzb, look_put, if_neg (Ne.symm hn.1)]; exact h3, h4.ins hl hi hbi hn.2 hd.2⟩

end Go.Proofs.YtnkpogjiiohapaaGreatDoor

/-! PlB: Plain: one operation keeps it that the two documents say the same. -/
namespace Go.Proofs.YtnkpogjiiohapaaGreatDoor
open Go.RowKit

/-- What is asked of an operation that is done. -/
structure Fit (R : List PObj) (p : POp) : Prop where
  kind : p.kind = 1 ∨ p.kind = 2 ∨ p.kind = 3 ∨ p.kind = 4
  make : p.kind = 1 → objOf R p.id = none
  lay : p.kind = 2 → p.id ≠ (0, 0) ∧ (∀ x o, objOf R x = some o → p.id ∉ o.ss.map PSlot.id) ∧ ∃ o, objOf R p.object = some o ∧ o.list = true ∧ (p.behind = (0, 0) ∨ p.behind ∈ o.ss.map PSlot.id)
  val : p.kind = 3 ∨ p.kind = 4 → ∃ o, objOf R p.object = some o ∧ ((o.list = false ∧ p.key ≠ ⟨#[]⟩ ∧ p.element = (0, 0)) ∨ (o.list = true ∧ p.key = ⟨#[]⟩ ∧ p.element ∈ o.ss.map PSlot.id)) ∧ ∀ h ∈ heldsAt o p.key p.element, h.giver ≠ p.id
  obj : p.kind = 3 → ∃ o, objOf R p.obj = some o

def chgOf (p : POp) : QChg :=
  if p.kind = 1 then .inl p.list else if p.kind = 2 then .inr (.inl (p.object, p.behind)) else if p.kind = 3 then .inr (.inr (.inl (p.object, p.key, p.element, (p.num, p.obj), p.old))) else .inr (.inr (.inr (p.object, p.key, p.element, p.old)))
def qopOf (p : POp) (n : Int) : QOp := ⟨p.id, n, chgOf p⟩

theorem ObjAg.elsKeep {els els' : List (PId × CQEl)} {x : PId} {o : PObj} {ob : CQObj} (h : ObjAg els x o ob) (h1 : o.list = true → ∀ s ∈ o.ss, lookI s.id els' = lookI s.id els) (h2 : o.list = true → Chain els' ob.first (o.ss.map PSlot.id)) : ObjAg els' x o ob :=
  ⟨h.list, h.keys, h.kone, h.kval, fun hl s hs => by rw [h1 hl s hs]; exact h.elems hl s hs, h.eone, h2⟩

section
theorem Agree.make {R : List PObj} {D : QDoc} (h : Agree R D) {p : POp} (hk : p.kind = 1) (hf : objOf R p.id = none) : Agree (doesP R p) (putI p.id ⟨p.list, none, [], (0, 0)⟩ D.1, D.2) := by
  refine ⟨fun x o hx => ?_, fun x hx => ?_, fun y e hy => ?_⟩
  · rw [make_obj hk] at hx
    rw [look_put]
    cases ho : objOf R x with
    | some o' =>
      rw [ho] at hx
      cases hx
      have hne : ¬ x = p.id := fun e => by subst e; rw [hf] at ho; cases ho
      rw [if_neg hne]
      exact h.o1 x o ho
    | none =>
      rw [ho] at hx
      simp only at hx
      split at hx
      · rename_i e
        cases hx
        rw [if_pos e]
        exact ⟨_, rfl, rfl, fun _ s hs => (by cases hs), fun _ => List.nodup_nil, fun _ key => (by simp [lookI, heldsAt]), fun _ s hs => (by cases hs), fun _ => List.nodup_nil, fun _ => rfl⟩
      · cases hx
  · rw [make_obj hk] at hx
    rw [look_put]
    cases ho : objOf R x with
    | some o' => rw [ho] at hx; cases hx
    | none =>
      rw [ho] at hx
      simp only at hx
      split at hx
      · cases hx
      · rename_i e
        rw [if_neg e]
        exact h.o0 x ho
  · obtain ⟨o, h1, h2, h3⟩ := h.el y e hy
    exact ⟨o, by rw [make_obj hk, h1], h2, h3⟩

theorem Agree.elem {R : List PObj} {D : QDoc} (h : Agree R D) {x : PId} {o : PObj} (hx : objOf R x = some o) (hl : o.list = true) {y : PId} (hy : y ∈ o.ss.map PSlot.id) : ∃ e s, lookI y D.2 = some e ∧ e.list = x ∧ s ∈ o.ss ∧ s.id = y ∧ s.key = ⟨#[]⟩ ∧ y ≠ (0, 0) ∧ e.vs.Perm (s.hs.map hpair) := by
  obtain ⟨ob, _, hag⟩ := h.o1 x o hx
  obtain ⟨s, hs, rfl⟩ := List.mem_map.1 hy
  obtain ⟨h1, h2, e, h3, h4, h5⟩ := hag.elems hl s hs
  exact ⟨e, s, h3, h4, hs, rfl, h1, h2, h5⟩
/-- An element lies in one list alone. -/
theorem Agree.one {R : List PObj} {D : QDoc} (h : Agree R D) {x x' : PId} {o o' : PObj} (hx : objOf R x = some o) (hl : o.list = true) (hx' : objOf R x' = some o') (hl' : o'.list = true) {y : PId} (hy : y ∈ o.ss.map PSlot.id) (hy' : y ∈ o'.ss.map PSlot.id) : x = x' := by
  obtain ⟨e, _, h1, h2, _⟩ := h.elem hx hl hy
  obtain ⟨e', _, h1', h2', _⟩ := h.elem hx' hl' hy'
  rw [h1] at h1'
  cases h1'
  exact h2.symm.trans h2'
theorem Agree.noEl {R : List PObj} {D : QDoc} (h : Agree R D) {y : PId} (hf : ∀ x o, objOf R x = some o → y ∉ o.ss.map PSlot.id) : lookI y D.2 = none := by
  cases he : lookI y D.2 with
  | none => rfl
  | some e =>
    obtain ⟨o, h1, _, h3⟩ := h.el y e he
    exact absurd h3 (hf _ o h1)
end

theorem ins_ids {l : List PSlot} {b i : PId} {k : Nat} (h1 : l.findIdx? (pslotIs ⟨#[]⟩ b) = some k) : ∃ L1 L2, l.map PSlot.id = L1 ++ b :: L2 ∧ (pinsAt l (k + 1) (pslot0 ⟨#[]⟩ i)).map PSlot.id = L1 ++ b :: i :: L2 := by
  obtain ⟨hk, h2, _⟩ := List.findIdx?_eq_some_iff_getElem.1 h1
  have hid := (slotIs_true.1 h2).2
  refine ⟨(l.take k).map PSlot.id, (l.drop (k + 1)).map PSlot.id, ?_, ?_⟩
  · have e : l = l.take k ++ l[k] :: l.drop (k + 1) := by rw [← List.drop_eq_getElem_cons hk, List.take_append_drop]
    have e2 := congrArg (List.map PSlot.id) e
    rw [List.map_append, List.map_cons, hid] at e2
    exact e2
  · unfold pinsAt
    rw [List.take_succ_eq_append_getElem hk, List.map_append, List.map_append, List.map_cons, List.map_cons, List.map_nil, hid, List.append_assoc]
    rfl

theorem Agree.lay {R : List PObj} {D : QDoc} (h : Agree R D) {p : POp} (hk : p.kind = 2) (hi : p.id ≠ (0, 0)) (hf : ∀ x o, objOf R x = some o → p.id ∉ o.ss.map PSlot.id) {o : PObj} (ho : objOf R p.object = some o) (hl : o.list = true) (hb : p.behind = (0, 0) ∨ p.behind ∈ o.ss.map PSlot.id) :
    Agree (doesP R p) (layQ D p.object p.behind p.id) := by
  obtain ⟨ob, hob, hag⟩ := h.o1 _ o ho
  have hobl : ob.list = true := hag.list.trans hl
  have hnew := h.noEl hf
  have hk1 : p.kind ≠ 1 := by omega
  have hdo : ∀ y, objOf (doesP R p) y = if y = p.object then (objOf R y).map (doesAt p) else objOf R y := fun y => does_obj hk1 y
  have hda : doesAt p o = ⟨o.id, o.list, laidP o.ss p.behind p.id⟩ := by unfold doesAt; rw [if_pos hk, if_pos hl]
  have hdo' : objOf (doesP R p) p.object = some ⟨o.id, o.list, laidP o.ss p.behind p.id⟩ := by rw [hdo, if_pos rfl, ho, Option.map_some, hda]
  have hid : p.id ∉ o.ss.map PSlot.id := hf _ o ho
  unfold layQ
  rw [hob]
  dsimp only
  rw [if_neg (by rw [hobl]; simp)]
  by_cases hb0 : p.behind = (0, 0)
  · rw [if_pos hb0]
    have hla : laidP o.ss p.behind p.id = pslot0 ⟨#[]⟩ p.id :: o.ss := by
      unfold laidP; rw [hb0, if_pos (by simp [idEq])]; simp [pinsAt]
    have hoth : ∀ y, y ≠ p.id → lookI y (putI p.id ⟨p.object, ob.first, none, []⟩ D.2) = lookI y D.2 := fun y hy => by rw [look_put, if_neg hy]
    refine ⟨fun x o' hx => ?_, fun x hx => ?_, fun y e hy => ?_⟩
    · by_cases hxo : x = p.object
      · subst hxo
        rw [hdo', hla] at hx
        cases hx
        refine ⟨{ ob with first := p.id }, by rw [look_put, if_pos rfl], hag.list, fun h' => ?_, fun h' => ?_, fun h' => ?_, fun _ s hs => ?_, fun _ => ?_, fun _ => ?_⟩
        · rw [hl] at h'; cases h'
        · rw [hl] at h'; cases h'
        · rw [hl] at h'; cases h'
        · rcases List.mem_cons.1 hs with rfl | hs
          · exact ⟨rfl, hi, _, by show lookI p.id _ = _; rw [look_put, if_pos rfl], rfl, by simp [pslot0]⟩
          · obtain ⟨h1, h2, e, h3, h4⟩ := hag.elems hl s hs
            exact ⟨h1, h2, e, by rw [hoth _ (fun e => hid (e ▸ List.mem_map.2 ⟨s, hs, rfl⟩))]; exact h3, h4⟩
        · show (p.id :: o.ss.map PSlot.id).Nodup
          exact List.nodup_cons.2 ⟨hid, hag.eone hl⟩
        · show Chain _ p.id (p.id :: o.ss.map PSlot.id)
          exact ⟨rfl, hi, _, by rw [look_put, if_pos rfl], (hag.chain hl).put hid⟩
      · rw [hdo, if_neg hxo] at hx
        obtain ⟨ob', h1, h2⟩ := h.o1 x o' hx
        have hid' := hf x o' hx
        refine ⟨ob', by rw [look_put, if_neg hxo]; exact h1, h2.elsKeep (fun _ s hs => hoth _ (fun e => hid' (e ▸ List.mem_map.2 ⟨s, hs, rfl⟩))) (fun hl' => (h2.chain hl').put hid')⟩
    · have hxo : x ≠ p.object := fun e => by subst e; rw [hdo'] at hx; cases hx
      rw [hdo, if_neg hxo] at hx
      show lookI x (putI _ _ _) = none
      rw [look_put, if_neg hxo]
      exact h.o0 x hx
    · have hy' : lookI y (putI p.id ⟨p.object, ob.first, none, []⟩ D.2) = some e := hy
      by_cases hyi : y = p.id
      · subst hyi
        rw [look_put, if_pos rfl] at hy'
        cases hy'
        exact ⟨_, hdo', hl, by rw [hla]; simp [pslot0]⟩
      · rw [hoth y hyi] at hy'
        obtain ⟨o', h1, h2, h3⟩ := h.el y e hy'
        by_cases hxo : e.list = p.object
        · rw [hxo] at h1 ⊢
          rw [ho] at h1
          cases h1
          exact ⟨_, hdo', hl, by rw [hla]; simp; exact .inr (by simpa using h3)⟩
        · exact ⟨o', by rw [hdo, if_neg hxo]; exact h1, h2, h3⟩
  · rw [if_neg hb0]
    have hbm : p.behind ∈ o.ss.map PSlot.id := hb.resolve_left hb0
    obtain ⟨e, s0, he, hel, hs0, hsid, hskey, _, _⟩ := h.elem ho hl hbm
    rw [he]
    dsimp only
    rw [if_pos hel]
    have hbi : p.behind ≠ p.id := fun e' => hid (e' ▸ hbm)
    have hfi : ¬ firstI (pslotIs ⟨#[]⟩ p.behind) o.ss < 0 := fun h' => by
      rw [first_neg, List.find?_eq_none] at h'
      exact h' s0 hs0 (slotIs_true.2 ⟨hskey, hsid⟩)
    have hla : laidP o.ss p.behind p.id = pinsAt o.ss ((firstI (pslotIs ⟨#[]⟩ p.behind) o.ss).toNat + 1) (pslot0 ⟨#[]⟩ p.id) := by
      unfold laidP
      have : idEq p.behind.1 p.behind.2 0 0 = false := idEq_false.2 hb0
      rw [this, if_neg (by simp), if_neg hfi]
    have hfp := first_pos hfi
    generalize (firstI (pslotIs ⟨#[]⟩ p.behind) o.ss).toNat = k at hla hfp
    obtain ⟨L1, L2, hL, hL'⟩ := ins_ids (i := p.id) hfp
    have hmem : ∀ s, s ∈ pinsAt o.ss (k + 1) (pslot0 ⟨#[]⟩ p.id) → s ∈ o.ss ∨ s = pslot0 ⟨#[]⟩ p.id := by
      intro s hs
      unfold pinsAt at hs
      rw [List.mem_append, List.mem_cons] at hs
      rcases hs with hs | hs | hs
      · exact .inl (List.mem_of_mem_take hs)
      · exact .inr hs
      · exact .inl (List.mem_of_mem_drop hs)
    have hlk : ∀ y, y ≠ p.id → ∀ e', lookI y D.2 = some e' → ∃ e'', lookI y (putI p.behind { e with next := p.id } (putI p.id ⟨p.object, e.next, none, []⟩ D.2)) = some e'' ∧ e''.list = e'.list ∧ e''.vs = e'.vs := by
      intro y hy e' he'
      rw [look_put]
      by_cases hyb : y = p.behind
      · rw [if_pos hyb]
        subst hyb
        rw [he] at he'
        cases he'
        exact ⟨_, rfl, rfl, rfl⟩
      · rw [if_neg hyb, look_put, if_neg hy]
        exact ⟨e', he', rfl, rfl⟩
    have hch : Chain (putI p.behind { e with next := p.id } (putI p.id ⟨p.object, e.next, none, []⟩ D.2)) ob.first (L1 ++ p.behind :: p.id :: L2) := by
      have := hag.chain hl
      have hnd := hag.eone hl
      rw [hL] at this hid hnd
      exact this.ins he hi hbi hid hnd
    refine ⟨fun x o' hx => ?_, fun x hx => ?_, fun y e1 hy => ?_⟩
    · by_cases hxo : x = p.object
      · subst hxo
        rw [hdo', hla] at hx
        cases hx
        refine ⟨ob, hob, hag.list, fun h' => ?_, fun h' => ?_, fun h' => ?_, fun _ s hs => ?_, fun _ => ?_, fun _ => ?_⟩
        · rw [hl] at h'; cases h'
        · rw [hl] at h'; cases h'
        · rw [hl] at h'; cases h'
        · rcases hmem s hs with hs | rfl
          · obtain ⟨h1, h2, e1, h3, h4, h5⟩ := hag.elems hl s hs
            obtain ⟨e2, h6, h7, h8⟩ := hlk s.id (fun e => hid (e ▸ List.mem_map.2 ⟨s, hs, rfl⟩)) e1 h3
            exact ⟨h1, h2, e2, h6, h7.trans h4, h8 ▸ h5⟩
          · exact ⟨rfl, hi, ⟨p.object, e.next, none, []⟩, by show lookI p.id _ = _; rw [look_put, if_neg (Ne.symm hbi), look_put, if_pos rfl], rfl, by simp [pslot0]⟩
        · show ((pinsAt o.ss (k + 1) (pslot0 ⟨#[]⟩ p.id)).map PSlot.id).Nodup
          rw [hL']
          have hnd := hag.eone hl
          rw [hL] at hnd hid
          have : (L1 ++ p.behind :: p.id :: L2).Perm (p.id :: (L1 ++ p.behind :: L2)) := by
            have := List.perm_middle (a := p.id) (l₁ := L1 ++ [p.behind]) (l₂ := L2)
            simpa using this
          rw [this.nodup_iff]
          exact List.nodup_cons.2 ⟨hid, hnd⟩
        · show Chain _ ob.first ((pinsAt o.ss (k + 1) (pslot0 ⟨#[]⟩ p.id)).map PSlot.id)
          rw [hL']; exact hch
      · rw [hdo, if_neg hxo] at hx
        obtain ⟨ob', h1, h2⟩ := h.o1 x o' hx
        have hid' := hf x o' hx
        have hbn : o'.list = true → p.behind ∉ o'.ss.map PSlot.id := fun hl' hm => hxo (h.one hx hl' ho hl hm hbm)
        refine ⟨ob', h1, h2.elsKeep (fun hl' s hs => ?_) (fun hl' => ((h2.chain hl').put hid').put (hbn hl'))⟩
        have hm : s.id ∈ o'.ss.map PSlot.id := List.mem_map.2 ⟨s, hs, rfl⟩
        show lookI s.id (putI _ _ (putI _ _ _)) = _
        rw [look_put, if_neg (fun (e : s.id = p.behind) => hbn hl' (e ▸ hm)), look_put, if_neg (fun (e : s.id = p.id) => hid' (e ▸ hm))]
    · have hxo : x ≠ p.object := fun e => by subst e; rw [hdo'] at hx; cases hx
      rw [hdo, if_neg hxo] at hx
      exact h.o0 x hx
    · have hy' : lookI y (putI p.behind { e with next := p.id } (putI p.id ⟨p.object, e.next, none, []⟩ D.2)) = some e1 := hy
      by_cases hyi : y = p.id
      · subst hyi
        rw [look_put, if_neg (Ne.symm hbi), look_put, if_pos rfl] at hy'
        cases hy'
        refine ⟨_, hdo', hl, ?_⟩
        rw [hla]
        show p.id ∈ (pinsAt o.ss (k + 1) (pslot0 ⟨#[]⟩ p.id)).map PSlot.id
        rw [hL']; simp
      · have hold : ∃ e', lookI y D.2 = some e' ∧ e'.list = e1.list := by
          rw [look_put] at hy'
          by_cases hyb : y = p.behind
          · rw [if_pos hyb] at hy'
            cases hy'
            exact ⟨e, hyb ▸ he, rfl⟩
          · rw [if_neg hyb, look_put, if_neg hyi] at hy'
            exact ⟨e1, hy', rfl⟩
        obtain ⟨e', h0, h0'⟩ := hold
        obtain ⟨o', h1, h2, h3⟩ := h.el y e' h0
        rw [← h0']
        by_cases hxo : e'.list = p.object
        · rw [hxo] at h1 ⊢
          rw [ho] at h1
          cases h1
          refine ⟨_, hdo', hl, ?_⟩
          rw [hla]
          show y ∈ (pinsAt o.ss (k + 1) (pslot0 ⟨#[]⟩ p.id)).map PSlot.id
          rw [hL'] 
          rw [hL] at h3
          simp only [List.mem_append, List.mem_cons] at h3 ⊢
          rcases h3 with h3 | h3 | h3
          · exact .inl h3
          · exact .inr (.inl h3)
          · exact .inr (.inr (.inr h3))
        · exact ⟨o', by rw [hdo, if_neg hxo]; exact h1, h2, h3⟩

/-! Values. -/
theorem less_map (gs : List PId) (hs : List PHeld) : lessI gs (hs.map hpair) = (unnamed gs hs).map hpair := by
  unfold lessI unnamed
  rw [List.filter_map]
  congr 1
  apply List.filter_congr
  intro h _
  by_cases hm : h.giver ∈ gs <;> simp [hpair, hm]
theorem pslot_set {key key' : ByteArray} {x x' : PId} {old : List PId} {kind : Int} {y : PHeld} (s : PSlot) : pslotIs key' x' (setHelds key x old kind y s) = pslotIs key' x' s := by
  unfold pslotIs; rw [set_id, set_key']
theorem helds_valued {o : PObj} {key : ByteArray} {x : PId} {old : List PId} {kind : Int} {y : PHeld} (hn : o.ss.Pairwise fun a b => ¬ (a.key = b.key ∧ a.id = b.id)) (hx : o.list = false → x = (0, 0)) (he : o.list = true → ∃ s ∈ o.ss, pslotIs key x s = true) (key' : ByteArray) (x' : PId) :
    heldsAt ⟨o.id, o.list, valuedP o.ss o.list key x old kind y⟩ key' x' = if key' = key ∧ x' = x then newHelds old (heldsAt o key x) kind y else heldsAt o key' x' := by
  by_cases hs : ∃ s ∈ o.ss, pslotIs key x s = true
  · obtain ⟨s, hs, hp⟩ := hs
    unfold heldsAt
    rw [valued_at hn hs hp]
    simp only
    rw [List.find?_map]
    have : (pslotIs key' x' ∘ setHelds key x old kind y) = pslotIs key' x' := by funext s; exact pslot_set s
    rw [this]
    cases hf : o.ss.find? (pslotIs key' x') with
    | none =>
      simp only [Option.map_none]
      rw [if_neg]
      rintro ⟨rfl, rfl⟩
      rw [List.find?_eq_none] at hf
      exact hf s hs hp
    | some s' =>
      simp only [Option.map_some]
      have h1 := slotIs_true.1 (List.find?_some hf)
      by_cases he : key' = key ∧ x' = x
      · obtain ⟨rfl, rfl⟩ := he
        rw [if_pos ⟨rfl, rfl⟩, hf]
        unfold setHelds
        rw [if_pos (List.find?_some hf)]
      · rw [if_neg he]
        unfold setHelds
        rw [if_neg]
        intro h2
        have h3 := slotIs_true.1 h2
        exact he ⟨h1.1.symm.trans h3.1, h1.2.symm.trans h3.2⟩
  · have hl : o.list = false := by
      cases h : o.list
      · rfl
      · exact absurd (he h) hs
    have hx' := hx hl
    subst hx'
    have hno : ∀ s ∈ o.ss, pslotIs key (0, 0) s = false := fun s hs' => by
      cases h : pslotIs key (0, 0) s
      · rfl
      · exact absurd ⟨s, hs', h⟩ hs
    have h0 : heldsAt o key (0, 0) = [] := by
      unfold heldsAt
      rw [List.find?_eq_none.2 fun s hs => by rw [hno s hs]; simp]
    rw [h0, hl, valued_none hno]
    unfold heldsAt
    simp only
    rw [List.find?_append]
    by_cases he : key' = key ∧ x' = (0, 0)
    · obtain ⟨rfl, rfl⟩ := he
      rw [List.find?_eq_none.2 fun s hs => by rw [hno s hs]; simp]
      simp [pslotIs, idEq]
    · rw [if_neg he]
      cases hf : o.ss.find? (pslotIs key' x') with
      | some s => rfl
      | none =>
        have : pslotIs key' x' ⟨key, (0, 0), newHelds old [] kind y⟩ = false := by
          cases h : pslotIs key' x' ⟨key, (0, 0), newHelds old [] kind y⟩
          · rfl
          · have := slotIs_true.1 h
            exact absurd ⟨this.1.symm, this.2.symm⟩ he
        simp [this]

theorem ObjAg.apart {els : List (PId × CQEl)} {x : PId} {o : PObj} {ob : CQObj} (h : ObjAg els x o ob) : o.ss.Pairwise fun a b => ¬ (a.key = b.key ∧ a.id = b.id) := by
  cases hl : o.list
  · have := List.pairwise_map.1 (h.kone hl)
    exact this.imp fun hne he => hne he.1
  · have := List.pairwise_map.1 (h.eone hl)
    exact this.imp fun hne he => hne he.2

theorem ObjAg.heldsOf {els : List (PId × CQEl)} {x : PId} {o : PObj} {ob : CQObj} (h : ObjAg els x o ob) {s : PSlot} (hs : s ∈ o.ss) {key : ByteArray} {y : PId} (hp : pslotIs key y s = true) : heldsAt o key y = s.hs := by
  unfold heldsAt
  cases hf : o.ss.find? (pslotIs key y) with
  | none => rw [List.find?_eq_none] at hf; exact absurd hp (hf s hs)
  | some s2 =>
    have hs2 := List.mem_of_find?_eq_some hf
    have h6 := slotIs_true.1 (List.find?_some hf)
    have h7 := slotIs_true.1 hp
    have : s2 = s := by
      have hpw := h.apart
      rcases List.mem_iff_getElem.1 hs2 with ⟨i, hi, rfl⟩
      rcases List.mem_iff_getElem.1 hs with ⟨j, hj, rfl⟩
      rcases Nat.lt_trichotomy i j with hij | hij | hij
      · exact absurd ⟨h6.1.trans h7.1.symm, h6.2.trans h7.2.symm⟩ (List.pairwise_iff_getElem.1 hpw i j hi hj hij)
      · subst hij; rfl
      · exact absurd ⟨h7.1.trans h6.1.symm, h7.2.trans h6.2.symm⟩ (List.pairwise_iff_getElem.1 hpw j i hj hi hij)
    rw [this]

/-- The values of a key. -/
theorem Agree.atK {R : List PObj} {D : QDoc} (h : Agree R D) {x : PId} {o : PObj} (ho : objOf R x = some o) (hl : o.list = false) {key : ByteArray} (hkey : key ≠ ⟨#[]⟩) (y : PId) : hasPl D.1 D.2 x key y = true ∧ (atPl D.1 D.2 x key y).vs.Perm ((heldsAt o key (0, 0)).map hpair) := by
  obtain ⟨ob, hob, hag⟩ := h.o1 _ o ho
  have hhas : hasPl D.1 D.2 x key y = true := by
    unfold hasPl qlist
    rw [if_neg hkey, hob]
    simp [hag.list, hl]
  refine ⟨hhas, ?_⟩
  have := hag.kval hl key
  unfold atPl
  rw [if_pos hhas, if_neg hkey, hob]
  dsimp only
  cases hlk : lookI key ob.ks with
  | none => rw [hlk] at this; exact this
  | some c => rw [hlk] at this; exact this
/-- The values of an element. -/
theorem Agree.atE {R : List PObj} {D : QDoc} (h : Agree R D) {x : PId} {o : PObj} (ho : objOf R x = some o) (hl : o.list = true) {y : PId} (hy : y ∈ o.ss.map PSlot.id) : hasPl D.1 D.2 x ⟨#[]⟩ y = true ∧ (atPl D.1 D.2 x ⟨#[]⟩ y).vs.Perm ((heldsAt o ⟨#[]⟩ y).map hpair) := by
  obtain ⟨e0, s, he0, hel0, hs, hsid, hskey, _, hperm⟩ := h.elem ho hl hy
  obtain ⟨ob, hob, hag⟩ := h.o1 _ o ho
  have hhas : hasPl D.1 D.2 x ⟨#[]⟩ y = true := by
    unfold hasPl
    rw [if_pos rfl, he0]
    simp [hel0]
  refine ⟨hhas, ?_⟩
  unfold atPl
  rw [if_pos hhas, if_pos rfl, he0, hag.heldsOf hs (slotIs_true.2 ⟨hskey, hsid⟩)]
  exact hperm

theorem Agree.valK {R : List PObj} {D : QDoc} (h : Agree R D) {p : POp} (hk : p.kind = 3 ∨ p.kind = 4) {o : PObj} (ho : objOf R p.object = some o) (hl : o.list = false) (hkey : p.key ≠ ⟨#[]⟩) (hel : p.element = (0, 0)) {ob : CQObj} (hob : lookI p.object D.1 = some ob) (hnd : (ob.ks.map (·.1)).Nodup)
    {g : Nat} {v : Option Nat} {vs : List (PId × PVal)} {ks' : List (ByteArray × CKey)} (hks : ks'.Perm ob.ks) (hvs : vs.Perm ((newHelds p.old (heldsAt o p.key p.element) p.kind p.held).map hpair)) :
    Agree (doesP R p) (putI p.object { ob with kv := some g, ks := putI p.key ⟨v, vs⟩ ks' } D.1, D.2) := by
  obtain ⟨ob', hob', hag⟩ := h.o1 _ o ho
  rw [hob] at hob'
  cases hob'
  have hk1 : p.kind ≠ 1 := by omega
  have hk2 : p.kind ≠ 2 := by omega
  have hdo : ∀ y, objOf (doesP R p) y = if y = p.object then (objOf R y).map (doesAt p) else objOf R y := fun y => does_obj hk1 y
  have hda : doesAt p o = ⟨o.id, o.list, valuedP o.ss o.list p.key p.element p.old p.kind p.held⟩ := by
    unfold doesAt; rw [if_neg hk2, if_pos (by rw [hl, key_ne hkey])]
  have hdo' := hdo p.object
  rw [if_pos rfl, ho, Option.map_some, hda] at hdo'
  have hhv := helds_valued (old := p.old) (kind := p.kind) (y := p.held) (key := p.key) (x := p.element) hag.apart (fun _ => hel) (fun h' => by rw [hl] at h'; cases h')
  refine ⟨fun x o' hx => ?_, fun x hx => ?_, fun y e hy => ?_⟩
  · by_cases hxo : x = p.object
    · subst hxo
      rw [hdo'] at hx
      cases hx
      refine ⟨{ ob with kv := some g, ks := putI p.key ⟨v, vs⟩ ks' }, by rw [look_put, if_pos rfl], hag.list, fun _ s hs => ?_, fun _ => ?_, fun _ key => ?_, fun h' => ?_, fun h' => ?_, fun h' => ?_⟩
      · by_cases hex : ∃ s ∈ o.ss, pslotIs p.key p.element s = true
        · obtain ⟨s0, hs0, hp0⟩ := hex
          simp only [valued_at hag.apart hs0 hp0] at hs
          obtain ⟨s1, hs1, rfl⟩ := List.mem_map.1 hs
          rw [set_id, set_key']
          exact hag.keys hl s1 hs1
        · have hno : ∀ s ∈ o.ss, pslotIs p.key p.element s = false := fun s hs' => by
            cases h : pslotIs p.key p.element s
            · rfl
            · exact absurd ⟨s, hs', h⟩ hex
          simp only [hl, valued_none hno] at hs
          rcases List.mem_append.1 hs with hs | hs
          · exact hag.keys hl s hs
          · simp at hs
            subst hs
            exact ⟨hkey, rfl⟩
      · by_cases hex : ∃ s ∈ o.ss, pslotIs p.key p.element s = true
        · obtain ⟨s0, hs0, hp0⟩ := hex
          simp only [valued_at hag.apart hs0 hp0]
          rw [List.map_map]
          have : (PSlot.key ∘ setHelds p.key p.element p.old p.kind p.held) = PSlot.key := by funext s; exact set_key' s
          rw [this]
          exact hag.kone hl
        · have hno : ∀ s ∈ o.ss, pslotIs p.key p.element s = false := fun s hs' => by
            cases h : pslotIs p.key p.element s
            · rfl
            · exact absurd ⟨s, hs', h⟩ hex
          simp only [hl, valued_none hno]
          rw [List.map_append]
          have hnew : p.key ∉ o.ss.map PSlot.key := fun hm => by
            obtain ⟨s, hs, he⟩ := List.mem_map.1 hm
            have := hno s hs
            rw [slotIs_true.2 ⟨he, (hag.keys hl s hs).2.trans hel.symm⟩] at this
            cases this
          have hp := List.perm_append_comm (l₁ := o.ss.map PSlot.key) (l₂ := [p.key])
          exact (hp.nodup_iff).2 (List.nodup_cons.2 ⟨hnew, hag.kone hl⟩)
      · rw [hhv, look_put, hel]
        by_cases hkk : key = p.key
        · subst hkk
          rw [if_pos rfl, if_pos ⟨rfl, rfl⟩]
          rw [hel] at hvs
          exact hvs
        · rw [if_neg hkk, if_neg (fun h' => hkk h'.1), look_perm hks hnd]
          exact hag.kval hl key
      · exact absurd h' (by simp [hl])
      · exact absurd h' (by simp [hl])
      · exact absurd h' (by simp [hl])
    · rw [hdo, if_neg hxo] at hx
      obtain ⟨ob', h1, h2⟩ := h.o1 x o' hx
      exact ⟨ob', by rw [look_put, if_neg hxo]; exact h1, h2⟩
  · have hxo : x ≠ p.object := fun e => by subst e; rw [hdo'] at hx; cases hx
    rw [hdo, if_neg hxo] at hx
    show lookI x (putI _ _ _) = none
    rw [look_put, if_neg hxo]
    exact h.o0 x hx
  · obtain ⟨o', h1, h2, h3⟩ := h.el y e hy
    have hxo : e.list ≠ p.object := fun e' => by rw [e', ho] at h1; cases h1; rw [hl] at h2; cases h2
    exact ⟨o', by rw [hdo, if_neg hxo]; exact h1, h2, h3⟩

theorem Agree.valE {R : List PObj} {D : QDoc} (h : Agree R D) {p : POp} (hk : p.kind = 3 ∨ p.kind = 4) {o : PObj} (ho : objOf R p.object = some o) (hl : o.list = true) (hkey : p.key = ⟨#[]⟩) (hel : p.element ∈ o.ss.map PSlot.id) {el : CQEl} (hle : lookI p.element D.2 = some el)
    {v : Option Nat} {vs : List (PId × PVal)} (hvs : vs.Perm ((newHelds p.old (heldsAt o p.key p.element) p.kind p.held).map hpair)) :
    Agree (doesP R p) (D.1, putI p.element { el with v := v, vs := vs } D.2) := by
  obtain ⟨ob, hob, hag⟩ := h.o1 _ o ho
  have hk1 : p.kind ≠ 1 := by omega
  have hk2 : p.kind ≠ 2 := by omega
  have hdo : ∀ y, objOf (doesP R p) y = if y = p.object then (objOf R y).map (doesAt p) else objOf R y := fun y => does_obj hk1 y
  have hda : doesAt p o = ⟨o.id, o.list, valuedP o.ss o.list p.key p.element p.old p.kind p.held⟩ := by
    unfold doesAt; rw [if_neg hk2, if_pos (by rw [hl, hkey, nil_toList]; rfl)]
  have hdo' := hdo p.object
  rw [if_pos rfl, ho, Option.map_some, hda] at hdo'
  obtain ⟨s0, hs0, hsid⟩ := List.mem_map.1 hel
  have hp0 : pslotIs p.key p.element s0 = true := slotIs_true.2 ⟨(hag.elems hl s0 hs0).1.trans hkey.symm, hsid⟩
  rw [valued_at hag.apart hs0 hp0] at hdo'
  have hids : (o.ss.map (setHelds p.key p.element p.old p.kind p.held)).map PSlot.id = o.ss.map PSlot.id := by
    rw [List.map_map]
    congr 1
    funext s; exact set_id s
  obtain ⟨e0, _, he0, hel0, _⟩ := h.elem ho hl hel
  rw [hle] at he0
  cases he0
  refine ⟨fun x o' hx => ?_, fun x hx => ?_, fun y e hy => ?_⟩
  · by_cases hxo : x = p.object
    · subst hxo
      rw [hdo'] at hx
      cases hx
      refine ⟨ob, hob, hag.list, fun h' => ?_, fun h' => ?_, fun h' => ?_, fun _ s hs => ?_, fun _ => ?_, fun _ => ?_⟩
      · exact absurd h' (by simp [hl])
      · exact absurd h' (by simp [hl])
      · exact absurd h' (by simp [hl])
      · obtain ⟨s1, hs1, rfl⟩ := List.mem_map.1 hs
        obtain ⟨h1, h2, e1, h3, h4, h5⟩ := hag.elems hl s1 hs1
        rw [set_id, set_key']
        refine ⟨h1, h2, ?_⟩
        show ∃ e, lookI s1.id (putI _ _ _) = some e ∧ _
        rw [look_put]
        by_cases hse : s1.id = p.element
        · rw [if_pos hse]
          refine ⟨_, rfl, hel0, ?_⟩
          have hp1 : pslotIs p.key p.element s1 = true := slotIs_true.2 ⟨h1.trans hkey.symm, hse⟩
          have hh : heldsAt o p.key p.element = s1.hs := hag.heldsOf hs1 hp1
          unfold setHelds
          rw [if_pos hp1]
          rw [hh] at hvs
          exact hvs
        · rw [if_neg hse]
          refine ⟨e1, h3, h4, ?_⟩
          unfold setHelds
          rw [if_neg (fun h' => hse (slotIs_true.1 h').2)]
          exact h5
      · show ((o.ss.map (setHelds p.key p.element p.old p.kind p.held)).map PSlot.id).Nodup
        rw [hids]; exact hag.eone hl
      · show Chain _ _ ((o.ss.map (setHelds p.key p.element p.old p.kind p.held)).map PSlot.id)
        rw [hids]; exact (hag.chain hl).same (e' := { el with v := v, vs := vs }) hle rfl
    · rw [hdo, if_neg hxo] at hx
      obtain ⟨ob', h1, h2⟩ := h.o1 x o' hx
      refine ⟨ob', h1, h2.elsKeep (fun hl' s hs => ?_) (fun hl' => (h2.chain hl').same (e' := { el with v := v, vs := vs }) hle rfl)⟩
      have hm : s.id ∈ o'.ss.map PSlot.id := List.mem_map.2 ⟨s, hs, rfl⟩
      show lookI s.id (putI _ _ _) = _
      rw [look_put, if_neg (fun (e : s.id = p.element) => hxo (h.one hx hl' ho hl (e ▸ hm) hel))]
  · have hxo : x ≠ p.object := fun e => by subst e; rw [hdo'] at hx; cases hx
    rw [hdo, if_neg hxo] at hx
    exact h.o0 x hx
  · have hold : ∃ e', lookI y D.2 = some e' ∧ e'.list = e.list := by
      have hy' : lookI y (putI p.element { el with v := v, vs := vs } D.2) = some e := hy
      rw [look_put] at hy'
      by_cases hyb : y = p.element
      · rw [if_pos hyb] at hy'
        cases hy'
        exact ⟨el, hyb ▸ hle, rfl⟩
      · rw [if_neg hyb] at hy'
        exact ⟨e, hy', rfl⟩
    obtain ⟨e', h0, h0'⟩ := hold
    obtain ⟨o', h1, h2, h3⟩ := h.el y e' h0
    rw [← h0']
    by_cases hxo : e'.list = p.object
    · rw [hxo] at h1 ⊢
      rw [ho] at h1
      cases h1
      exact ⟨_, hdo', hl, by show y ∈ (o.ss.map (setHelds p.key p.element p.old p.kind p.held)).map PSlot.id; rw [hids]; exact h3⟩
    · exact ⟨o', by rw [hdo, if_neg hxo]; exact h1, h2, h3⟩

/-- ONE OPERATION: the two documents say the same behind it. -/
theorem Agree.step {R : List PObj} {D D' : QDoc} (h : Agree R D) (hn : QNd D) {p : POp} {n : Int} (hf : Fit R p) (hs : StepTo D (qopOf p n) D') : Agree (doesP R p) D' := by
  unfold StepTo qopOf chgOf at hs
  have hval : (p.kind = 3 ∨ p.kind = 4) → ∀ {v : Option Nat} {vs vs' : List (PId × PVal)}, vs.Perm (lessI p.old (atPl D.1 D.2 p.object p.key p.element).vs) → vs' = (if p.kind = 3 then putI p.id (p.num, p.obj) vs else vs) → SetTo D p.object p.key p.element v vs' D' → Agree (doesP R p) D' := by
    intro hk v vs vs' hp hv' hst
    obtain ⟨o, ho, hcase, hgiv⟩ := hf.val hk
    have hmain : ∀ hs : List PHeld, (atPl D.1 D.2 p.object p.key p.element).vs.Perm (hs.map hpair) → (∀ h ∈ hs, h.giver ≠ p.id) → vs'.Perm ((newHelds p.old hs p.kind p.held).map hpair) := by
      intro hs hat hg
      have h1 : vs.Perm ((unnamed p.old hs).map hpair) := by
        rw [← less_map]
        exact hp.trans (hat.filter _)
      unfold newHelds
      rw [List.map_append, hv']
      by_cases h3 : p.kind = 3
      · rw [if_pos h3, if_pos h3]
        have hnew : p.id ∉ vs.map (·.1) := fun hm => by
          rw [(h1.map (·.1)).mem_iff] at hm
          simp only [List.map_map, List.mem_map, Function.comp] at hm
          obtain ⟨x, hx, he⟩ := hm
          exact hg x (List.mem_filter.1 hx).1 he
        rw [put_fresh hnew]
        exact h1.append_right _
      · rw [if_neg h3, if_neg h3]
        simpa using h1
    rcases hcase with ⟨hl, hkey, hel⟩ | ⟨hl, hkey, hel⟩
    · rcases hst with ⟨hk0, _⟩ | ⟨_, ob, g, ks', hob, hks, rfl⟩
      · exact absurd hk0 hkey
      · have hat := (h.atK ho hl hkey p.element).2
        rw [← hel] at hat
        exact h.valK hk ho hl hkey hel hob (hn.ks _ (look_mem hob)) hks (hmain _ hat hgiv)
    · rcases hst with ⟨_, el, hle, rfl⟩ | ⟨hk0, _⟩
      · have hat := (h.atE ho hl hel).2
        rw [← hkey] at hat
        exact h.valE hk ho hl hkey hel hle (hmain _ hat hgiv)
      · exact absurd hkey hk0
  have hhas : (p.kind = 3 ∨ p.kind = 4) → hasPl D.1 D.2 p.object p.key p.element = true := by
    intro hk
    obtain ⟨o, ho, hcase, _⟩ := hf.val hk
    rcases hcase with ⟨hl, hkey, hel⟩ | ⟨hl, hkey, hel⟩
    · exact (h.atK ho hl hkey p.element).1
    · rw [hkey]; exact (h.atE ho hl hel).1
  rcases hf.kind with hk | hk | hk | hk
  · simp only [hk, if_true] at hs
    subst hs
    exact h.make hk (hf.make hk)
  · have h1 : ¬ p.kind = 1 := by omega
    simp only [h1, hk, if_true, if_false] at hs
    obtain ⟨h2, h3, o, h4, h5, h6⟩ := hf.lay hk
    simp at hs
    subst hs
    exact h.lay hk h2 h3 h4 h5 h6
  · have h1 : ¬ p.kind = 1 := by omega
    have h2 : ¬ p.kind = 2 := by omega
    simp only [h1, h2, hk, if_true, if_false, GiveTo] at hs
    obtain ⟨o', ho'⟩ := hf.obj hk
    obtain ⟨ob', hob', _⟩ := h.o1 _ o' ho'
    have hg : giveOk D p.object p.key p.element p.obj = true := by
      unfold giveOk
      rw [hhas (.inl hk), hob']; rfl
    simp [hg] at hs
    obtain ⟨v, vs, hp, hst⟩ := hs
    exact hval (.inl hk) hp (by rw [if_pos hk]) hst
  · have h1 : ¬ p.kind = 1 := by omega
    have h2 : ¬ p.kind = 2 := by omega
    have h3 : ¬ p.kind = 3 := by omega
    simp only [h1, h2, h3, if_false, TakeTo, hhas (.inr hk), if_true] at hs
    obtain ⟨v, vs, hp, hst⟩ := hs
    exact hval (.inr hk) hp (by rw [if_neg h3]) hst

end Go.Proofs.YtnkpogjiiohapaaGreatDoor
