/- Our own text (PDoE, RefPlan, PlA). -/
import Derived.Test.YtnkpogjiiohapaaGreatDoorA08
import Derived.Test.YtnkpogjiiohapaaGreatDoorA03
set_option linter.unusedSimpArgs false
set_option linter.unusedVariables false

/-! PDoE: What one operation, and several, leave of a document; no key is there twice. Plain. -/
namespace Go.Proofs.YtnkpogjiiohapaaGreatDoor
open Go.RowKit

/-- A change: make (list) · lay (x, b) · give (o, key, x, val, gs) · take (o, key, x, gs). -/
abbrev QChg := Bool ⊕ (PId × PId) ⊕ (PId × ByteArray × PId × PVal × List PId) ⊕ (PId × ByteArray × PId × List PId)
structure QOp where
  id : PId
  nth : Int
  chg : QChg

def StepTo (D : QDoc) (o : QOp) (D' : QDoc) : Prop :=
  match o.chg with
  | .inl l => D' = (putI o.id ⟨l, none, [], (0, 0)⟩ D.1, D.2)
  | .inr (.inl (x, b)) => D' = layQ D x b o.id
  | .inr (.inr (.inl (ob, key, x, val, gs))) => GiveTo D ob key x val gs o.id D'
  | .inr (.inr (.inr (ob, key, x, gs))) => TakeTo D ob key x gs D'
def DoTo : QDoc → List QOp → QDoc → Prop
  | D, [], D' => D' = D
  | D, o :: l, D' => ∃ D1, StepTo D o D1 ∧ DoTo D1 l D'
theorem DoTo.nil {D : QDoc} : DoTo D [] D := rfl
theorem DoTo.snoc {l : List QOp} {D2 : QDoc} {o : QOp} : ∀ {D D1 : QDoc}, DoTo D l D1 → StepTo D1 o D2 → DoTo D (l ++ [o]) D2 := by
  induction l with
  | nil =>
    intro D D1 h hs
    have h' : D1 = D := h
    subst h'
    exact ⟨D2, hs, rfl⟩
  | cons x l ih =>
    rintro D D1 ⟨D0, h1, h2⟩ hs
    exact ⟨D0, h1, ih h2 hs⟩

theorem put_keys {κ ν : Type} [DecidableEq κ] {x : κ} {v : ν} : ∀ {m : List (κ × ν)}, (m.map (·.1)).Nodup → ((putI x v m).map (·.1)).Nodup
  | [], _ => by simp [putI]
  | p :: m, h => by
    simp only [List.map_cons, List.nodup_cons] at h
    unfold putI
    by_cases hx : x = p.1
    · rw [if_pos hx]
      subst hx
      simpa using h
    · rw [if_neg hx]
      simp only [List.map_cons, List.nodup_cons]
      refine ⟨fun hm => ?_, put_keys h.2⟩
      obtain ⟨q, hq, he⟩ := List.mem_map.1 hm
      rcases put_mem hq with hq | rfl
      · exact h.1 (he ▸ List.mem_map.2 ⟨q, hq, rfl⟩)
      · exact hx he

theorem QNd.putO {D : QDoc} (h : QNd D) {x : PId} {o : CQObj} (h1 : (o.ks.map (·.1)).Nodup) (h2 : ∀ k ∈ o.ks, (k.2.vs.map (·.1)).Nodup) : QNd (putI x o D.1, D.2) := by
  refine ⟨put_keys h.o, h.e, fun p hp => ?_, fun p hp => ?_, h.ev⟩
  · rcases put_mem hp with hp | rfl
    · exact h.ks p hp
    · exact h1
  · rcases put_mem hp with hp | rfl
    · exact h.kv p hp
    · exact h2
theorem QNd.putE {D : QDoc} (h : QNd D) {x : PId} {e : CQEl} (h1 : (e.vs.map (·.1)).Nodup) : QNd (D.1, putI x e D.2) := by
  refine ⟨h.o, put_keys h.e, h.ks, h.kv, fun p hp => ?_⟩
  rcases put_mem hp with hp | rfl
  · exact h.ev p hp
  · exact h1
theorem QNd.lay {D : QDoc} (h : QNd D) (x b i : PId) : QNd (layQ D x b i) := by
  unfold layQ
  split
  · exact h
  · rename_i ob hob
    split
    · exact h
    · split
      · exact (h.putE (e := ⟨x, ob.first, none, []⟩) (x := i) (by simp)).putO (o := { ob with first := i }) (h.ks _ (look_mem hob)) (h.kv _ (look_mem hob))
      · split
        · exact h
        · rename_i e he
          split
          · exact (h.putE (e := ⟨x, e.next, none, []⟩) (x := i) (by simp)).putE (e := { e with next := i }) (h.ev _ (look_mem he))
          · exact h
theorem QNd.setTo {D D' : QDoc} (h : QNd D) {o x : PId} {key : ByteArray} {v : Option Nat} {vs : List (PId × PVal)} (hv : (vs.map (·.1)).Nodup) (hs : SetTo D o key x v vs D') : QNd D' := by
  rcases hs with ⟨_, el, hel, rfl⟩ | ⟨_, ob, g, ks', hob, hp, rfl⟩
  · exact h.putE (e := { el with v := v, vs := vs }) hv
  · refine h.putO (o := { ob with kv := some g, ks := putI key ⟨v, vs⟩ ks' }) (put_keys ((hp.map (·.1)).nodup_iff.2 (h.ks _ (look_mem hob)))) fun k hk => ?_
    rcases put_mem hk with hk | rfl
    · exact h.kv _ (look_mem hob) k (hp.mem_iff.1 hk)
    · exact hv
theorem less_keys {gs : List PId} {vs m : List (PId × PVal)} (hn : (vs.map (·.1)).Nodup) (h : m.Perm (lessI gs vs)) : (m.map (·.1)).Nodup := (h.map (·.1)).nodup_iff.2 ((List.filter_sublist.map _).nodup hn)
/-- EACH STEP KEEPS IT. -/
theorem QNd.step {D D' : QDoc} (h : QNd D) {o : QOp} (hs : StepTo D o D') : QNd D' := by
  obtain ⟨id, nth, chg⟩ := o
  rcases chg with l | ⟨x, b⟩ | ⟨ob, key, x, val, gs⟩ | ⟨ob, key, x, gs⟩
  · simp only [StepTo] at hs
    subst hs
    exact h.putO (o := ⟨l, none, [], (0, 0)⟩) (by simp) (fun k hk => by cases hk)
  · simp only [StepTo] at hs
    subst hs
    exact h.lay x b id
  · simp only [StepTo, GiveTo] at hs
    split at hs
    · obtain ⟨v, vs, hp, hst⟩ := hs
      exact h.setTo (put_keys (less_keys (h.at ob key x) hp)) hst
    · subst hs; exact h
  · simp only [StepTo, TakeTo] at hs
    split at hs
    · obtain ⟨v, vs, hp, hst⟩ := hs
      exact h.setTo (less_keys (h.at ob key x) hp) hst
    · subst hs; exact h
theorem QNd.does {D D' : QDoc} (h : QNd D) {l : List QOp} (hd : DoTo D l D') : QNd D' := by
  induction l generalizing D with
  | nil =>
    have h' : D' = D := hd
    exact h' ▸ h
  | cons x l ih =>
    obtain ⟨D1, h1, h2⟩ := hd
    exact ih (h.step h1) h2
theorem QNd.root : QNd rootQ := by
  refine ⟨by simp [rootQ], by simp [rootQ], fun p hp => ?_, fun p hp => ?_, fun p hp => by cases hp⟩
  · simp [rootQ] at hp
    subst hp
    simp
  · simp [rootQ] at hp
    subst hp
    exact fun k hk => by cases hk

end Go.Proofs.YtnkpogjiiohapaaGreatDoor

/-! RefPlan: What each call that writes is to write, by the document that the copy shows: plain functions. D: the document; t: the greatest counter; own: how many the copy has made. -/
namespace Go.Proofs.YtnkpogjiiohapaaGreatDoor
open Go.RowKit

def opMake (t c : Int) (lst : Bool) : POp := ⟨(t, c), 1, lst, (0, 0), ⟨#[]⟩, (0, 0), (0, 0), 0, (0, 0), []⟩
end Go.Proofs.YtnkpogjiiohapaaGreatDoor

/-! PlA: Plain: the document of the reference's and the program's, object by object; what it is that they say the same. -/
namespace Go.Proofs.YtnkpogjiiohapaaGreatDoor
open Go.RowKit

theorem key_inj {a b : ByteArray} (h : a.toList = b.toList) : a = b := by
  rw [← Go.MapKept.bytes_beq, beq_toListBytes, h]
  exact beq_self_eq_true _
/-- The object with this Id. -/
def objOf (R : List PObj) (x : PId) : Option PObj := R.find? (pobjIs x)
def hpair (h : PHeld) : PId × PVal := (h.giver, valOf h)

theorem pobjIs_true {x : PId} {o : PObj} : pobjIs x o = true ↔ o.id = x := by
  unfold pobjIs; rw [idEq_true]
theorem objOf_id {R : List PObj} {x : PId} {o : PObj} (h : objOf R x = some o) : o.id = x := pobjIs_true.1 (List.find?_some h)
theorem objOf_mem {R : List PObj} {x : PId} {o : PObj} (h : objOf R x = some o) : o ∈ R := List.mem_of_find?_eq_some h

theorem look_put {κ ν : Type} [DecidableEq κ] (x y : κ) (v : ν) (m : List (κ × ν)) : lookI y (putI x v m) = if y = x then some v else lookI y m := by
  induction m with
  | nil => by_cases h : y = x <;> simp [putI, lookI, h]
  | cons p m ih =>
    unfold putI
    by_cases hx : x = p.1
    · rw [if_pos hx]
      by_cases h : y = x
      · simp [lookI, h]
      · have h' : ¬ y = p.1 := hx ▸ h
        simp [lookI, h, h']
    · rw [if_neg hx]
      by_cases hy : y = p.1
      · have h : ¬ y = x := fun e => hx (e ▸ hy)
        simp [lookI, hy, Ne.symm hx]
      · have e1 : lookI y (p :: putI x v m) = lookI y (putI x v m) := by simp [lookI, hy]
        have e2 : lookI y (p :: m) = lookI y m := by simp [lookI, hy]
        rw [e1, e2, ih]
theorem look_none {κ ν : Type} [DecidableEq κ] {x : κ} {m : List (κ × ν)} (h : x ∉ m.map (·.1)) : lookI x m = none := by
  unfold lookI
  rw [Option.map_eq_none_iff, List.find?_eq_none]
  intro p hp
  simp
  intro e
  exact h (e ▸ List.mem_map.2 ⟨p, hp, rfl⟩)
theorem look_of_mem {κ ν : Type} [DecidableEq κ] {x : κ} {v : ν} : ∀ {m : List (κ × ν)}, (m.map (·.1)).Nodup → (x, v) ∈ m → lookI x m = some v
  | [], _, h => by cases h
  | p :: m, hn, h => by
    simp only [List.map_cons, List.nodup_cons] at hn
    rcases List.mem_cons.1 h with h | h
    · subst h; simp [lookI]
    · have hx : ¬ x = p.1 := fun e => hn.1 (e ▸ List.mem_map.2 ⟨_, h, rfl⟩)
      have := look_of_mem hn.2 h
      simpa [lookI, hx] using this
theorem look_perm {κ ν : Type} [DecidableEq κ] {x : κ} {m m' : List (κ × ν)} (hp : m.Perm m') (hn : (m'.map (·.1)).Nodup) : lookI x m = lookI x m' := by
  have hn' : (m.map (·.1)).Nodup := (hp.map (·.1)).nodup_iff.2 hn
  cases h : lookI x m' with
  | some v => exact look_of_mem hn' (hp.mem_iff.2 (look_mem h))
  | none =>
    cases h2 : lookI x m with
    | none => rfl
    | some v => rw [look_of_mem hn (hp.mem_iff.1 (look_mem h2))] at h; cases h
theorem put_fresh {κ ν : Type} [DecidableEq κ] {x : κ} {v : ν} : ∀ {m : List (κ × ν)}, x ∉ m.map (·.1) → putI x v m = m ++ [(x, v)]
  | [], _ => rfl
  | p :: m, h => by
    simp only [List.map_cons, List.mem_cons, not_or] at h
    unfold putI
    rw [if_neg h.1, put_fresh h.2]; rfl

/-- A list is changed at the first that is meant. -/
theorem find_modify {α : Type} {p q : α → Bool} {f : α → α} {l : List α} {k : Nat} (hk : l.findIdx? p = some k) (hq : ∀ o, q (f o) = q o) : (l.modify k f).find? q = match l.find? q with | none => none | some o => if l.findIdx? q = some k then some (f o) else some o := by
  induction l generalizing k with
  | nil => simp at hk
  | cons a l ih =>
    rw [List.findIdx?_cons] at hk
    by_cases ha : p a = true
    · rw [if_pos ha] at hk
      cases hk
      simp only [List.modify_zero_cons, List.find?_cons, hq, List.findIdx?_cons]
      cases hqa : q a
      · simp
        cases l.find? q <;> simp
      · simp
    · rw [if_neg ha] at hk
      cases hl : l.findIdx? p with
      | none => rw [hl] at hk; cases hk
      | some j =>
        rw [hl] at hk
        cases hk
        simp only [List.modify_succ_cons, List.find?_cons, List.findIdx?_cons]
        cases hqa : q a
        · rw [ih hl]
          simp
        · simp
theorem first_neg {α : Type} {p : α → Bool} {l : List α} : firstI p l < 0 ↔ l.find? p = none := by
  unfold firstI
  rw [List.find?_eq_none]
  cases h : l.findIdx? p with
  | none => rw [List.findIdx?_eq_none_iff] at h; simpa using h
  | some k =>
    simp only
    constructor
    · intro h'; omega
    · intro h'
      obtain ⟨hk, h1, _⟩ := List.findIdx?_eq_some_iff_getElem.1 h
      exact absurd h1 (h' _ (List.getElem_mem hk))
theorem first_pos {α : Type} {p : α → Bool} {l : List α} (h : ¬ firstI p l < 0) : l.findIdx? p = some (firstI p l).toNat := by
  unfold firstI at *
  cases h' : l.findIdx? p with
  | none => rw [h'] at h; simp at h
  | some k => simp
theorem find_idx {α : Type} {p q : α → Bool} {l : List α} {k : Nat} {o : α} (h1 : l.findIdx? p = some k) (h2 : l.findIdx? q = some k) (h3 : l.find? p = some o) : q o = true := by
  obtain ⟨hk, h4, h5⟩ := List.findIdx?_eq_some_iff_getElem.1 h1
  obtain ⟨_, h6, _⟩ := List.findIdx?_eq_some_iff_getElem.1 h2
  have : l.find? p = some l[k] := by
    rw [List.find?_eq_some_iff_getElem]
    exact ⟨h4, k, hk, rfl, fun j hj => by simpa using h5 j hj⟩
  rw [this] at h3
  cases h3
  exact h6

theorem doesAt_id' (p : POp) (o : PObj) : (doesAt p o).id = o.id := by
  unfold doesAt; split <;> split <;> rfl
theorem pobjIs_does (p : POp) (y : PId) (o : PObj) : pobjIs y (doesAt p o) = pobjIs y o := by unfold pobjIs; rw [doesAt_id']
/-- WHAT AN OPERATION LEAVES, object by object. -/
theorem does_obj {R : List PObj} {p : POp} (hk : p.kind ≠ 1) (y : PId) : objOf (doesP R p) y = if y = p.object then (objOf R y).map (doesAt p) else objOf R y := by
  unfold doesP
  rw [if_neg hk]
  by_cases hf : firstI (pobjIs p.object) R < 0
  · rw [if_pos hf]
    split
    · rename_i e; subst e
      unfold objOf; rw [first_neg.1 hf]; rfl
    · rfl
  · rw [if_neg hf]
    have h1 := first_pos hf
    unfold objOf
    rw [find_modify h1 (pobjIs_does p y)]
    by_cases e : y = p.object
    · subst e
      rw [if_pos rfl]
      cases R.find? (pobjIs p.object) with
      | none => rfl
      | some o => simp [h1]
    · rw [if_neg e]
      cases ho : R.find? (pobjIs y) with
      | none => rfl
      | some o =>
        simp only
        rw [if_neg]
        intro h2
        have h3 := find_idx h2 h1 ho
        have h4 := List.find?_some ho
        exact e ((pobjIs_true.1 h4).symm.trans (pobjIs_true.1 h3))
theorem make_obj {R : List PObj} {p : POp} (hk : p.kind = 1) (y : PId) : objOf (doesP R p) y = match objOf R y with | some o => some o | none => if y = p.id then some ⟨p.id, p.list, []⟩ else none := by
  unfold doesP objOf
  rw [if_pos hk, List.find?_append]
  cases R.find? (pobjIs y) with
  | some o => rfl
  | none =>
    by_cases h : y = p.id
    · subst h; simp [pobjIs, idEq]
    · have : pobjIs y ⟨p.id, p.list, []⟩ = false := by
        cases hb : pobjIs y ⟨p.id, p.list, []⟩
        · rfl
        · exact absurd (pobjIs_true.1 hb).symm h
      simp [this, h]

/-! The slots of an object. -/
theorem slotIs_true {key : ByteArray} {x : PId} {s : PSlot} : pslotIs key x s = true ↔ s.key = key ∧ s.id = x := by
  unfold pslotIs
  rw [Bool.and_eq_true, idEq_true, beq_iff_eq]
  exact ⟨fun h => ⟨key_inj h.1, h.2⟩, fun h => ⟨by rw [h.1], h.2⟩⟩

def setHelds (key : ByteArray) (x : PId) (old : List PId) (kind : Int) (y : PHeld) (s : PSlot) : PSlot := if pslotIs key x s then ⟨s.key, s.id, newHelds old s.hs kind y⟩ else s
/-- Where a slot is there once, it is the one that is changed. -/
theorem valued_at {l : List PSlot} {list : Bool} {key : ByteArray} {x : PId} {old : List PId} {kind : Int} {y : PHeld} (hn : l.Pairwise fun a b => ¬ (a.key = b.key ∧ a.id = b.id)) {s : PSlot} (hs : s ∈ l) (h : pslotIs key x s = true) : valuedP l list key x old kind y = l.map (setHelds key x old kind y) := by
  unfold valuedP
  have hf : ¬ firstI (pslotIs key x) l < 0 := fun h' => by
    rw [first_neg, List.find?_eq_none] at h'
    exact h' s hs h
  rw [if_neg hf]
  have h1 := first_pos hf
  generalize (firstI (pslotIs key x) l).toNat = k at h1
  clear hf hs h s
  induction l generalizing k with
  | nil => simp at h1
  | cons a l ih =>
    rw [List.pairwise_cons] at hn
    rw [List.findIdx?_cons] at h1
    by_cases ha : pslotIs key x a = true
    · rw [if_pos ha] at h1
      cases h1
      simp only [List.modify_zero_cons, List.map_cons]
      congr 1
      · unfold setHelds; rw [if_pos ha]
      · symm
        refine (List.map_congr_left (g := id) fun b hb => ?_).trans (List.map_id l)
        show _ = b
        unfold setHelds
        rw [if_neg]
        intro hb'
        have e1 := slotIs_true.1 ha
        have e2 := slotIs_true.1 hb'
        exact hn.1 b hb ⟨e1.1.trans e2.1.symm, e1.2.trans e2.2.symm⟩
    · rw [if_neg ha] at h1
      cases hl : l.findIdx? (pslotIs key x) with
      | none => rw [hl] at h1; cases h1
      | some j =>
        rw [hl] at h1
        cases h1
        simp only [List.modify_succ_cons, List.map_cons]
        rw [ih hn.2 j hl]
        congr 1
        unfold setHelds; rw [if_neg ha]
theorem valued_none {l : List PSlot} {key : ByteArray} {x : PId} {old : List PId} {kind : Int} {y : PHeld} (h : ∀ s ∈ l, pslotIs key x s = false) : valuedP l false key x old kind y = l ++ [⟨key, (0, 0), newHelds old [] kind y⟩] := by
  unfold valuedP
  rw [if_pos (first_neg.2 (List.find?_eq_none.2 fun s hs => by rw [h s hs]; simp))]
  rfl
theorem set_id {key : ByteArray} {x : PId} {old : List PId} {kind : Int} {y : PHeld} (s : PSlot) : (setHelds key x old kind y s).id = s.id := by unfold setHelds; split <;> rfl
theorem set_key' {key : ByteArray} {x : PId} {old : List PId} {kind : Int} {y : PHeld} (s : PSlot) : (setHelds key x old kind y s).key = s.key := by unfold setHelds; split <;> rfl

/-- What an object of the reference's and one of the program's have in common. -/
structure ObjAg (els : List (PId × CQEl)) (x : PId) (o : PObj) (ob : CQObj) : Prop where
  list : ob.list = o.list
  keys : o.list = false → ∀ s ∈ o.ss, s.key ≠ ⟨#[]⟩ ∧ s.id = (0, 0)
  kone : o.list = false → (o.ss.map PSlot.key).Nodup
  kval : o.list = false → ∀ key, ((lookI key ob.ks).elim [] CKey.vs).Perm ((heldsAt o key (0, 0)).map hpair)
  elems : o.list = true → ∀ s ∈ o.ss, s.key = ⟨#[]⟩ ∧ s.id ≠ (0, 0) ∧ ∃ e, lookI s.id els = some e ∧ e.list = x ∧ e.vs.Perm (s.hs.map hpair)
  eone : o.list = true → (o.ss.map PSlot.id).Nodup
  chain : o.list = true → Chain els ob.first (o.ss.map PSlot.id)
/-- THE TWO DOCUMENTS SAY THE SAME. -/
structure Agree (R : List PObj) (D : QDoc) : Prop where
  o1 : ∀ x o, objOf R x = some o → ∃ ob, lookI x D.1 = some ob ∧ ObjAg D.2 x o ob
  o0 : ∀ x, objOf R x = none → lookI x D.1 = none
  el : ∀ y e, lookI y D.2 = some e → ∃ o, objOf R e.list = some o ∧ o.list = true ∧ y ∈ o.ss.map PSlot.id

theorem Agree.root : Agree rootP rootQ := by
  refine ⟨fun x o h => ?_, fun x h => ?_, fun y e h => ?_⟩
  · have hx := objOf_id h
    unfold objOf rootP at h
    simp only [List.find?_cons, List.find?_nil] at h
    split at h
    · cases h
      simp at hx
      subst hx
      exact ⟨⟨false, none, [], (0, 0)⟩, by simp [rootQ, lookI], rfl, fun _ s hs => (by simp at hs), fun _ => (by simp), fun _ key => (by simp [lookI, heldsAt]), fun h => (by cases h), fun h => (by cases h), fun h => (by cases h)⟩
    · cases h
  · unfold objOf rootP at h
    simp only [List.find?_cons, List.find?_nil] at h
    split at h
    · cases h
    · rename_i hx
      have : ¬ x = (0, 0) := fun e => by subst e; simp [pobjIs, idEq] at hx
      simp [rootQ, lookI, this]
  · simp [rootQ, lookI] at h

theorem Chain.put {els : List (PId × CQEl)} {y : PId} {e : CQEl} : ∀ {x : PId} {L : List PId}, Chain els x L → y ∉ L → Chain (putI y e els) x L
  | _, [], h, _ => h
  | _, z :: L, ⟨h1, h2, e', h3, h4⟩, hy => by
    simp only [List.mem_cons, not_or] at hy
    exact ⟨h1, h2, e', by rw [look_put, if_neg (Ne.symm hy.1)]; exact h3, h4.put hy.2⟩
theorem Chain.same {els : List (PId × CQEl)} {y : PId} {e e' : CQEl} (hl : lookI y els = some e) (hn : e'.next = e.next) : ∀ {x : PId} {L : List PId}, Chain els x L → Chain (putI y e' els) x L
  | _, [], h => h
  | _, z :: L, ⟨h1, h2, e1, h3, h4⟩ => by
    by_cases hz : z = y
    · subst hz
      rw [hl] at h3
      cases h3
      exact ⟨h1, h2, e', by rw [look_put, if_pos rfl], by rw [hn]; exact h4.same hl hn⟩
    · exact ⟨h1, h2, e1, by rw [look_put, if_neg hz]; exact h3, h4.same hl hn⟩
theorem Chain.ins {els : List (PId × CQEl)} {b i x : PId} {e : CQEl} (hl : lookI b els = some e) (hi : i ≠ (0, 0)) (hbi : b ≠ i) : ∀ {L1 L2 : List PId} {f : PId}, Chain els f (L1 ++ b :: L2) → i ∉ L1 ++ b :: L2 → (L1 ++ b :: L2).Nodup → Chain (putI b { e with next := i } (putI i ⟨x, e.next, none, []⟩ els)) f (L1 ++ b :: i :: L2)
  | [], L2, f, ⟨h1, h2, e1, h3, h4⟩, hn, hd => by
    rw [hl] at h3
    cases h3
    simp only [List.nil_append, List.mem_cons, not_or] at hn
    simp only [List.nil_append, List.nodup_cons] at hd
    refine ⟨h1, h2, { e with next := i }, by rw [look_put, if_pos rfl], rfl, hi, ⟨x, e.next, none, []⟩, by rw [look_put, if_neg (Ne.symm hbi), look_put, if_pos rfl], ?_⟩
    exact (h4.put hn.2).put hd.1
  | z :: L1, L2, f, ⟨h1, h2, e1, h3, h4⟩, hn, hd => by
    simp only [List.cons_append, List.mem_cons, not_or] at hn
    simp only [List.cons_append, List.nodup_cons] at hd
    have hzb : z ≠ b := fun e => hd.1 (by rw [e]; simp)
    exact ⟨h1, h2, e1, by rw [look_put, if_neg hzb, look_put, if_neg (Ne.symm hn.1)]; exact h3, h4.ins hl hi hbi hn.2 hd.2⟩

end Go.Proofs.YtnkpogjiiohapaaGreatDoor
