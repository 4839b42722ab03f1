/- Our own text (OLawB, OLawC, OLawD). -/
import Derived.Test.YtnkpogjiiohapaaGreatDoorB40
set_option linter.unusedSimpArgs false
set_option linter.unusedVariables false

/-! OLawB: Plain: all that was made, in the order of Ids; what a copy tells of a list lies within it, in its order. -/
namespace Go.Proofs.YtnkpogjiiohapaaGreatDoor

def lensM (M : Nat → List MOp) (c : Nat) : Int := (M c).length
/-- All operations, in the order of their Ids. -/
def allM (N : Nat) (M : Nat → List MOp) : List MOp := insAll [] (firsts M (lensM M) N)
theorem full_copy {N : Nat} {M : Nat → List MOp} {s : RoomS} (ok : RoomOk N M s) : CopyOk N M (tot M N) (lensM M) (firsts M (lensM M) N) [] := by
  refine ⟨fun c _ => ⟨Int.natCast_nonneg _, Int.le_refl _⟩, .refl _, fun o ho => ?_, fun p hp => (by cases hp), List.nodup_nil⟩
  obtain ⟨c, hc, hm⟩ := mem_firsts.1 ho
  exact ok.cnt c hc o (List.mem_of_mem_take hm)
theorem mem_allM {N : Nat} {M : Nat → List MOp} {y : MOp} : y ∈ allM N M ↔ isMade N M y := by
  unfold allM
  rw [(insAll_perm _ _).mem_iff, List.append_nil, mem_firsts]
  constructor
  · rintro ⟨c, hc, hm⟩
    exact ⟨c, hc, List.mem_of_mem_take hm⟩
  · rintro ⟨c, hc, hm⟩
    refine ⟨c, hc, ?_⟩
    rw [show (lensM M c).toNat = (M c).length from rfl, List.take_length]
    exact hm
theorem allM_asc {N : Nat} {M : Nat → List MOp} {s : RoomS} (ok : RoomOk N M s) : AscO (allM N M) := insAll_asc _ _ List.Pairwise.nil (by rw [List.append_nil]; exact (full_copy ok).ndId ok.made)
theorem allM_nd {N : Nat} {M : Nat → List MOp} {s : RoomS} (ok : RoomOk N M s) : ((allM N M).map fun o => o.op.id).Nodup := by
  have := (insAll_perm (firsts M (lensM M) N) []).map fun o : MOp => o.op.id
  rw [List.append_nil] at this
  exact this.nodup_iff.2 ((full_copy ok).ndId ok.made)
theorem asc_sub : ∀ {T l : List MOp}, AscO l → AscO T → (∀ y ∈ l, y ∈ T) → l.Sublist T
  | _, [], _, _, _ => List.nil_sublist _
  | [], a :: l, _, _, h => absurd (h a List.mem_cons_self) List.not_mem_nil
  | b :: T, a :: l, hl, hT, h => by
    obtain ⟨l1, l2⟩ := List.pairwise_cons.1 hl
    obtain ⟨t1, t2⟩ := List.pairwise_cons.1 hT
    by_cases e : a = b
    · subst e
      refine (asc_sub l2 t2 fun y hy => ?_).cons_cons a
      rcases List.mem_cons.1 (h y (List.mem_cons_of_mem _ hy)) with rfl | hm
      · have := l1 y hy
        rw [ltI_irr] at this
        cases this
      · exact hm
    · have ha : a ∈ T := (List.mem_cons.1 (h a List.mem_cons_self)).resolve_left e
      refine (asc_sub hl t2 fun y hy => ?_).cons b
      rcases List.mem_cons.1 (h y hy) with rfl | hm
      · rcases List.mem_cons.1 hy with e' | hy
        · exact absurd e'.symm e
        · have := ltI_trans (l1 y hy) (t1 a ha)
          rw [ltI_irr] at this
          cases this
      · exact hm
theorem pops_nd {l : List MOp} (h : (l.map fun o => o.op.id).Nodup) : ((l.map fun o => popOf o.op).map POp.id).Nodup := by
  rw [List.map_map]
  have e : (POp.id ∘ fun o : MOp => popOf o.op) = fun o => o.op.id := by
    funext o
    exact pop_id o.op
  rw [e]
  exact h
theorem pops_out {N : Nat} {M : Nat → List MOp} (hM : MadeOk N M) {l : List MOp} (h : ∀ y ∈ l, isMade N M y) : ∀ p ∈ l.map fun o => popOf o.op, p.id ∉ ([] : List PId) ∧ p.id ≠ (0, 0) := fun p hp => by
  obtain ⟨o, ho, rfl⟩ := List.mem_map.1 hp
  refine ⟨List.not_mem_nil, fun e => ?_⟩
  rw [pop_id] at e
  obtain ⟨c, hc, hm⟩ := h o ho
  obtain ⟨i, hi, _, a1, a2, a3⟩ := hM.at hc hm
  rw [e] at a3
  simp at a3
/-- Fewer operations, the same order. -/
theorem within_of {N : Nat} {M : Nat → List MOp} {s : RoomS} (ok : RoomOk N M s) {l : List MOp} (hl : AscO l) (h : ∀ y ∈ l, isMade N M y) : Within (ROf l) (ROf (allM N M)) :=
  Within.all ((asc_sub hl (allM_asc ok) fun y hy => mem_allM.2 (h y hy)).map _) rootP rootP [] Within.root Ord.root (pops_nd (allM_nd ok)) (pops_out ok.made fun y hy => mem_allM.1 hy)
theorem all_ord {N : Nat} {M : Nat → List MOp} {s : RoomS} (ok : RoomOk N M s) : Ord (ROf (allM N M)) (((allM N M).map fun o => popOf o.op).map POp.id).reverse := by
  have := Ord.all _ rootP [] Ord.root (pops_nd (allM_nd ok)) fun p hp => (pops_out ok.made (fun y hy => mem_allM.1 hy) p hp).1
  rw [List.append_nil] at this
  exact this
/-- THE ORDER OF A LIST'S ELEMENTS. -/
def ordL (N : Nat) (M : Nat → List MOp) (x : PId) : List PId := match objOf (ROf (allM N M)) x with
  | some o => if o.list then elIds o else []
  | none => []
theorem ordL_nd {N : Nat} {M : Nat → List MOp} {s : RoomS} (ok : RoomOk N M s) (x : PId) : (ordL N M x).Nodup := by
  unfold ordL
  split
  · rename_i o ho
    split
    · rename_i hl
      exact ((all_ord ok).lst x o ho hl).1
    · exact List.nodup_nil
  · exact List.nodup_nil
theorem ordL_of {N : Nat} {M : Nat → List MOp} {x : PId} {o : PObj} (h : objOf (ROf (allM N M)) x = some o) (hl : o.list = true) : ordL N M x = elIds o := by
  unfold ordL
  rw [h]
  simp only [hl, if_true]
theorem pseen_sub (o : PObj) : (pseen o).Sublist (elIds o) := by
  unfold pseen elIds
  exact List.filter_sublist.map _
theorem elementsP_of {R : List PObj} {x : PId} {l : List PId} (h : elementsP R x = .ok l) : ∃ o, objOf R x = some o ∧ o.list = true ∧ l = pseen o := by
  unfold elementsP at h
  cases hp : objP R x true with
  | error n => rw [hp] at h; cases h
  | ok k =>
    rw [hp] at h
    simp only [Except.ok.injEq] at h
    unfold objP at hp
    split at hp
    · cases hp
    · rename_i hneg
      split at hp
      · rename_i o ho
        split at hp
        · rename_i hl
          injection hp with hp
          subst hp
          rw [ho] at h
          refine ⟨o, ?_, hl, h.symm⟩
          unfold firstI at ho hneg
          unfold objOf
          cases hf : R.findIdx? (pobjIs x) with
          | none => rw [hf] at hneg; exact absurd (by decide) hneg
          | some i =>
            rw [hf] at ho
            obtain ⟨hi, h1, h2⟩ := List.findIdx?_eq_some_iff_getElem.1 hf
            simp only [Int.toNat_natCast] at ho
            rw [List.getElem?_eq_getElem hi] at ho
            injection ho with ho
            rw [List.find?_eq_some_iff_getElem]
            exact ⟨by rw [← ho]; exact h1, i, hi, ho, fun j hj => by have := h2 j hj; simpa using this⟩
        · cases hp
      · cases hp
theorem elementsP_mk {R : List PObj} {x : PId} {o : PObj} (h : objOf R x = some o) (hl : o.list = true) : elementsP R x = .ok (pseen o) := by
  unfold objOf at h
  obtain ⟨h1, i, hi, e, h2⟩ := List.find?_eq_some_iff_getElem.1 h
  have hf : firstI (pobjIs x) R = (i : Int) := firstI_hit hi (fun j hj hji => by have := h2 j hji; simpa using this) (by rw [e]; exact h1)
  unfold elementsP objP
  rw [hf, if_neg (by omega), Int.toNat_natCast, List.getElem?_eq_getElem hi, e]
  simp [hl, hi, e]
section
/-- What a copy tells stands in that order. -/
theorem told_sub {N : Nat} {M : Nat → List MOp} {s : RoomS} (ok : RoomOk N M s) {c : Nat} (hc : c < N) {x : PId} {l : List PId} (h : elementsP (ROf (s.ops c)) x = .ok l) : l.Sublist (ordL N M x) := by
  obtain ⟨o, ho, hl, rfl⟩ := elementsP_of h
  obtain ⟨o', h1, h2, h3⟩ := within_of ok (ok.asc c hc) (fun y hy => (ok.copy c hc).made hy) x o ho
  rw [ordL_of h1 (h2.trans hl)]
  exact (pseen_sub o).trans (h3 hl).2
/-- The order stays while more is made. -/
theorem ordL_more {N : Nat} {M : Nat → List MOp} {s : RoomS} (ok : RoomOk N M s) {M' : Nat → List MOp} {s' : RoomS} (ok' : RoomOk N M' s') (he : ∀ c, c < N → ∃ l, M' c = M c ++ l) (x : PId) : (ordL N M x).Sublist (ordL N M' x) := by
  cases ho : objOf (ROf (allM N M)) x with
  | none => unfold ordL; rw [ho]; exact List.nil_sublist _
  | some o =>
    by_cases hl : o.list = true
    · obtain ⟨o', h1, h2, h3⟩ := within_of ok' (allM_asc ok) (fun y hy => by
        obtain ⟨c, hc, hm⟩ := mem_allM.1 hy
        obtain ⟨l, hl⟩ := he c hc
        exact ⟨c, hc, by rw [hl]; exact List.mem_append_left _ hm⟩) x o ho
      rw [ordL_of ho hl, ordL_of h1 (h2.trans hl)]
      exact (h3 hl).2
    · unfold ordL
      rw [ho]
      simp only [hl]
      exact List.nil_sublist _
theorem made_obj {N : Nat} {M : Nat → List MOp} {s : RoomS} (ok : RoomOk N M s) {c : Nat} (hc : c < N) {y : MOp} (hy : y ∈ s.ops c) {l : Bool} (hl : y.op.chg = .inl l) : ∃ o, objOf (ROf (s.ops c)) y.op.id = some o ∧ o.list = l := by
  have key : ∀ (S : List POp) (R : List PObj) (done : List PId) (p : POp), Ord R done → (S.map POp.id).Nodup → (∀ q ∈ S, q.id ∉ done ∧ q.id ≠ (0, 0)) → p.kind = 1 → p ∈ S → ∃ o, objOf (S.foldl doesP R) p.id = some o ∧ o.list = p.list := by
    have keeps : ∀ (S : List POp) (R : List PObj) (x : PId) (o : PObj), objOf R x = some o → ∃ o', objOf (S.foldl doesP R) x = some o' ∧ o'.list = o.list := fun S => by
      induction S with
      | nil => intro R x o h; exact ⟨o, h, rfl⟩
      | cons p S ih =>
        intro R x o h
        obtain ⟨o', h1, h2⟩ := does_keeps (p := p) h
        obtain ⟨o2, h3, h4⟩ := ih _ _ _ h1
        exact ⟨o2, h3, h4.trans h2⟩
    intro S
    induction S with
    | nil => intro R done p _ _ _ _ hm; cases hm
    | cons q S ih =>
      intro R done p hR hn hd hk hm
      obtain ⟨n1, n2⟩ := List.nodup_cons.1 hn
      rcases List.mem_cons.1 hm with rfl | hm
      · have hnone : objOf R p.id = none := by
          cases hx : objOf R p.id with
          | none => rfl
          | some o =>
            rcases hR.obj _ _ hx with e | e
            · exact absurd e (hd p List.mem_cons_self).2
            · exact absurd e (hd p List.mem_cons_self).1
        have h1 : objOf (doesP R p) p.id = some ⟨p.id, p.list, []⟩ := by
          rw [make_obj hk, hnone]
          simp
        exact keeps S _ _ _ h1
      · refine ih (doesP R q) (q.id :: done) p (hR.does q (hd q List.mem_cons_self).1) n2 (fun z hz => ⟨fun hm' => ?_, (hd z (List.mem_cons_of_mem _ hz)).2⟩) hk hm
        rcases List.mem_cons.1 hm' with e | hm'
        · exact n1 (by rw [← e]; exact List.mem_map.2 ⟨z, hz, rfl⟩)
        · exact (hd z (List.mem_cons_of_mem _ hz)).1 hm'
  have hk : (popOf y.op).kind = 1 ∧ (popOf y.op).list = l := by unfold popOf; rw [hl]; exact ⟨rfl, rfl⟩
  have := key ((s.ops c).map fun o => popOf o.op) rootP [] (popOf y.op) Ord.root (pops_nd ((ok.copy c hc).ndId ok.made)) (pops_out ok.made fun y hy => (ok.copy c hc).made hy) hk.1 (List.mem_map.2 ⟨y, hy, rfl⟩)
  rw [pop_id, hk.2] at this
  exact this
/-- The list is told. -/
theorem list_ok {N : Nat} {M : Nat → List MOp} {s : RoomS} (ok : RoomOk N M s) {ls : PId} (h : HasL N ls s) {c : Nat} (hc : c < N) : ∃ o, objOf (ROf (s.ops c)) ls = some o ∧ o.list = true ∧ elementsP (ROf (s.ops c)) ls = .ok (pseen o) := by
  obtain ⟨y, hy, rfl, hl⟩ := h c hc
  obtain ⟨o, h1, h2⟩ := made_obj ok hc hy hl
  exact ⟨o, h1, h2, elementsP_mk h1 h2⟩
end

/-- Where an Id stands. -/
def atP (l : List PId) (x : PId) : Int := firstI (fun y => idEq y.1 y.2 x.1 x.2) l
theorem atP_cases (l : List PId) (x : PId) : (atP l x = -1 ∧ x ∉ l) ∨ ∃ k : Nat, ∃ hk : k < l.length, atP l x = k ∧ l[k] = x := by
  unfold atP firstI
  cases h : l.findIdx? (fun y => idEq y.1 y.2 x.1 x.2) with
  | none =>
    refine .inl ⟨rfl, fun hm => ?_⟩
    have := List.findIdx?_eq_none_iff.1 h x hm
    simp [idEq] at this
  | some i =>
    obtain ⟨hi, h1, _⟩ := List.findIdx?_eq_some_iff_getElem.1 h
    exact .inr ⟨i, hi, rfl, by rw [idEq_true] at h1; exact h1⟩
theorem pair_sub {l : List PId} {j i : Nat} (hji : j < i) (hi : i < l.length) : [l[j], l[i]].Sublist l := by
  have h : l.Pairwise fun a b => [a, b].Sublist l := List.pairwise_iff_forall_sublist.2 fun h => h
  exact List.pairwise_iff_getElem.1 h j i (by omega) hi hji
theorem two_sub {x y : PId} : ∀ {U : List PId}, U.Nodup → [x, y].Sublist U → [y, x].Sublist U → False
  | [], _, h, _ => by cases h
  | u :: U, hn, h1, h2 => by
    obtain ⟨n1, n2⟩ := List.nodup_cons.1 hn
    cases h1 with
    | cons _ h1 =>
      cases h2 with
      | cons _ h2 => exact two_sub n2 h1 h2
      | cons_cons _ h2 => exact n1 (h1.subset (by simp))
    | cons_cons _ h1 =>
      cases h2 with
      | cons _ h2 => exact n1 (h2.subset (by simp))
      | cons_cons _ h2 => exact n1 (h1.subset (by simp))
/-- TWO LISTS OF ONE ORDER AGREE. -/
theorem agree_order {U la lb : List PId} (hn : U.Nodup) (ha : la.Sublist U) (hb : lb.Sublist U) {j i : Nat} (hji : j < i) (hi : i < la.length) (h2 : 0 ≤ atP lb la[i]) : atP lb la[j] ≤ atP lb la[i] := by
  rcases atP_cases lb la[j] with ⟨e, _⟩ | ⟨p, hp, e1, e2⟩
  · omega
  · rcases atP_cases lb la[i] with ⟨e, _⟩ | ⟨q, hq, f1, f2⟩
    · omega
    · rw [e1, f1]
      rcases Nat.lt_or_ge q p with hlt | hge
      · exfalso
        have h3 := (pair_sub hlt hp).trans hb
        rw [f2, e2] at h3
        exact two_sub hn ((pair_sub hji hi).trans ha) h3
      · omega
theorem twice_no {l : List PId} (hn : l.Nodup) {i : Nat} (hi : i < l.length) : atP (l.take i) l[i] = -1 := by
  rcases atP_cases (l.take i) l[i] with ⟨e, _⟩ | ⟨p, hp, _, e2⟩
  · exact e
  · exfalso
    rw [List.length_take] at hp
    rw [List.getElem_take] at e2
    have := (List.getElem_inj hn).1 e2
    omega

end Go.Proofs.YtnkpogjiiohapaaGreatDoor

/-! OLawC: quirekeep: at, own, agree. -/
namespace Go.Proofs.YtnkpogjiiohapaaGreatDoor
open Go.RowKit
attribute [local go_sem ↓] Go.wp_at_zero Go.wp_at_succ

/-- Ids, as they are read. -/
def idsAt (w : World) (v : Value) (l : List PId) : Prop := (v = .slice none 0 0 ∧ l = []) ∨ ∃ g cap, v = .slice (some ⟨g, 0, none⟩) l.length cap ∧ l.length ≤ cap ∧ cap ≤ maxLen ∧ ∀ i (hi : i < l.length), w.cell? ⟨g, i * 2, none⟩ = some (.int .i64 l[i].1) ∧ w.cell? ⟨g, i * 2 + 1, none⟩ = some (.int .i64 l[i].2)
theorem ownIds.at {B : Nat} {w : World} {v : Value} {l : List PId} (h : ownIds B w v l) : idsAt w v l := by
  obtain ⟨a, cap, rfl, h1, h2, _⟩ := owns_form h
  have hc := fun (g : Nat) (e : a = some ⟨g, 0, none⟩) i (hi : i < l.length) => isIds.cells (g := g) (n := l.length) (cap := cap) (by rw [← e]; exact h.ids) rfl i hi
  rcases h.2 with ⟨e, e2⟩ | ⟨g, cap', cur, e, _⟩
  · exact .inl ⟨by rw [e], List.length_eq_zero_iff.1 e2⟩
  · injection e with e1 e2 e3
    refine .inr ⟨g, cap, by rw [e1], h1, h2, hc g e1⟩
theorem idsAt.keep {w w' : World} {v : Value} {l : List PId} (h : idsAt w v l) (hb : Below w.heap.size w w') : idsAt w' v l := by
  rcases h with h | ⟨g, cap, rfl, h1, h2, h3⟩
  · exact .inl h
  · exact .inr ⟨g, cap, rfl, h1, h2, fun i hi => ⟨Go.Proofs.YtnkpogjiiohapaaGreatDoor.keep hb (h3 i hi).1, Go.Proofs.YtnkpogjiiohapaaGreatDoor.keep hb (h3 i hi).2⟩⟩
theorem idsAt.take {w : World} {g n cap : Nat} {l : List PId} (h : idsAt w (.slice (some ⟨g, 0, none⟩) n cap) l) {i : Nat} (hi : i ≤ l.length) : idsAt w (.slice (some ⟨g, 0, none⟩) i cap) (l.take i) := by
  rcases h with ⟨e, _⟩ | ⟨g', cap', e, h1, h2, h3⟩
  · cases e
  · injection e with e1 e2 e3
    injection e1 with e1
    injection e1 with e1
    subst e1 e2 e3
    have hl : (l.take i).length = i := by rw [List.length_take]; omega
    refine .inr ⟨g, cap, by rw [hl], by rw [hl]; omega, h2, fun j hj => ?_⟩
    rw [List.getElem_take]
    exact h3 j (by rw [hl] at hj; omega)
theorem idsAt.src {w : World} {v : Value} {l : List PId} (h : idsAt w v l) : srcIs w idC v l := by
  rcases h with h | ⟨g, cap, rfl, h1, h2, h3⟩
  · exact .inl h
  · refine .inr ⟨⟨g, 0, none⟩, cap, rfl, fun j u hu => ?_⟩
    have hx : ((⟨g, 0, none⟩ : Addr).add j) = ⟨g, j, none⟩ := by unfold Addr.add; split <;> simp_all
    rw [hx]
    have hj : j < l.length * 2 := by
      have := (List.getElem?_eq_some_iff.1 hu).1
      rw [flat_len idC 2 (fun _ => rfl)] at this
      exact this
    have hq : j / 2 < l.length := by omega
    obtain ⟨a0, a1⟩ := h3 (j / 2) hq
    have hg0 := fun k hk => flat_get idC 2 (fun _ => rfl) l (j / 2) k hq hk
    have hr : j % 2 = 0 ∨ j % 2 = 1 := by omega
    rcases hr with hr | hr
    · have e : j = j / 2 * 2 + 0 := by omega
      have := hg0 0 (by omega)
      rw [← e] at this
      rw [this] at hu
      rw [show j / 2 * 2 = j by omega] at a0
      rw [a0]
      exact hu
    · have e : j = j / 2 * 2 + 1 := by omega
      have := hg0 1 (by omega)
      rw [← e] at this
      rw [this] at hu
      rw [show j / 2 * 2 + 1 = j by omega] at a1
      rw [a1]
      exact hu

set_option maxRecDepth 1000000 in
set_option maxHeartbeats 400000 in
theorem at_g {w : World} {v : Value} {l : List PId} (h : idsAt w v l) (x1 x2 : Int) :
    Calls Tryz.prog 58 #[v, .agg #[.int .i64 x1, .int .i64 x2]] w fun e w' => e = .returned (.int .i64 (atP l (x1, x2))) ∧ Below w.heap.size w w' := by
  obtain ⟨a, cap, rfl, hlc, hcm, hform⟩ : ∃ a cap, v = .slice a l.length cap ∧ l.length ≤ cap ∧ cap ≤ maxLen ∧ ∀ i (hi : i < l.length), ∃ g, a = some ⟨g, 0, none⟩ ∧ w.cell? ⟨g, i * 2, none⟩ = some (.int .i64 l[i].1) ∧ w.cell? ⟨g, i * 2 + 1, none⟩ = some (.int .i64 l[i].2) := by
    rcases h with ⟨rfl, rfl⟩ | ⟨g, cap, rfl, h1, h2, h3⟩
    · exact ⟨none, 0, rfl, Nat.le_refl _, Nat.zero_le _, fun i hi => by cases hi⟩
    · exact ⟨_, cap, rfl, h1, h2, fun i hi => ⟨g, rfl, h3 i hi⟩⟩
  unfold maxLen at hcm
  have HF := hid (hform); clear hform h
  go_enter Tryz.func58, Tryz.ntmps58
  go_wp2
  go_loopw [5] (fun i wr => ∃ k : Nat, k ≤ l.length ∧ i = .int .i64 k ∧ Hid (∀ j (hj : j < l.length), j < k → idEq l[j].1 l[j].2 x1 x2 = false) ∧ ∃ n, wr = (w.alloc (.cells #[.int .i64 x1, .int .i64 x2] 36)).drewN n) (fun i _ => l.length - (intOf i).toNat)
  case atStart => exact ⟨0, Nat.zero_le _, rfl, fun _ _ h => absurd h (Nat.not_lt_zero _), 0, rfl⟩
  case round =>
    obtain ⟨k, hk, rfl, hn, n, rfl⟩ := hrel
    by_cases hlt : k < l.length
    · obtain ⟨g, rfl, h0, h1⟩ := HF.out k hlt
      have heq := run_idEq
      have hb' : g < w.heap.size := World.block_lt_of_cell? w _ h0
      go_wp2
      go_region
      cases hq : idEq l[k].1 l[k].2 x1 x2
      · go_wp2
        go_roundw
        case rel => exact ⟨k + 1, by omega, by go_num, none_succ (p := fun y : PId => idEq y.1 y.2 x1 x2) hlt hn.out hq, _, rfl⟩
        case measure => simp [intOf]; omega
      · go_wp2
        go_ret
        exact ⟨by unfold atP; rw [firstI_hit (p := fun y : PId => idEq y.1 y.2 x1 x2) hlt hn.out hq]; rfl, below_drewN ((Below.refl _ _).alloc (Nat.le_refl _) _) _⟩
    · go_wp2
      go_ret
      exact ⟨by unfold atP; rw [firstI_none (p := fun y : PId => idEq y.1 y.2 x1 x2) (fun j hj => hn.out j hj (by omega))]; rfl, below_drewN ((Below.refl _ _).alloc (Nat.le_refl _) _) _⟩

theorem ids_wf (l : List PId) : ∀ u ∈ l.flatMap idC, u.oneCell' = true := fun u hu => by
  obtain ⟨x, _, hx⟩ := List.mem_flatMap.1 hu
  exact wf_ids u hx
set_option maxRecDepth 1000000 in
set_option maxHeartbeats 400000 in
theorem own_g {w : World} {v : Value} {l : List PId} (h : idsAt w v l) (hl : l.length ≤ 100000) :
    Calls Tryz.prog 30 #[v] w fun e w' => ∃ u, e = .returned u ∧ ownIds w.heap.size w' u l ∧ Below w.heap.size w w' := by
  have HS := hid h.src
  clear h
  go_enter Tryz.func30, Tryz.ntmps30
  go_wp2_with (at_builtin; go_must (refine app_many idC 2 16 65 36 (.agg #[.int .i64 0, .int .i64 0]) (by kernel_rfl) Tryz.underlying65 rfl (by omega) (fun _ => rfl) rfl (.tmp 4) (.tmp 5) rfl w.heap.size (.slice none 0 0) [] l rfl ?h1 v rfl HS.out (ids_wf l) ?h3 ?h4 ?h5 ?_; (case h1 => exact World.ownsRow_nil _ _ _ _); (case h3 => simp; omega); (case h4 => simp [maxLen]; omega); (case h5 => exact Nat.le_refl _); intro u w1 ho1 hg1; have HO1 := hid (show ownIds w.heap.size w1 u l from by unfold ownIds; simpa using ho1); have HB1 := hid (show Below w.heap.size w w1 from ⟨hg1.os, hg1.tape, hg1.output, hg1.size, fun k hk => hg1.block k hk (by simp [Value.ownBlock])⟩); clear ho1 hg1))
  go_wp2
  go_ret
  exact ⟨_, rfl, HO1.out, HB1.out⟩

end Go.Proofs.YtnkpogjiiohapaaGreatDoor

/-! OLawD: quirekeep: agree. -/
namespace Go.Proofs.YtnkpogjiiohapaaGreatDoor
open Go.RowKit
attribute [local go_sem ↓] Go.wp_at_zero Go.wp_at_succ

set_option maxRecDepth 1000000 in
set_option maxHeartbeats 1600000 in
/-- Two lists of one order agree. -/
theorem agree_g {w : World} {va vb : Value} {la lb U : List PId} (ha : idsAt w va la) (hb : idsAt w vb lb) (hn : U.Nodup) (hsa : la.Sublist U) (hsb : lb.Sublist U) (hl : la.length ≤ 1000) (hm : lb.length ≤ 1000) :
    Calls Tryz.prog 31 #[va, vb] w fun e w' => e = .returned (.bool true) ∧ Below w.heap.size w w' := by
  obtain ⟨a, cap, rfl, hlc, hcm, hform⟩ : ∃ a cap, va = .slice a la.length cap ∧ la.length ≤ cap ∧ cap ≤ maxLen ∧ ∀ i (hi : i < la.length), ∃ g, a = some ⟨g, 0, none⟩ ∧ w.cell? ⟨g, i * 2, none⟩ = some (.int .i64 la[i].1) ∧ w.cell? ⟨g, i * 2 + 1, none⟩ = some (.int .i64 la[i].2) := by
    rcases ha with ⟨rfl, rfl⟩ | ⟨g, cap, rfl, h1, h2, h3⟩
    · exact ⟨none, 0, rfl, Nat.le_refl _, Nat.zero_le _, fun i hi => by cases hi⟩
    · exact ⟨_, cap, rfl, h1, h2, fun i hi => ⟨g, rfl, h3 i hi⟩⟩
  unfold maxLen at hcm
  have HF := hid hform; clear hform
  have HA := hid ha; have HBI := hid hb
  have HND := hid (hsa.nodup hn)
  have HO := hid (fun (j i : Nat) (hji : j < i) (hi : i < la.length) (h2 : 0 ≤ atP lb la[i]) => agree_order hn hsa hsb hji hi h2)
  clear ha hb hn hsa hsb
  go_enter Tryz.func31, Tryz.ntmps31
  go_wp2
  go_loopw [5, 6] (fun last i wr => ∃ (k : Nat) (z : Int), k ≤ la.length ∧ i = .int .i64 k ∧ last = .int .i64 z ∧ (-1 ≤ z ∧ z ≤ 1000) ∧ Hid (z = -1 ∨ ∃ j, ∃ hj : j < la.length, j < k ∧ z = atP lb la[j]) ∧ Below w.heap.size w wr) (fun _ i _ => la.length - (intOf i).toNat)
  case atStart => exact ⟨0, -1, Nat.zero_le _, rfl, rfl, ⟨Int.le_refl _, by omega⟩, hid (.inl rfl), Below.refl _ _⟩
  case round =>
    obtain ⟨k, z, hk, rfl, rfl, hz, hzz, hbel⟩ := hrel
    have HB0 := hid hbel; clear hbel
    by_cases hlt : k < la.length
    · obtain ⟨g, rfl, h0, h1⟩ := HF.out k hlt
      have hk0 : (0 : Int) ≤ (k : Int) := Int.natCast_nonneg _
      have hk1 : (k : Int) < (la.length : Int) := by omega
      have hk2 : (k : Int) ≤ (cap : Int) := by omega
      have hk3 : k ≤ cap := by omega
      have HAT := hid (fun W (hb : Below w.heap.size w W) => (show Calls Tryz.prog 58 #[.slice (some ⟨g, 0, none⟩) k cap, .agg #[.int .i64 la[k].1, .int .i64 la[k].2]] W fun e w' => e = .returned (.int .i64 (-1)) ∧ Below W.heap.size W w' from by
        have := at_g ((HA.out.keep hb).take hk) la[k].1 la[k].2
        rw [twice_no HND.out hlt] at this
        exact this))
      have HBT := hid (fun W (hb : Below w.heap.size w W) => (show Calls Tryz.prog 58 #[vb, .agg #[.int .i64 la[k].1, .int .i64 la[k].2]] W fun e w' => e = .returned (.int .i64 (atP lb la[k])) ∧ Below W.heap.size W w' from at_g (HBI.out.keep hb) la[k].1 la[k].2))
      have HC0 := hid (And.intro (keep HB0.out h0) (keep HB0.out h1))
      clear h0 h1
      go_wp2_with fail
      go_region_held3 (fun W => W.cell? ⟨g, k * 2, none⟩ = some (.int .i64 la[k].1) ∧ W.cell? ⟨g, k * 2 + 1, none⟩ = some (.int .i64 la[k].2)) (first | exact HC1.out | exact HC0.out)
        (first
          | (go_at_call 58; refine (HAT.out _ HB0.out.drew).mono ?_; rintro e w1 ⟨rfl, hb1⟩; have hb1' := Hid.out (below_drew_left hb1); have HB1 := hid (HB0.out.trans (hb1'.mono HB0.out.size)); have HC1 := hid (And.intro (keep hb1' HC0.out.1) (keep hb1' HC0.out.2)); clear hb1 hb1'))
      all_goals (
        obtain ⟨h0, h1⟩ := HC1.out
        go_wp2_with fail
        refine (HBT.out _ HB1.out).mono ?_
        rintro e w2 ⟨rfl, hb2⟩
        have HB2 := hid (HB1.out.trans (hb2.mono HB1.out.size)); clear hb2 h0 h1
        rcases atP_cases lb la[k] with ⟨hq, _⟩ | ⟨q, hql, hq, _⟩
        · rw [hq]
          go_wp2
          go_roundw
          case rel => exact ⟨k + 1, z, by omega, by go_num, rfl, hz, hid (hzz.out.imp id fun ⟨j, hj, hjk, e⟩ => ⟨j, hj, by omega, e⟩), HB2.out⟩
          case measure => simp [intOf]; omega
        · have hzq : z ≤ (q : Int) := by
            rcases hzz.out with e | ⟨j, hj, hjk, e⟩
            · omega
            · have := HO.out j k hjk hlt (by rw [hq]; omega)
              omega
          have HQ := hid hq
          rw [hq]
          clear hq
          have hzl : ¬ (q : Int) < z := by omega
          go_wp2
          go_roundw
          case rel => exact ⟨k + 1, q, by omega, by go_num, rfl, ⟨by omega, by omega⟩, hid (.inr ⟨k, hlt, by omega, HQ.out.symm⟩), HB2.out⟩
          case measure => simp [intOf]; omega)
    · go_wp2
      go_ret
      exact ⟨rfl, HB0.out⟩

end Go.Proofs.YtnkpogjiiohapaaGreatDoor
