/- Our own text (USimA, USimB). -/
import Derived.Test.YtnkpogjiiohapaaGreatDoorA31
import Derived.Test.YtnkpogjiiohapaaGreatDoorA34
set_option linter.unusedSimpArgs false
set_option linter.unusedVariables false

/-! USimA: Plain: two rooms in which the same was done: what answers are made of. -/
namespace Go.Proofs.YtnkpogjiiohapaaGreatDoor

theorem sub_split {l : List MOp} {a b : List PId} (h : (l.map plOf).Sublist (a ++ b)) (hn : (a ++ b).Nodup) : ∃ x y, l = x ++ y ∧ (x.map plOf).Sublist a ∧ (y.map plOf).Sublist b ∧ cutIn l a = x.length := by
  obtain ⟨l1, l2, e, h1, h2⟩ := List.sublist_append_iff.1 h
  obtain ⟨x, y, rfl, rfl, rfl⟩ := List.map_eq_append_iff.1 e
  refine ⟨x, y, rfl, h1, h2, ?_⟩
  unfold cutIn
  have hx : ∀ o ∈ x, (fun o => decide (plOf o ∈ a)) o = true := fun o ho => decide_eq_true (h1.subset (List.mem_map_of_mem ho))
  have hy : ∀ o ∈ y, ¬ plOf o ∈ a := fun o ho ha => (List.nodup_append.1 hn).2.2 _ ha _ (h2.subset (List.mem_map_of_mem ho)) rfl
  rw [List.takeWhile_append_of_pos hx]
  cases y with
  | nil => simp
  | cons o y => rw [List.takeWhile_cons, if_neg (by simp [hy o List.mem_cons_self])]; simp
/-- The parts of an answer: each has what of the list is in its places. -/
theorem ans_parts {ls : List MOp} {pls : List PId} (h : (ls.map plOf).Sublist pls) (hn : pls.Nodup) : ∀ k : Nat, (∃ y, ls.drop (ansTo ls pls (List.range k)).1 = y ∧ (y.map plOf).Sublist (pls.drop (8 * k)) ∧ ∀ o ∈ ls, plOf o ∈ pls.drop (8 * k) → o ∈ y) ∧ ∀ j (hj : j < (ansTo ls pls (List.range k)).2.length), ∀ o, o ∈ (ls.drop (ansTo ls pls (List.range k)).2[j].1).take (ansTo ls pls (List.range k)).2[j].2 ↔ (o ∈ ls ∧ plOf o ∈ partOf pls j)
  | 0 => ⟨⟨ls, rfl, by simpa using h, fun o ho _ => ho⟩, fun j hj => by simp [ansTo] at hj⟩
  | k + 1 => by
    obtain ⟨⟨y, e, hs, hall⟩, hj⟩ := ans_parts h hn k
    have hsp : pls.drop (8 * k) = partOf pls k ++ pls.drop (8 * (k + 1)) := by
      unfold partOf
      rw [show 8 * (k + 1) = 8 * k + 8 by omega, ← List.drop_drop, List.take_append_drop]
    have hnd : (partOf pls k ++ pls.drop (8 * (k + 1))).Nodup := by rw [← hsp]; exact hn.sublist (List.drop_sublist _ _)
    rw [hsp] at hs
    obtain ⟨x, z, e1, h1, h2, h3⟩ := sub_split hs hnd
    have hlen := ans_len ls pls (List.range k)
    have hya : ∀ o ∈ y, o ∈ ls := fun o ho => by rw [← e] at ho; exact List.mem_of_mem_drop ho
    have hdis : ∀ q, q ∈ partOf pls k → ¬ q ∈ pls.drop (8 * (k + 1)) := fun q h1 h2 => (List.nodup_append.1 hnd).2.2 q h1 q h2 rfl
    rw [List.range_succ, ans_snoc, e, h3]
    refine ⟨⟨z, ?_, h2, fun o ho hp => ?_⟩, fun j hjl o => ?_⟩
    · show ls.drop (_ + x.length) = z
      rw [← List.drop_drop, e, e1, List.drop_left]
    · have := hall o ho (by rw [hsp]; exact List.mem_append_right _ hp)
      rw [e1] at this
      rcases List.mem_append.1 this with h | h
      · exact absurd hp (hdis _ (h1.subset (List.mem_map_of_mem h)))
      · exact h
    · simp only [List.length_append, List.length_cons, List.length_nil] at hjl
      by_cases hlt : j < (ansTo ls pls (List.range k)).2.length
      · simp only [List.getElem_append_left hlt]
        exact hj j hlt o
      · have hjk : j = (ansTo ls pls (List.range k)).2.length := by omega
        have ejk : j = k := by rw [hjk, hlen, List.length_range]
        subst hjk
        simp only [List.getElem_concat_length]
        rw [e, e1, List.take_left, ejk]
        refine ⟨fun ho => ⟨hya o (by rw [e1]; exact List.mem_append_left _ ho), h1.subset (List.mem_map_of_mem ho)⟩, fun ⟨ho, hp⟩ => ?_⟩
        have := hall o ho (by rw [hsp]; exact List.mem_append_left _ hp)
        rw [e1] at this
        rcases List.mem_append.1 this with h | h
        · exact h
        · exact absurd (h2.subset (List.mem_map_of_mem h)) (hdis _ hp)
theorem mem_pls {c : Nat} {f : Int} {n : Nat} {k : PId} : k ∈ plsOf c f n ↔ k.1 = (c : Int) ∧ f < k.2 ∧ k.2 ≤ f + n := by
  unfold plsOf
  simp only [List.mem_map, List.mem_range]
  constructor
  · rintro ⟨j, hj, rfl⟩
    exact ⟨rfl, by omega, by omega⟩
  · rintro ⟨h1, h2, h3⟩
    exact ⟨(k.2 - f - 1).toNat, by omega, by rw [← h1]; exact Prod.ext rfl (by simp; omega)⟩
theorem mem_bey {known has : Nat → Int} {k : PId} : ∀ {n : Nat}, k ∈ beyTo known has n ↔ ∃ c : Nat, c < n ∧ k.1 = (c : Int) ∧ known c < k.2 ∧ k.2 ≤ has c := by
  intro n
  unfold beyTo
  simp only [List.mem_flatMap, List.mem_range, mem_pls]
  constructor
  · rintro ⟨c, hc, h1, h2, h3⟩
    exact ⟨c, hc, h1, h2, by omega⟩
  · rintro ⟨c, hc, h1, h2, h3⟩
    exact ⟨c, hc, h1, h2, by omega⟩
def AscK (l : List PId) : Prop := l.Pairwise fun a b => ltI a b = true
theorem pls_asc (c : Nat) (f : Int) : ∀ n, AscK (plsOf c f n)
  | 0 => by simp [AscK, plsOf]
  | n + 1 => by
    rw [plsOf_succ]
    refine List.pairwise_append.2 ⟨pls_asc c f n, List.pairwise_singleton _ _, fun a ha b hb => ?_⟩
    obtain rfl := List.mem_singleton.1 hb
    obtain ⟨h1, h2, h3⟩ := mem_pls.1 ha
    rw [ltI_iff]
    right
    exact ⟨h1, by show a.2 < f + 1 + (n : Int); omega⟩
theorem bey_asc (known has : Nat → Int) : ∀ n, AscK (beyTo known has n)
  | 0 => by simp [AscK, beyTo]
  | n + 1 => by
    rw [beyTo_succ]
    refine List.pairwise_append.2 ⟨bey_asc known has n, pls_asc _ _ _, fun a ha b hb => ?_⟩
    obtain ⟨c, hc, h1, _⟩ := mem_bey.1 ha
    obtain ⟨h2, _⟩ := mem_pls.1 hb
    rw [ltI_iff]
    left
    omega
theorem asc_nodup {l : List PId} (h : AscK l) : l.Nodup := h.imp fun {a b} h e => by
  subst e
  rw [ltI_irr] at h
  cases h
/-- What ascends and lies within what ascends is a part of it. -/
theorem asc_sub : ∀ {l m : List PId}, AscK l → AscK m → (∀ x ∈ l, x ∈ m) → l.Sublist m
  | [], m, _, _, _ => List.nil_sublist _
  | a :: l, [], _, _, h => absurd (h a List.mem_cons_self) (by simp)
  | a :: l, b :: m, hl, hm, h => by
    obtain ⟨hl1, hl2⟩ := List.pairwise_cons.1 hl
    obtain ⟨hm1, hm2⟩ := List.pairwise_cons.1 hm
    by_cases e : a = b
    · subst e
      refine (asc_sub hl2 hm2 fun x hx => ?_).cons_cons a
      rcases List.mem_cons.1 (h x (List.mem_cons_of_mem _ hx)) with h1 | h1
      · have := hl1 x hx
        rw [h1, ltI_irr] at this
        cases this
      · exact h1
    · refine (asc_sub hl hm2 fun x hx => ?_).cons b
      rcases List.mem_cons.1 (h x hx) with h1 | h1
      · subst h1
        exfalso
        have ham : a ∈ m := by
          rcases List.mem_cons.1 (h a List.mem_cons_self) with h2 | h2
          · exact absurd h2 e
          · exact h2
        rcases List.mem_cons.1 hx with h2 | h2
        · exact e h2.symm
        · have := ltI_trans (hl1 x h2) (hm1 a ham)
          rw [ltI_irr] at this
          cases this
      · exact h1

end Go.Proofs.YtnkpogjiiohapaaGreatDoor

/-! USimB: Plain: two rooms in which the same was done. -/
namespace Go.Proofs.YtnkpogjiiohapaaGreatDoor

def opsQ (l : List MOp) : List QOp := l.map (·.op)
/-- Two messages that bring the same to a copy that has so many. -/
def MsgS (has : Nat → Int) : Msg → Msg → Prop
  | .inl l, .inl l' => l = l'
  | .inr xs, .inr ys => ∀ o : QOp, has o.id.2.toNat < o.nth → (o ∈ opsQ xs ↔ o ∈ opsQ ys)
  | _, _ => False
/-- TWO ROOMS IN WHICH THE SAME WAS DONE, whatever their copies have forgotten. -/
structure Sim (N : Nat) (M M' : Nat → List MOp) (s s' : RoomS) : Prop where
  made : ∀ c, c < N → opsQ (M c) = opsQ (M' c)
  has : ∀ c, c < N → ∀ i, i < N → s.has c i = s'.has c i
  gt : ∀ c, c < N → s.gt c = s'.gt c
  early : ∀ c, c < N → ∀ k : PId, s.has c k.1.toNat < k.2 → (lookI k (s.early c)).map (·.op) = (lookI k (s'.early c)).map (·.op)
  ms : ∀ c d, c < N → d < N → c ≠ d → All2 (MsgS (s.has d)) (s.ms c d) (s'.ms c d)

theorem MsgS.more {has has' : Nat → Int} (h : ∀ i, has i ≤ has' i) : ∀ {a b : Msg}, MsgS has a b → MsgS has' a b
  | .inl _, .inl _, k => k
  | .inr _, .inr _, k => fun o ho => k o (Int.lt_of_le_of_lt (h _) ho)
  | .inl _, .inr _, k => k.elim
  | .inr _, .inl _, k => k.elim
theorem All2.sentS {R : Msg → Msg → Prop} : ∀ {bs bs' : List Msg} {ms ms' : List Msg}, All2 R ms ms' → All2 R bs bs' → All2 R (sentM ms bs) (sentM ms' bs')
  | [], [], _, _, h, _ => h
  | [], _ :: _, _, _, _, h2 => h2.elim
  | _ :: _, [], _, _, _, h2 => h2.elim
  | b :: bs, b' :: bs', ms, ms', h, h2 => by
    unfold sentM
    have hl := h.len
    by_cases h12 : ms.length = 12
    · rw [if_pos h12, if_pos (by omega)]
      exact All2.sentS h h2.2
    · rw [if_neg h12, if_neg (by omega)]
      exact All2.sentS (All2.snoc h2.1 h) h2.2
theorem All2.ofGet {α β : Type} {R : α → β → Prop} : ∀ {l : List α} {m : List β}, l.length = m.length → (∀ i (h1 : i < l.length) (h2 : i < m.length), R l[i] m[i]) → All2 R l m
  | [], [], _, _ => trivial
  | [], _ :: _, h, _ => by simp at h
  | _ :: _, [], h, _ => by simp at h
  | a :: l, b :: m, h, k => ⟨k 0 (by simp) (by simp), All2.ofGet (by simpa using h) fun i h1 h2 => k (i + 1) (by simpa using h1) (by simpa using h2)⟩

def AscQ (l : List QOp) : Prop := l.Pairwise fun a b => ltI a.id b.id = true
theorem ascQ_unique : ∀ {l m : List QOp}, AscQ l → AscQ m → l.Perm m → l = m
  | [], m, _, _, hp => hp.nil_eq
  | a :: l, [], _, _, hp => absurd hp.length_eq (by simp)
  | a :: l, b :: m, hl, hm, hp => by
    obtain ⟨hl1, hl2⟩ := List.pairwise_cons.1 hl
    obtain ⟨hm1, hm2⟩ := List.pairwise_cons.1 hm
    have hab : a = b := by
      rcases List.mem_cons.1 (hp.mem_iff.1 (List.mem_cons_self (a := a) (l := l))) with h | h
      · exact h
      · rcases List.mem_cons.1 (hp.mem_iff.2 (List.mem_cons_self (a := b) (l := m))) with h' | h'
        · exact h'.symm
        · have := ltI_trans (hl1 b h') (hm1 a h)
          rw [ltI_irr] at this
          cases this
    subst hab
    rw [ascQ_unique hl2 hm2 hp.cons_inv]
theorem firsts_op (M : Nat → List MOp) (has : Nat → Int) : ∀ n, opsQ (firsts M has n) = (List.range n).flatMap fun c => (opsQ (M c)).take (has c).toNat
  | 0 => rfl
  | n + 1 => by
    have := firsts_op M has n
    unfold opsQ at this ⊢
    rw [firsts_succ, List.map_append, this, List.range_succ, List.flatMap_append, List.map_take]
    simp
theorem flat_congr {α β : Type} {f g : α → List β} : ∀ {l : List α}, (∀ a ∈ l, f a = g a) → l.flatMap f = l.flatMap g
  | [], _ => rfl
  | a :: l, h => by rw [List.flatMap_cons, List.flatMap_cons, h a List.mem_cons_self, flat_congr fun x hx => h x (List.mem_cons_of_mem _ hx)]
section
theorem Sim.ops {N : Nat} {M M' : Nat → List MOp} {s s' : RoomS} (h : Sim N M M' s s') (ok : RoomOk N M s) (ok' : RoomOk N M' s') {c : Nat} (hc : c < N) : opsQ (s.ops c) = opsQ (s'.ops c) := by
  refine ascQ_unique (List.pairwise_map.2 (ok.asc c hc)) (List.pairwise_map.2 (ok'.asc c hc)) ?_
  have e : opsQ (firsts M (s.has c) N) = opsQ (firsts M' (s'.has c) N) := by
    rw [firsts_op, firsts_op]
    exact flat_congr fun i hi => by
      have hi' := List.mem_range.1 hi
      rw [h.made i hi', h.has c hc i hi']
  exact (((ok.copy c hc).perm.map _).trans (by unfold opsQ at e; rw [e])).trans ((ok'.copy c hc).perm.map _).symm
theorem Sim.R {N : Nat} {M M' : Nat → List MOp} {s s' : RoomS} (h : Sim N M M' s s') (ok : RoomOk N M s) (ok' : RoomOk N M' s') {c : Nat} (hc : c < N) : ROf (s.ops c) = ROf (s'.ops c) := by
  have := h.ops ok ok' hc
  unfold ROf
  rw [show (fun o : MOp => popOf o.op) = popOf ∘ (·.op) from rfl, ← List.map_map, ← List.map_map]
  unfold opsQ at this
  rw [this]
end
theorem Sim.hasRow {N : Nat} {M M' : Nat → List MOp} {s s' : RoomS} (h : Sim N M M' s s') {c : Nat} (hc : c < N) : hasL N (s.has c) = hasL N (s'.has c) := by
  unfold hasL
  exact List.map_congr_left fun i hi => h.has c hc i (List.mem_range.1 hi)
section
theorem Sim.msTo {N : Nat} {M M' : Nat → List MOp} {s s' : RoomS} (h : Sim N M M' s s') {c d : Nat} (hc : c < N) (hd : d < N) (hcd : c ≠ d) {l l' : List Msg} (hl : All2 (MsgS (s.has d)) l l') : Sim N M M' (msTo s c d l) (Go.Proofs.YtnkpogjiiohapaaGreatDoor.msTo s' c d l') := by
  refine ⟨h.made, h.has, h.gt, h.early, fun a b ha hb hab => ?_⟩
  unfold Go.Proofs.YtnkpogjiiohapaaGreatDoor.msTo
  simp only
  by_cases e1 : a = c
  · subst e1
    by_cases e2 : b = d
    · subst e2
      rw [upd_same, upd_same, upd_same, upd_same]
      exact hl
    · rw [upd_same, upd_ne _ _ e2, upd_same, upd_ne _ _ e2]
      exact h.ms a b ha hb hab
  · rw [upd_ne _ _ e1, upd_ne _ _ e1]
    exact h.ms a b ha hb hab
theorem Sim.ask {N : Nat} {M M' : Nat → List MOp} {s s' : RoomS} (h : Sim N M M' s s') {c d : Nat} (hc : c < N) (hd : d < N) (hcd : c ≠ d) : Sim N M M' (askS N s c d) (askS N s' c d) := by
  have hm := h.ms c d hc hd hcd
  have hl := hm.len
  have e1 : askS N s c d = if (s.ms c d).length = 12 then s else Go.Proofs.YtnkpogjiiohapaaGreatDoor.msTo s c d (s.ms c d ++ [.inl (hasL N (s.has c))]) := rfl
  have e2 : askS N s' c d = if (s'.ms c d).length = 12 then s' else Go.Proofs.YtnkpogjiiohapaaGreatDoor.msTo s' c d (s'.ms c d ++ [.inl (hasL N (s'.has c))]) := rfl
  rw [e1, e2]
  by_cases h12 : (s.ms c d).length = 12
  · rw [if_pos h12, if_pos (by omega)]
    exact h
  · rw [if_neg h12, if_neg (by omega)]
    exact h.msTo hc hd hcd (All2.snoc (show MsgS (s.has d) (.inl _) (.inl _) from h.hasRow hc) hm)
theorem Sim.lose {N : Nat} {M M' : Nat → List MOp} {s s' : RoomS} (h : Sim N M M' s s') {c d : Nat} (hc : c < N) (hd : d < N) (hcd : c ≠ d) : Sim N M M' (loseS s c d) (loseS s' c d) := by
  have hm := h.ms c d hc hd hcd
  unfold loseS
  match hs : s.ms c d, hs' : s'.ms c d, hm with
  | [], [], _ => exact h
  | m :: l, m' :: l', hm => exact h.msTo hc hd hcd hm.2
theorem Sim.later {N : Nat} {M M' : Nat → List MOp} {s s' : RoomS} (h : Sim N M M' s s') {c d : Nat} (hc : c < N) (hd : d < N) (hcd : c ≠ d) : Sim N M M' (laterS s c d) (laterS s' c d) := by
  have hm := h.ms c d hc hd hcd
  unfold laterS
  match hs : s.ms c d, hs' : s'.ms c d, hm with
  | [], [], _ => exact h
  | m :: l, m' :: l', hm => exact h.msTo hc hd hcd (All2.snoc hm.1 hm.2)
theorem Sim.again {N : Nat} {M M' : Nat → List MOp} {s s' : RoomS} (h : Sim N M M' s s') {c d : Nat} (hc : c < N) (hd : d < N) (hcd : c ≠ d) : Sim N M M' (againS s c d) (againS s' c d) := by
  have hm := h.ms c d hc hd hcd
  unfold againS
  match hs : s.ms c d, hs' : s'.ms c d, hm with
  | [], [], _ => exact h
  | m :: l, m' :: l', hm =>
    have hl := All2.len hm.2
    by_cases h11 : l.length = 11
    · simp only
      rw [if_pos h11, if_pos (by omega)]
      exact h
    · simp only
      rw [if_neg h11, if_neg (by omega)]
      exact h.msTo hc hd hcd (show All2 _ ((m :: l) ++ [m]) ((m' :: l') ++ [m']) from All2.snoc hm.1 hm)
end

end Go.Proofs.YtnkpogjiiohapaaGreatDoor
