/- Our own text (GGhC, GDocA). -/
import Derived.Test.YtnkpogjiiohapaaGreatDoorA28
set_option linter.unusedSimpArgs false
set_option linter.unusedVariables false

/-! GGhC: Plain: the room: what copies have made, what they have, what waits on the links. -/
namespace Go.Proofs.YtnkpogjiiohapaaGreatDoor

def MsgOk (N : Nat) (M : Nat → List MOp) : Msg → Prop
  | .inl l => l.length = N ∧ ∀ i, i < N → 0 ≤ rowOf l i ∧ rowOf l i ≤ (M i).length
  | .inr xs => ∀ y ∈ xs, isMade N M y
/-- How many operations there are. -/
def tot (M : Nat → List MOp) : Nat → Nat
  | 0 => 0
  | n + 1 => tot M n + (M n).length
/-- What copy d had when it told l: no more than it has; and what it made behind that has greater counters than all that it had then. -/
def QOk (N : Nat) (M : Nat → List MOp) (has : Nat → Int) (d : Nat) (l : Nat → Int) : Prop := (∀ i, i < N → 0 ≤ l i ∧ l i ≤ has i) ∧ ∀ y ∈ M d, l d < y.op.nth → ∀ e, e < N → ∀ g ∈ M e, g.op.nth ≤ l e → g.op.id.1 < y.op.id.1
def MsgQ (N : Nat) (M : Nat → List MOp) (has : Nat → Int) (d : Nat) : Msg → Prop
  | .inl l => QOk N M has d (rowOf l)
  | .inr _ => True
theorem QOk.more {N : Nat} {M : Nat → List MOp} {has has' : Nat → Int} {d : Nat} {l : Nat → Int} (h : QOk N M has d l) (hh : ∀ i, i < N → has i ≤ has' i) : QOk N M has' d l := ⟨fun i hi => ⟨(h.1 i hi).1, Int.le_trans (h.1 i hi).2 (hh i hi)⟩, h.2⟩
theorem MsgQ.more {N : Nat} {M : Nat → List MOp} {has has' : Nat → Int} {d : Nat} (hh : ∀ i, i < N → has i ≤ has' i) : ∀ {m : Msg}, MsgQ N M has d m → MsgQ N M has' d m
  | .inl _, h => QOk.more h hh
  | .inr _, _ => trivial
theorem QOk.max {N : Nat} {M : Nat → List MOp} {has : Nat → Int} {d : Nat} {l m : Nat → Int} (h : QOk N M has d l) (k : QOk N M has d m) : QOk N M has d fun i => Max.max (l i) (m i) := by
  refine ⟨fun i hi => ?_, fun y hy hl e he g hg hge => ?_⟩
  · have := h.1 i hi
    have := k.1 i hi
    simp only
    omega
  · simp only at hl hge
    by_cases hx : g.op.nth ≤ l e
    · exact h.2 y hy (by omega) e he g hg hx
    · exact k.2 y hy (by omega) e he g hg (by omega)
/-- THE ROOM IS IN ORDER. -/
structure RoomOk (N : Nat) (M : Nat → List MOp) (s : RoomS) : Prop where
  made : MadeOk N M
  copy : ∀ c, c < N → CopyOk N M (s.gt c) (s.has c) (s.ops c) (s.early c)
  own : ∀ c, c < N → s.has c c = (M c).length
  asc : ∀ c, c < N → AscO (s.ops c)
  gtU : ∀ c, c < N → 0 ≤ s.gt c ∧ ∀ g : Int, (∀ e, e < N → ∀ y ∈ M e, y.op.id.1 ≤ g) → 0 ≤ g → s.gt c ≤ g
  cnt : ∀ e, e < N → ∀ y ∈ M e, y.op.id.1 ≤ (tot M N : Int)
  msgs : ∀ c d, c < N → d < N → c ≠ d → ∀ m ∈ s.ms c d, MsgOk N M m
  spl : ∀ c, c < N → s.ops c = s.gone c ++ s.kept c
  qok : ∀ c d, c < N → d < N → c ≠ d → ∀ m ∈ s.ms c d, MsgQ N M (s.has c) c m
  nok : ∀ c d, c < N → d < N → c ≠ d → QOk N M (s.has d) d (s.nw c d)
  gnl : ∀ c, c < N → ∀ g ∈ s.gone c, ∀ d, d < N → g.op.nth ≤ s.has d g.op.id.2.toNat
  gnf : ∀ c, c < N → ∀ g ∈ s.gone c, ∀ d, d < N → ∀ y ∈ M d, s.has c d < y.op.nth → g.op.id.1 < y.op.id.1

theorem RoomOk.ms {N : Nat} {M : Nat → List MOp} {s : RoomS} (h : RoomOk N M s) {c d : Nat} {l : List Msg} (hl : ∀ m ∈ l, MsgOk N M m) (hq : ∀ m ∈ l, MsgQ N M (s.has c) c m) : RoomOk N M (msTo s c d l) := by
  refine ⟨h.made, h.copy, h.own, h.asc, h.gtU, h.cnt, fun a b ha hb hab m hm => ?_, h.spl, fun a b ha hb hab m hm => ?_, h.nok, h.gnl, h.gnf⟩
  all_goals (unfold msTo at hm; simp only at hm)
  rotate_left
  · by_cases e1 : a = c
    · subst e1
      by_cases e2 : b = d
      · subst e2
        rw [upd_same, upd_same] at hm
        exact hq m hm
      · rw [upd_same, upd_ne _ _ e2] at hm
        exact h.qok a b ha hb hab m hm
    · rw [upd_ne _ _ e1] at hm
      exact h.qok a b ha hb hab m hm
  by_cases e1 : a = c
  · subst e1
    by_cases e2 : b = d
    · subst e2
      rw [upd_same, upd_same] at hm
      exact hl m hm
    · rw [upd_same, upd_ne _ _ e2] at hm
      exact h.msgs a b ha hb hab m hm
  · rw [upd_ne _ _ e1] at hm
    exact h.msgs a b ha hb hab m hm
theorem rowOf_has {N : Nat} {has : Nat → Int} {i : Nat} (hi : i < N) : rowOf (hasL N has) i = has i := by simp [rowOf, hasL, hi]
theorem RoomOk.ask {N : Nat} {M : Nat → List MOp} {s : RoomS} (h : RoomOk N M s) {c d : Nat} (hc : c < N) (hd : d < N) (hcd : c ≠ d) : RoomOk N M (askS N s c d) := by
  unfold askS
  split
  · exact h
  · refine h.ms (fun m hm => ?_) (fun m hm => ?_)
    · rcases List.mem_append.1 hm with hm | hm
      · exact h.msgs c d hc hd hcd m hm
      · obtain rfl := List.mem_singleton.1 hm
        refine ⟨hasL_len _ _, fun i hi => ?_⟩
        rw [rowOf_has hi]
        exact (h.copy c hc).hasL i hi
    · rcases List.mem_append.1 hm with hm | hm
      · exact h.qok c d hc hd hcd m hm
      · obtain rfl := List.mem_singleton.1 hm
        refine ⟨fun i hi => ?_, fun y hy hl => ?_⟩
        · rw [rowOf_has hi]
          exact ⟨((h.copy c hc).hasL i hi).1, Int.le_refl _⟩
        · exfalso
          rw [rowOf_has hc, h.own c hc] at hl
          obtain ⟨i, hi, _, _, a2, _⟩ := h.made.at hc hy
          omega
theorem RoomOk.lose {N : Nat} {M : Nat → List MOp} {s : RoomS} (h : RoomOk N M s) {c d : Nat} (hc : c < N) (hd : d < N) (hcd : c ≠ d) : RoomOk N M (loseS s c d) := by
  have hm := h.msgs c d hc hd hcd
  have hq := h.qok c d hc hd hcd
  unfold loseS
  split
  · exact h
  · rename_i m l e
    rw [e] at hm hq
    exact h.ms (fun m' h' => hm m' (List.mem_cons_of_mem _ h')) (fun m' h' => hq m' (List.mem_cons_of_mem _ h'))
theorem RoomOk.later {N : Nat} {M : Nat → List MOp} {s : RoomS} (h : RoomOk N M s) {c d : Nat} (hc : c < N) (hd : d < N) (hcd : c ≠ d) : RoomOk N M (laterS s c d) := by
  have hm := h.msgs c d hc hd hcd
  have hq := h.qok c d hc hd hcd
  unfold laterS
  split
  · exact h
  · rename_i m l e
    rw [e] at hm hq
    have key : ∀ m', m' ∈ l ++ [m] → m' ∈ m :: l := fun m' h' => by
      rcases List.mem_append.1 h' with h' | h'
      · exact List.mem_cons_of_mem _ h'
      · obtain rfl := List.mem_singleton.1 h'; exact List.mem_cons_self
    exact h.ms (fun m' h' => hm m' (key m' h')) (fun m' h' => hq m' (key m' h'))
theorem RoomOk.again {N : Nat} {M : Nat → List MOp} {s : RoomS} (h : RoomOk N M s) {c d : Nat} (hc : c < N) (hd : d < N) (hcd : c ≠ d) : RoomOk N M (againS s c d) := by
  have hm := h.msgs c d hc hd hcd
  have hq := h.qok c d hc hd hcd
  unfold againS
  split
  · exact h
  · rename_i m l e
    rw [e] at hm hq
    split
    · exact h
    · have key : ∀ m', m' ∈ m :: l ++ [m] → m' ∈ m :: l := fun m' h' => by
        rcases List.mem_append.1 h' with h' | h'
        · exact h'
        · obtain rfl := List.mem_singleton.1 h'; exact List.mem_cons_self
      exact h.ms (fun m' h' => hm m' (key m' h')) (fun m' h' => hq m' (key m' h'))

theorem sentM_mem {m : Msg} : ∀ {bs ms : List Msg}, m ∈ sentM ms bs → m ∈ ms ∨ m ∈ bs
  | [], _, h => .inl h
  | b :: bs, ms, h => by
    unfold sentM at h
    rcases sentM_mem h with h | h
    · split at h
      · exact .inl h
      · rcases List.mem_append.1 h with h | h
        · exact .inl h
        · exact .inr (by rw [List.mem_singleton.1 h]; exact List.mem_cons_self)
    · exact .inr (List.mem_cons_of_mem _ h)
/-- WHAT A DELIVERY MAKES. -/
def DeliverTo (N : Nat) (s : RoomS) (c d : Nat) (s' : RoomS) : Prop := match s.ms c d with
  | [] => s' = s
  | .inl l :: ms => ∃ ls, ls.Perm ((s.kept d).filter (isBey (rowOf l))) ∧ AscP ls ∧ s' = msTo (mindS (msTo s c d ms) d c (rowOf l)) d c (sentM ((msTo s c d ms).ms d c) ((batsOf ls (rowOf l) (s.has d) N).map (batOf ls)))
  | .inr xs :: ms => ∃ early', CutOf (waitS s d xs) (goneTo (waitS s d xs) (s.has d) N) early' ∧ s' = hearS N (msTo s c d ms) d xs early'

theorem RoomOk.wait {N : Nat} {M : Nat → List MOp} {s : RoomS} (h : RoomOk N M s) {d : Nat} (hd : d < N) {xs : List MOp} (hx : ∀ y ∈ xs, isMade N M y) : EarlyOk N M (waitS s d xs) ∧ ((waitS s d xs).map (·.1)).Nodup := ⟨EarlyOk.all (h.copy d hd).earlyL hx, early_keys (h.copy d hd).keysL⟩
theorem ins_gone {x : MOp} : ∀ {g l : List MOp}, (∀ y ∈ g, ltI y.op.id x.op.id = true) → insO x (g ++ l) = g ++ insO x l
  | [], _, _ => rfl
  | y :: g, l, h => by
    have e : insO x (y :: (g ++ l)) = y :: insO x (g ++ l) := if_pos (h y List.mem_cons_self)
    show insO x (y :: (g ++ l)) = y :: (g ++ insO x l)
    rw [e, ins_gone fun z hz => h z (List.mem_cons_of_mem _ hz)]
theorem insAll_gone {g : List MOp} : ∀ {xs l : List MOp}, (∀ x ∈ xs, ∀ y ∈ g, ltI y.op.id x.op.id = true) → insAll (g ++ l) xs = g ++ insAll l xs
  | [], _, _ => rfl
  | x :: xs, l, h => by
    show insAll (insO x (g ++ l)) xs = g ++ insAll (insO x l) xs
    rw [ins_gone (h x List.mem_cons_self), insAll_gone fun z hz => h z (List.mem_cons_of_mem _ hz)]
theorem ready_beyond {N : Nat} {M : Nat → List MOp} {m : List (PId × MOp)} {has : Nat → Int} {n : Nat} {y : MOp} (hE : EarlyOk N M m) (hy : y ∈ readyTo m has n) : has y.op.id.2.toNat < y.op.nth := by
  unfold readyTo at hy
  obtain ⟨i, _, hx⟩ := List.mem_flatMap.1 hy
  obtain ⟨j, hj, e⟩ := List.mem_iff_getElem.1 hx
  have hl := run_get m (i : Int) 61 (has i) j hj
  rw [e] at hl
  have h2 := (hE _ (look_mem hl)).2
  unfold plOf at h2
  injection h2 with h3 h4
  rw [← h3, ← h4, Int.toNat_natCast]
  omega
/-- What is ready is behind what is forgotten. -/
theorem RoomOk.ahead {N : Nat} {M : Nat → List MOp} {s : RoomS} (h : RoomOk N M s) {d : Nat} (hd : d < N) {xs : List MOp} (hx : ∀ y ∈ xs, isMade N M y) : insAll (s.ops d) (rdyS N s d xs) = s.gone d ++ insAll (s.kept d) (rdyS N s d xs) := by
  obtain ⟨hE, _⟩ := h.wait hd hx
  rw [h.spl d hd]
  refine insAll_gone fun y hy g hg => ?_
  have hyb := ready_beyond hE hy
  obtain ⟨p, hp, e⟩ := ready_mem hy
  have hm := (hE p hp).1
  rw [e] at hm
  obtain ⟨e', he', hm'⟩ := hm
  obtain ⟨i, hi, _, a1, a2, _⟩ := h.made.at he' hm'
  have := h.gnf d hd g hg e' he' y hm' (by rw [show y.op.id.2.toNat = e' by omega] at hyb; exact hyb)
  exact (ltI_iff _ _).2 (.inl this)
theorem RoomOk.hear {N : Nat} {M : Nat → List MOp} {s : RoomS} (h : RoomOk N M s) {d : Nat} (hd : d < N) {xs : List MOp} (hx : ∀ y ∈ xs, isMade N M y) {early' : List (PId × MOp)} (hC : CutOf (waitS s d xs) (goneTo (waitS s d xs) (s.has d) N) early') : RoomOk N M (hearS N s d xs early') ∧ ((rdyS N s d xs ++ s.ops d).map fun o => o.op.id).Nodup := by
  obtain ⟨hE, hn⟩ := h.wait hd hx
  have hc' := (h.copy d hd).heard h.made hE hC.sub hC.nd
  have hnd : ((rdyS N s d xs ++ s.ops d).map fun o => o.op.id).Nodup := ((insAll_perm (rdyS N s d xs) (s.ops d)).map _).nodup_iff.1 (hc'.ndId h.made)
  have hge : ∀ c i, c < N → i < N → s.has c i ≤ (hearS N s d xs early').has c i := fun c i hc hi => by
    unfold hearS copyS
    by_cases e : c = d
    · subst e
      simp only [upd_same]
      have h1 := heard_has (has := s.has c) hE N (Nat.le_refl _)
      show _ ≤ hasAll (s.has c) (rdyS N s c xs) i
      unfold rdyS
      rw [h1]
      exact (heard_in h.made (h.copy c hc) hE hi).2.2
    · simp only [upd_ne _ _ e]
      exact Int.le_refl _
  refine ⟨⟨h.made, fun c hc => ?_, fun c hc => ?_, fun c hc => ?_, fun c hc => ?_, h.cnt, h.msgs, fun c hc => ?_, fun a b ha hb hab m hm => (h.qok a b ha hb hab m hm).more fun i hi => hge a i ha hi, fun a b ha hb hab => (h.nok a b ha hb hab).more fun i hi => hge b i hb hi, fun c hc g hg e he => ?_, fun c hc g hg e he y hy hl => h.gnf c hc g hg e he y hy (Int.lt_of_le_of_lt (hge c e hc he) hl)⟩, hnd⟩
  · unfold hearS copyS
    by_cases e : c = d
    · subst e
      simp only [upd_same]
      exact hc'
    · simp only [upd_ne _ _ e]
      exact h.copy c hc
  · unfold hearS copyS
    by_cases e : c = d
    · subst e
      simp only [upd_same]
      have h1 := heard_has (has := s.has c) hE N (Nat.le_refl _)
      show hasAll (s.has c) (rdyS N s c xs) c = _
      unfold rdyS
      rw [h1]
      have h2 := heard_in h.made (h.copy c hc) hE hc
      have h3 := h.own c hc
      omega
    · simp only [upd_ne _ _ e]
      exact h.own c hc
  · unfold hearS copyS
    by_cases e : c = d
    · subst e
      simp only [upd_same]
      exact insAll_asc _ _ (h.asc c hc) hnd
    · simp only [upd_ne _ _ e]
      exact h.asc c hc
  · unfold hearS copyS
    by_cases e : c = d
    · subst e
      simp only [upd_same]
      obtain ⟨g0, g1⟩ := h.gtU c hc
      refine ⟨Int.le_trans g0 (gtAll_le _ _).1, fun g hg h0 => gtAll_bound _ _ (g1 g hg h0) fun y hy => ?_⟩
      obtain ⟨p, hp, rfl⟩ := ready_mem hy
      obtain ⟨e, he, hm⟩ := (hE p hp).1
      exact hg e he _ hm
    · simp only [upd_ne _ _ e]
      exact h.gtU c hc
  · unfold hearS copyS
    by_cases e : c = d
    · subst e
      simp only [upd_same]
      exact h.ahead hc hx
    · simp only [upd_ne _ _ e]
      exact h.spl c hc
  · have hgm : g ∈ s.ops c := by rw [h.spl c hc]; exact List.mem_append_left _ hg
    have hcp := (h.copy c hc).copy h.made hgm
    exact Int.le_trans (h.gnl c hc g hg e he) (hge e _ he (by omega))
theorem RoomOk.fin {N : Nat} {M : Nat → List MOp} {s : RoomS} (h : RoomOk N M s) {d : Nat} (hd : d < N) {xs : List MOp} (hx : ∀ y ∈ xs, isMade N M y) : ((rdyS N s d xs ++ s.kept d).map fun o => o.op.id).Nodup ∧ (s.kept d).length + (rdyS N s d xs).length ≤ N * 60 := by
  obtain ⟨hE, hn⟩ := h.wait hd hx
  have hc' := (h.copy d hd).heard h.made hE (m' := []) (fun p (hp : p ∈ []) => absurd hp List.not_mem_nil) List.nodup_nil
  have hsub : (s.kept d).Sublist (s.ops d) := by rw [h.spl d hd]; exact List.sublist_append_right _ _
  refine ⟨(((insAll_perm (rdyS N s d xs) (s.ops d)).map _).nodup_iff.1 (hc'.ndId h.made)).sublist (((List.Sublist.refl _).append hsub).map _), ?_⟩
  have h1 := hc'.len h.made
  have h2 := hsub.length_le
  rw [insAll_len] at h1
  have h3 : (rdyS N s d xs).length = (readyTo (waitS s d xs) (s.has d) N).length := rfl
  omega
theorem RoomOk.kept_sub {N : Nat} {M : Nat → List MOp} {s : RoomS} (h : RoomOk N M s) {d : Nat} (hd : d < N) : (s.kept d).Sublist (s.ops d) := by rw [h.spl d hd]; exact List.sublist_append_right _ _
/-- What another one had is kept in mind. -/
theorem RoomOk.mind {N : Nat} {M : Nat → List MOp} {s : RoomS} (h : RoomOk N M s) {d c : Nat} {known : Nat → Int} (hq : QOk N M (s.has c) c known) : RoomOk N M (mindS s d c known) := by
  refine ⟨h.made, h.copy, h.own, h.asc, h.gtU, h.cnt, h.msgs, h.spl, h.qok, fun a b ha hb hab => ?_, h.gnl, h.gnf⟩
  show QOk N M (s.has b) b (upd s.nw d (upd (s.nw d) c fun i => max (s.nw d c i) (known i)) a b)
  by_cases e1 : a = d
  · subst e1
    by_cases e2 : b = c
    · subst e2
      rw [upd_same, upd_same]
      exact (h.nok a b ha hb hab).max hq
    · rw [upd_same, upd_ne _ _ e2]
      exact h.nok a b ha hb hab
  · rw [upd_ne _ _ e1]
    exact h.nok a b ha hb hab
theorem RoomOk.deliver {N : Nat} {M : Nat → List MOp} {s s' : RoomS} (h : RoomOk N M s) {c d : Nat} (hc : c < N) (hd : d < N) (hcd : c ≠ d) (hs : DeliverTo N s c d s') : RoomOk N M s' := by
  have hm := h.msgs c d hc hd hcd
  have hq := h.qok c d hc hd hcd
  unfold DeliverTo at hs
  cases e : s.ms c d with
  | nil => rw [e] at hs; rw [hs]; exact h
  | cons m ms =>
    rw [e] at hs hm hq
    have h1 : RoomOk N M (msTo s c d ms) := h.ms (fun m' h' => hm m' (List.mem_cons_of_mem _ h')) (fun m' h' => hq m' (List.mem_cons_of_mem _ h'))
    cases m with
    | inl l =>
      obtain ⟨ls, hp, ha, rfl⟩ := hs
      have h2 : RoomOk N M (mindS (msTo s c d ms) d c (rowOf l)) := h1.mind (hq _ List.mem_cons_self)
      refine h2.ms (fun m' h' => ?_) (fun m' h' => ?_)
      · rcases sentM_mem h' with h' | h'
        · exact h1.msgs d c hd hc (Ne.symm hcd) m' h'
        · obtain ⟨b, hb, rfl⟩ := List.mem_map.1 h'
          intro y hy
          have hy' := List.mem_of_mem_drop (List.mem_of_mem_take hy)
          exact (h.copy d hd).made ((h.kept_sub hd).subset (List.mem_filter.1 (hp.mem_iff.1 hy')).1)
      · rcases sentM_mem h' with h' | h'
        · exact h1.qok d c hd hc (Ne.symm hcd) m' h'
        · obtain ⟨b, hb, rfl⟩ := List.mem_map.1 h'
          trivial
    | inr xs =>
      obtain ⟨early', hC, rfl⟩ := hs
      exact (h1.hear hd (hm _ List.mem_cons_self) hC).1

end Go.Proofs.YtnkpogjiiohapaaGreatDoor

/-! GDocA: Plain: the document that a copy's operations make. -/
namespace Go.Proofs.YtnkpogjiiohapaaGreatDoor

/-- An operation of the program's as a plain one. -/
def popOf (o : QOp) : POp := match o.chg with
  | .inl l => ⟨o.id, 1, l, (0, 0), ⟨#[]⟩, (0, 0), (0, 0), 0, (0, 0), []⟩
  | .inr (.inl (x, b)) => ⟨o.id, 2, false, x, ⟨#[]⟩, (0, 0), b, 0, (0, 0), []⟩
  | .inr (.inr (.inl (ob, key, x, val, gs))) => ⟨o.id, 3, false, ob, key, x, (0, 0), val.1, val.2, gs⟩
  | .inr (.inr (.inr (ob, key, x, gs))) => ⟨o.id, 4, false, ob, key, x, (0, 0), 0, (0, 0), gs⟩
theorem pop_id (o : QOp) : (popOf o).id = o.id := by
  unfold popOf
  split <;> rfl
theorem qop_pop (o : QOp) : qopOf (popOf o) o.nth = o := by
  obtain ⟨id, nth, chg⟩ := o
  rcases chg with l | ⟨x, b⟩ | ⟨ob, key, x, val, gs⟩ | ⟨ob, key, x, gs⟩ <;> simp [popOf, qopOf, chgOf]
def ROf (ops : List MOp) : List PObj := (ops.map fun o => popOf o.op).foldl doesP rootP

theorem InR.root : InR rootP [] := by
  have key : ∀ x o, objOf rootP x = some o → x = (0, 0) ∧ o.ss = [] := fun x o h => by
    have hx := objOf_id h
    unfold objOf rootP at h
    simp only [List.find?_cons, List.find?_nil] at h
    split at h
    · cases h
      exact ⟨hx.symm, rfl⟩
    · cases h
  refine ⟨fun x o h => .inl (key x o h).1, fun x o h s hs => ?_, fun x o h s hs => ?_⟩
  · rw [(key x o h).2] at hs; cases hs
  · rw [(key x o h).2] at hs; cases hs
theorem InR.all : ∀ (S : List POp) (R : List PObj) (I : List PId), InR R I → InR (S.foldl doesP R) ((S.map POp.id).reverse ++ I)
  | [], R, I, h => h
  | p :: S, R, I, h => by
    have := InR.all S (doesP R p) (p.id :: I) (h.does p)
    simpa using this

/-- What a change may say, behind those that its copy made. -/
def ChgOk (prev : List MOp) : QChg → Prop
  | .inr (.inr (.inl (_, key, x, val, _))) => (key ≠ ⟨#[]⟩ → x = (0, 0)) ∧ (val.2 = (0, 0) ∨ ∃ y ∈ prev, y.op.id = val.2 ∧ ∃ l, y.op.chg = .inl l)
  | .inr (.inr (.inr (_, key, x, _))) => key ≠ ⟨#[]⟩ → x = (0, 0)
  | _ => True
def MadeDoc (N : Nat) (M : Nat → List MOp) : Prop := ∀ c, c < N → ∀ i (hi : i < (M c).length), ChgOk ((M c).take i) (M c)[i].op.chg

theorem opsOk_from {N : Nat} {M : Nat → List MOp} {gt : Int} {has : Nat → Int} {ops : List MOp} {early : List (PId × MOp)} (hM : MadeOk N M) (hD : MadeDoc N M) (h : CopyOk N M gt has ops early) (ha : AscO ops) : ∀ (S pre : List MOp) (I Mk : List PId), pre ++ S = ops → (∀ z ∈ I, ∃ y ∈ pre, y.op.id = z) → (0, 0) ∈ Mk → (∀ y ∈ pre, (∃ l, y.op.chg = .inl l) → y.op.id ∈ Mk) → OpsOk I Mk (S.map fun o => popOf o.op)
  | [], _, _, _, _, _, _, _ => trivial
  | o :: S, pre, I, Mk, he, hI, h0, hMk => by
    have hoo : o ∈ ops := by rw [← he]; simp
    obtain ⟨c, hc, hoc⟩ := h.made hoo
    obtain ⟨i, hi, e, a1, a2, a3⟩ := hM.at hc hoc
    have hchg := hD c hc i hi
    rw [← e] at hchg
    have hasc := ha
    rw [← he] at hasc
    obtain ⟨_, hos, hcross⟩ := List.pairwise_append.1 hasc
    have hpre : ∀ y ∈ pre, ltI y.op.id o.op.id = true := fun y hy => hcross y hy o List.mem_cons_self
    have hpost : ∀ y ∈ S, ltI o.op.id y.op.id = true := (List.pairwise_cons.1 hos).1
    have hfind : ∀ y ∈ (M c).take i, y ∈ pre := fun y hy => by
      obtain ⟨j, hj, ej⟩ := List.mem_iff_getElem.1 hy
      rw [List.length_take] at hj
      rw [List.getElem_take] at ej
      have hjm : j < (M c).length := by omega
      obtain ⟨b1, b2, b3⟩ := hM.id c hc j hjm
      rw [ej] at b1 b2 b3
      have hym : isMade N M y := ⟨c, hc, List.mem_of_mem_take hy⟩
      have hn := (h.mem hM (h.made hoo)).1 hoo
      have hcc : o.op.id.2.toNat = c := by omega
      have hcc' : y.op.id.2.toNat = c := by omega
      rw [hcc] at hn
      have hyo : y ∈ ops := (h.mem hM hym).2 (by rw [hcc']; omega)
      have hlt : y.op.id.1 < o.op.id.1 := by
        have := List.pairwise_iff_getElem.1 (hM.asc c hc) j i hjm hi (by omega)
        rw [ej, ← e] at this
        exact this
      have hl : ltI y.op.id o.op.id = true := (ltI_iff _ _).2 (.inl hlt)
      rw [← he] at hyo
      rcases List.mem_append.1 hyo with h1 | h1
      · exact h1
      · rcases List.mem_cons.1 h1 with rfl | h1
        · rw [ltI_irr] at hl; cases hl
        · have := ltI_trans hl (hpost y h1)
          rw [ltI_irr] at this; cases this
    show OpsOk I Mk (popOf o.op :: S.map fun o => popOf o.op)
    have hrec := opsOk_from hM hD h ha S (pre ++ [o]) ((popOf o.op).id :: I) (if (popOf o.op).kind = 1 then (popOf o.op).id :: Mk else Mk) (by rw [List.append_assoc]; exact he) (fun z hz => by
      rcases List.mem_cons.1 hz with rfl | hz
      · exact ⟨o, by simp, (pop_id o.op).symm⟩
      · obtain ⟨y, hy, e'⟩ := hI z hz
        exact ⟨y, List.mem_append_left _ hy, e'⟩) (by split <;> simp [h0]) (fun y hy hl => by
      rcases List.mem_append.1 hy with hy | hy
      · split
        · exact List.mem_cons_of_mem _ (hMk y hy hl)
        · exact hMk y hy hl
      · obtain rfl := List.mem_singleton.1 hy
        obtain ⟨l, hl⟩ := hl
        have hk : (popOf y.op).kind = 1 := by unfold popOf; rw [hl]
        rw [if_pos hk, pop_id]
        exact List.mem_cons_self)
    refine ⟨?_, ?_, ?_, ?_, ?_, hrec⟩
    · unfold popOf
      split <;> simp
    · rw [pop_id]
      intro e0
      rw [e0] at a3
      simp at a3
    · rw [pop_id]
      intro hin
      obtain ⟨y, hy, ey⟩ := hI _ hin
      have := hpre y hy
      rw [ey, ltI_irr] at this
      cases this
    · intro hk
      unfold popOf at hk ⊢
      revert hchg hk
      rcases o.op.chg with l | ⟨x, b⟩ | ⟨ob, key, x, val, gs⟩ | ⟨ob, key, x, gs⟩
      · intro _ hk; simp at hk
      · intro _ hk; simp at hk
      · intro hchg _ hkey; exact hchg.1 hkey
      · intro hchg _ hkey; exact hchg hkey
    · intro hk
      unfold popOf at hk ⊢
      revert hchg hk
      rcases o.op.chg with l | ⟨x, b⟩ | ⟨ob, key, x, val, gs⟩ | ⟨ob, key, x, gs⟩
      · intro _ hk; simp at hk
      · intro _ hk; simp at hk
      · intro hchg _
        rcases hchg.2 with e0 | ⟨y, hy, ey, hl⟩
        · simp only [e0]; exact h0
        · simp only
          rw [← ey]
          exact hMk y (hfind y hy) hl
      · intro _ hk; simp at hk
section
theorem opsOk {N : Nat} {M : Nat → List MOp} {gt : Int} {has : Nat → Int} {ops : List MOp} {early : List (PId × MOp)} (hM : MadeOk N M) (hD : MadeDoc N M) (h : CopyOk N M gt has ops early) (ha : AscO ops) : OpsOk [] [(0, 0)] (ops.map fun o => popOf o.op) := opsOk_from hM hD h ha ops [] [] [(0, 0)] rfl (fun _ hz => by cases hz) (by simp) (fun _ hy => by cases hy)
end

/-- THE DOCUMENT OF A COPY. -/
theorem doc_agree {ops : List MOp} {D0 D : QDoc} (h0 : Agree rootP D0) (hn : QNd D0) (hok : OpsOk [] [(0, 0)] (ops.map fun o => popOf o.op)) (hd : DoTo D0 (ops.map (·.op)) D) : Agree (ROf ops) D ∧ QNd D ∧ InR (ROf ops) ((ops.map fun o => o.op.id).reverse) := by
  have hlist : (List.range (ops.map fun o => popOf o.op).length).map (fun i => qopOf ((ops.map fun o => popOf o.op).getD i ⟨(0, 0), 0, false, (0, 0), ⟨#[]⟩, (0, 0), (0, 0), 0, (0, 0), []⟩) ((ops.map fun o => o.op.nth).getD i 0)) = ops.map (·.op) := by
    apply List.ext_getElem
    · simp
    · intro i h1 h2
      have hi : i < ops.length := by simpa using h2
      simp only [List.getElem_map, List.getElem_range]
      rw [show (ops.map fun o => popOf o.op).getD i ⟨(0, 0), 0, false, (0, 0), ⟨#[]⟩, (0, 0), (0, 0), 0, (0, 0), []⟩ = popOf ops[i].op by simp [List.getD, hi], show (ops.map fun o => o.op.nth).getD i 0 = ops[i].op.nth by simp [List.getD, hi]]
      exact qop_pop _
  obtain ⟨a, b⟩ := Agree.all (ops.map fun o => popOf o.op) (fun i => (ops.map fun o => o.op.nth).getD i 0) rootP D0 D [] [(0, 0)] h0 hn InR.root (fun x hx => by
    obtain rfl := List.mem_singleton.1 hx
    exact ⟨⟨(0, 0), false, []⟩, rfl⟩) hok (by rw [hlist]; exact hd)
  refine ⟨a, b, ?_⟩
  have := InR.all (ops.map fun o => popOf o.op) rootP [] InR.root
  rw [List.append_nil, List.map_map] at this
  have e : (POp.id ∘ fun o : MOp => popOf o.op) = fun o => o.op.id := by
    funext o
    exact pop_id o.op
  rw [e] at this
  exact this

end Go.Proofs.YtnkpogjiiohapaaGreatDoor
