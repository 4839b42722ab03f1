/- Our own text (GGhC, GDocA, GRepY). -/
import Derived.Test.YtnkpogjiiohapaaGreatDoorA28
import Derived.Test.YtnkpogjiiohapaaGreatDoorA19
import Derived.Test.YtnkpogjiiohapaaGreatDoorA20
set_option linter.unusedSimpArgs false
set_option linter.unusedVariables false

/-! GGhC: Plain: the room: what copies have made, what they have, what waits on the links. -/
namespace Go.Proofs.YtnkpogjiiohapaaGreatDoor

def MsgOk (N : Nat) (M : Nat → List MOp) : Msg → Prop
  | .inl l => l.length = N ∧ ∀ i, i < N → 0 ≤ rowOf l i ∧ rowOf l i ≤ (M i).length
  | .inr xs => ∀ y ∈ xs, isMade N M y
/-- How many operations there are. -/
def tot (M : Nat → List MOp) : Nat → Nat
  | 0 => 0
  | n + 1 => tot M n + (M n).length
/-- THE ROOM IS IN ORDER. -/
structure RoomOk (N : Nat) (M : Nat → List MOp) (s : RoomS) : Prop where
  made : MadeOk N M
  copy : ∀ c, c < N → CopyOk N M (s.gt c) (s.has c) (s.ops c) (s.early c)
  own : ∀ c, c < N → s.has c c = (M c).length
  asc : ∀ c, c < N → AscO (s.ops c)
  gtU : ∀ c, c < N → 0 ≤ s.gt c ∧ ∀ g : Int, (∀ e, e < N → ∀ y ∈ M e, y.op.id.1 ≤ g) → 0 ≤ g → s.gt c ≤ g
  cnt : ∀ e, e < N → ∀ y ∈ M e, y.op.id.1 ≤ (tot M N : Int)
  msgs : ∀ c d, c < N → d < N → c ≠ d → ∀ m ∈ s.ms c d, MsgOk N M m

theorem RoomOk.ms {N : Nat} {M : Nat → List MOp} {s : RoomS} (h : RoomOk N M s) {c d : Nat} {l : List Msg} (hl : ∀ m ∈ l, MsgOk N M m) : RoomOk N M (msTo s c d l) := by
  refine ⟨h.made, h.copy, h.own, h.asc, h.gtU, h.cnt, fun a b ha hb hab m hm => ?_⟩
  unfold msTo at hm
  simp only at hm
  by_cases e1 : a = c
  · subst e1
    by_cases e2 : b = d
    · subst e2
      rw [upd_same, upd_same] at hm
      exact hl m hm
    · rw [upd_same, upd_ne _ _ e2] at hm
      exact h.msgs a b ha hb hab m hm
  · rw [upd_ne _ _ e1] at hm
    exact h.msgs a b ha hb hab m hm
theorem rowOf_has {N : Nat} {has : Nat → Int} {i : Nat} (hi : i < N) : rowOf (hasL N has) i = has i := by simp [rowOf, hasL, hi]
theorem RoomOk.ask {N : Nat} {M : Nat → List MOp} {s : RoomS} (h : RoomOk N M s) {c d : Nat} (hc : c < N) (hd : d < N) (hcd : c ≠ d) : RoomOk N M (askS N s c d) := by
  unfold askS
  split
  · exact h
  · refine h.ms fun m hm => ?_
    rcases List.mem_append.1 hm with hm | hm
    · exact h.msgs c d hc hd hcd m hm
    · obtain rfl := List.mem_singleton.1 hm
      refine ⟨hasL_len _ _, fun i hi => ?_⟩
      rw [rowOf_has hi]
      exact (h.copy c hc).hasL i hi
theorem RoomOk.lose {N : Nat} {M : Nat → List MOp} {s : RoomS} (h : RoomOk N M s) {c d : Nat} (hc : c < N) (hd : d < N) (hcd : c ≠ d) : RoomOk N M (loseS s c d) := by
  have hm := h.msgs c d hc hd hcd
  unfold loseS
  split
  · exact h
  · rename_i m l e
    rw [e] at hm
    exact h.ms fun m' h' => hm m' (List.mem_cons_of_mem _ h')
theorem RoomOk.later {N : Nat} {M : Nat → List MOp} {s : RoomS} (h : RoomOk N M s) {c d : Nat} (hc : c < N) (hd : d < N) (hcd : c ≠ d) : RoomOk N M (laterS s c d) := by
  have hm := h.msgs c d hc hd hcd
  unfold laterS
  split
  · exact h
  · rename_i m l e
    rw [e] at hm
    refine h.ms fun m' h' => hm m' ?_
    rcases List.mem_append.1 h' with h' | h'
    · exact List.mem_cons_of_mem _ h'
    · obtain rfl := List.mem_singleton.1 h'; exact List.mem_cons_self
theorem RoomOk.again {N : Nat} {M : Nat → List MOp} {s : RoomS} (h : RoomOk N M s) {c d : Nat} (hc : c < N) (hd : d < N) (hcd : c ≠ d) : RoomOk N M (againS s c d) := by
  have hm := h.msgs c d hc hd hcd
  unfold againS
  split
  · exact h
  · rename_i m l e
    rw [e] at hm
    split
    · exact h
    · refine h.ms fun m' h' => hm m' ?_
      rcases List.mem_append.1 h' with h' | h'
      · exact h'
      · obtain rfl := List.mem_singleton.1 h'; exact List.mem_cons_self

theorem sentM_mem {m : Msg} : ∀ {bs ms : List Msg}, m ∈ sentM ms bs → m ∈ ms ∨ m ∈ bs
  | [], _, h => .inl h
  | b :: bs, ms, h => by
    unfold sentM at h
    rcases sentM_mem h with h | h
    · split at h
      · exact .inl h
      · rcases List.mem_append.1 h with h | h
        · exact .inl h
        · exact .inr (by rw [List.mem_singleton.1 h]; exact List.mem_cons_self)
    · exact .inr (List.mem_cons_of_mem _ h)
/-- WHAT A DELIVERY MAKES. -/
def DeliverTo (N : Nat) (s : RoomS) (c d : Nat) (s' : RoomS) : Prop := match s.ms c d with
  | [] => s' = s
  | .inl l :: ms => ∃ ls, ls.Perm ((s.ops d).filter (isBey (rowOf l))) ∧ AscP ls ∧ s' = msTo (msTo s c d ms) d c (sentM ((msTo s c d ms).ms d c) ((batsOf ls (rowOf l) (s.has d) N).map (batOf ls)))
  | .inr xs :: ms => ∃ early', CutOf (waitS s d xs) (goneTo (waitS s d xs) (s.has d) N) early' ∧ s' = hearS N (msTo s c d ms) d xs early'

theorem RoomOk.wait {N : Nat} {M : Nat → List MOp} {s : RoomS} (h : RoomOk N M s) {d : Nat} (hd : d < N) {xs : List MOp} (hx : ∀ y ∈ xs, isMade N M y) : EarlyOk N M (waitS s d xs) ∧ ((waitS s d xs).map (·.1)).Nodup := ⟨EarlyOk.all (h.copy d hd).earlyL hx, early_keys (h.copy d hd).keysL⟩
theorem RoomOk.hear {N : Nat} {M : Nat → List MOp} {s : RoomS} (h : RoomOk N M s) {d : Nat} (hd : d < N) {xs : List MOp} (hx : ∀ y ∈ xs, isMade N M y) {early' : List (PId × MOp)} (hC : CutOf (waitS s d xs) (goneTo (waitS s d xs) (s.has d) N) early') : RoomOk N M (hearS N s d xs early') ∧ ((rdyS N s d xs ++ s.ops d).map fun o => o.op.id).Nodup := by
  obtain ⟨hE, hn⟩ := h.wait hd hx
  have hc' := (h.copy d hd).heard h.made hE hC.sub hC.nd
  have hnd : ((rdyS N s d xs ++ s.ops d).map fun o => o.op.id).Nodup := ((insAll_perm (rdyS N s d xs) (s.ops d)).map _).nodup_iff.1 (hc'.ndId h.made)
  refine ⟨⟨h.made, fun c hc => ?_, fun c hc => ?_, fun c hc => ?_, fun c hc => ?_, h.cnt, h.msgs⟩, hnd⟩
  · unfold hearS copyS
    by_cases e : c = d
    · subst e
      simp only [upd_same]
      exact hc'
    · simp only [upd_ne _ _ e]
      exact h.copy c hc
  · unfold hearS copyS
    by_cases e : c = d
    · subst e
      simp only [upd_same]
      have h1 := heard_has (has := s.has c) hE N (Nat.le_refl _)
      show hasAll (s.has c) (rdyS N s c xs) c = _
      unfold rdyS
      rw [h1]
      have h2 := heard_in h.made (h.copy c hc) hE hc
      have h3 := h.own c hc
      omega
    · simp only [upd_ne _ _ e]
      exact h.own c hc
  · unfold hearS copyS
    by_cases e : c = d
    · subst e
      simp only [upd_same]
      exact insAll_asc _ _ (h.asc c hc) hnd
    · simp only [upd_ne _ _ e]
      exact h.asc c hc
  · unfold hearS copyS
    by_cases e : c = d
    · subst e
      simp only [upd_same]
      obtain ⟨g0, g1⟩ := h.gtU c hc
      refine ⟨Int.le_trans g0 (gtAll_le _ _).1, fun g hg h0 => gtAll_bound _ _ (g1 g hg h0) fun y hy => ?_⟩
      obtain ⟨p, hp, rfl⟩ := ready_mem hy
      obtain ⟨e, he, hm⟩ := (hE p hp).1
      exact hg e he _ hm
    · simp only [upd_ne _ _ e]
      exact h.gtU c hc
theorem RoomOk.fin {N : Nat} {M : Nat → List MOp} {s : RoomS} (h : RoomOk N M s) {d : Nat} (hd : d < N) {xs : List MOp} (hx : ∀ y ∈ xs, isMade N M y) : ((rdyS N s d xs ++ s.ops d).map fun o => o.op.id).Nodup ∧ (s.ops d).length + (rdyS N s d xs).length ≤ N * 60 := by
  obtain ⟨hE, hn⟩ := h.wait hd hx
  have hc' := (h.copy d hd).heard h.made hE (m' := []) (fun p (hp : p ∈ []) => absurd hp List.not_mem_nil) List.nodup_nil
  refine ⟨((insAll_perm (rdyS N s d xs) (s.ops d)).map _).nodup_iff.1 (hc'.ndId h.made), ?_⟩
  have h1 := hc'.len h.made
  rw [insAll_len] at h1
  exact h1
theorem RoomOk.deliver {N : Nat} {M : Nat → List MOp} {s s' : RoomS} (h : RoomOk N M s) {c d : Nat} (hc : c < N) (hd : d < N) (hcd : c ≠ d) (hs : DeliverTo N s c d s') : RoomOk N M s' := by
  have hm := h.msgs c d hc hd hcd
  unfold DeliverTo at hs
  cases e : s.ms c d with
  | nil => rw [e] at hs; rw [hs]; exact h
  | cons m ms =>
    rw [e] at hs hm
    have h1 : RoomOk N M (msTo s c d ms) := h.ms fun m' h' => hm m' (List.mem_cons_of_mem _ h')
    cases m with
    | inl l =>
      obtain ⟨ls, hp, ha, rfl⟩ := hs
      refine h1.ms fun m' h' => ?_
      rcases sentM_mem h' with h' | h'
      · exact h1.msgs d c hd hc (Ne.symm hcd) m' h'
      · obtain ⟨b, hb, rfl⟩ := List.mem_map.1 h'
        intro y hy
        have hy' := List.mem_of_mem_drop (List.mem_of_mem_take hy)
        exact (h.copy d hd).made (List.mem_filter.1 (hp.mem_iff.1 hy')).1
    | inr xs =>
      obtain ⟨early', hC, rfl⟩ := hs
      exact (h1.hear hd (hm _ List.mem_cons_self) hC).1

end Go.Proofs.YtnkpogjiiohapaaGreatDoor

/-! GDocA: Plain: the document that a copy's operations make. -/
namespace Go.Proofs.YtnkpogjiiohapaaGreatDoor

/-- An operation of the program's as a plain one. -/
def popOf (o : QOp) : POp := match o.chg with
  | .inl l => ⟨o.id, 1, l, (0, 0), ⟨#[]⟩, (0, 0), (0, 0), 0, (0, 0), []⟩
  | .inr (.inl (x, b)) => ⟨o.id, 2, false, x, ⟨#[]⟩, (0, 0), b, 0, (0, 0), []⟩
  | .inr (.inr (.inl (ob, key, x, val, gs))) => ⟨o.id, 3, false, ob, key, x, (0, 0), val.1, val.2, gs⟩
  | .inr (.inr (.inr (ob, key, x, gs))) => ⟨o.id, 4, false, ob, key, x, (0, 0), 0, (0, 0), gs⟩
theorem pop_id (o : QOp) : (popOf o).id = o.id := by
  unfold popOf
  split <;> rfl
theorem qop_pop (o : QOp) : qopOf (popOf o) o.nth = o := by
  obtain ⟨id, nth, chg⟩ := o
  rcases chg with l | ⟨x, b⟩ | ⟨ob, key, x, val, gs⟩ | ⟨ob, key, x, gs⟩ <;> simp [popOf, qopOf, chgOf]
def ROf (ops : List MOp) : List PObj := (ops.map fun o => popOf o.op).foldl doesP rootP

theorem InR.root : InR rootP [] := by
  have key : ∀ x o, objOf rootP x = some o → x = (0, 0) ∧ o.ss = [] := fun x o h => by
    have hx := objOf_id h
    unfold objOf rootP at h
    simp only [List.find?_cons, List.find?_nil] at h
    split at h
    · cases h
      exact ⟨hx.symm, rfl⟩
    · cases h
  refine ⟨fun x o h => .inl (key x o h).1, fun x o h s hs => ?_, fun x o h s hs => ?_⟩
  · rw [(key x o h).2] at hs; cases hs
  · rw [(key x o h).2] at hs; cases hs
theorem InR.all : ∀ (S : List POp) (R : List PObj) (I : List PId), InR R I → InR (S.foldl doesP R) ((S.map POp.id).reverse ++ I)
  | [], R, I, h => h
  | p :: S, R, I, h => by
    have := InR.all S (doesP R p) (p.id :: I) (h.does p)
    simpa using this

/-- What a change may say, behind those that its copy made. -/
def ChgOk (prev : List MOp) : QChg → Prop
  | .inr (.inr (.inl (_, key, x, val, _))) => (key ≠ ⟨#[]⟩ → x = (0, 0)) ∧ (val.2 = (0, 0) ∨ ∃ y ∈ prev, y.op.id = val.2 ∧ ∃ l, y.op.chg = .inl l)
  | .inr (.inr (.inr (_, key, x, _))) => key ≠ ⟨#[]⟩ → x = (0, 0)
  | _ => True
def MadeDoc (N : Nat) (M : Nat → List MOp) : Prop := ∀ c, c < N → ∀ i (hi : i < (M c).length), ChgOk ((M c).take i) (M c)[i].op.chg

theorem opsOk_from {N : Nat} {M : Nat → List MOp} {gt : Int} {has : Nat → Int} {ops : List MOp} {early : List (PId × MOp)} (hM : MadeOk N M) (hD : MadeDoc N M) (h : CopyOk N M gt has ops early) (ha : AscO ops) : ∀ (S pre : List MOp) (I Mk : List PId), pre ++ S = ops → (∀ z ∈ I, ∃ y ∈ pre, y.op.id = z) → (0, 0) ∈ Mk → (∀ y ∈ pre, (∃ l, y.op.chg = .inl l) → y.op.id ∈ Mk) → OpsOk I Mk (S.map fun o => popOf o.op)
  | [], _, _, _, _, _, _, _ => trivial
  | o :: S, pre, I, Mk, he, hI, h0, hMk => by
    have hoo : o ∈ ops := by rw [← he]; simp
    obtain ⟨c, hc, hoc⟩ := h.made hoo
    obtain ⟨i, hi, e, a1, a2, a3⟩ := hM.at hc hoc
    have hchg := hD c hc i hi
    rw [← e] at hchg
    have hasc := ha
    rw [← he] at hasc
    obtain ⟨_, hos, hcross⟩ := List.pairwise_append.1 hasc
    have hpre : ∀ y ∈ pre, ltI y.op.id o.op.id = true := fun y hy => hcross y hy o List.mem_cons_self
    have hpost : ∀ y ∈ S, ltI o.op.id y.op.id = true := (List.pairwise_cons.1 hos).1
    have hfind : ∀ y ∈ (M c).take i, y ∈ pre := fun y hy => by
      obtain ⟨j, hj, ej⟩ := List.mem_iff_getElem.1 hy
      rw [List.length_take] at hj
      rw [List.getElem_take] at ej
      have hjm : j < (M c).length := by omega
      obtain ⟨b1, b2, b3⟩ := hM.id c hc j hjm
      rw [ej] at b1 b2 b3
      have hym : isMade N M y := ⟨c, hc, List.mem_of_mem_take hy⟩
      have hn := (h.mem hM (h.made hoo)).1 hoo
      have hcc : o.op.id.2.toNat = c := by omega
      have hcc' : y.op.id.2.toNat = c := by omega
      rw [hcc] at hn
      have hyo : y ∈ ops := (h.mem hM hym).2 (by rw [hcc']; omega)
      have hlt : y.op.id.1 < o.op.id.1 := by
        have := List.pairwise_iff_getElem.1 (hM.asc c hc) j i hjm hi (by omega)
        rw [ej, ← e] at this
        exact this
      have hl : ltI y.op.id o.op.id = true := (ltI_iff _ _).2 (.inl hlt)
      rw [← he] at hyo
      rcases List.mem_append.1 hyo with h1 | h1
      · exact h1
      · rcases List.mem_cons.1 h1 with rfl | h1
        · rw [ltI_irr] at hl; cases hl
        · have := ltI_trans hl (hpost y h1)
          rw [ltI_irr] at this; cases this
    show OpsOk I Mk (popOf o.op :: S.map fun o => popOf o.op)
    have hrec := opsOk_from hM hD h ha S (pre ++ [o]) ((popOf o.op).id :: I) (if (popOf o.op).kind = 1 then (popOf o.op).id :: Mk else Mk) (by rw [List.append_assoc]; exact he) (fun z hz => by
      rcases List.mem_cons.1 hz with rfl | hz
      · exact ⟨o, by simp, (pop_id o.op).symm⟩
      · obtain ⟨y, hy, e'⟩ := hI z hz
        exact ⟨y, List.mem_append_left _ hy, e'⟩) (by split <;> simp [h0]) (fun y hy hl => by
      rcases List.mem_append.1 hy with hy | hy
      · split
        · exact List.mem_cons_of_mem _ (hMk y hy hl)
        · exact hMk y hy hl
      · obtain rfl := List.mem_singleton.1 hy
        obtain ⟨l, hl⟩ := hl
        have hk : (popOf y.op).kind = 1 := by unfold popOf; rw [hl]
        rw [if_pos hk, pop_id]
        exact List.mem_cons_self)
    refine ⟨?_, ?_, ?_, ?_, ?_, hrec⟩
    · unfold popOf
      split <;> simp
    · rw [pop_id]
      intro e0
      rw [e0] at a3
      simp at a3
    · rw [pop_id]
      intro hin
      obtain ⟨y, hy, ey⟩ := hI _ hin
      have := hpre y hy
      rw [ey, ltI_irr] at this
      cases this
    · intro hk
      unfold popOf at hk ⊢
      revert hchg hk
      rcases o.op.chg with l | ⟨x, b⟩ | ⟨ob, key, x, val, gs⟩ | ⟨ob, key, x, gs⟩
      · intro _ hk; simp at hk
      · intro _ hk; simp at hk
      · intro hchg _ hkey; exact hchg.1 hkey
      · intro hchg _ hkey; exact hchg hkey
    · intro hk
      unfold popOf at hk ⊢
      revert hchg hk
      rcases o.op.chg with l | ⟨x, b⟩ | ⟨ob, key, x, val, gs⟩ | ⟨ob, key, x, gs⟩
      · intro _ hk; simp at hk
      · intro _ hk; simp at hk
      · intro hchg _
        rcases hchg.2 with e0 | ⟨y, hy, ey, hl⟩
        · simp only [e0]; exact h0
        · simp only
          rw [← ey]
          exact hMk y (hfind y hy) hl
      · intro _ hk; simp at hk
section
theorem opsOk {N : Nat} {M : Nat → List MOp} {gt : Int} {has : Nat → Int} {ops : List MOp} {early : List (PId × MOp)} (hM : MadeOk N M) (hD : MadeDoc N M) (h : CopyOk N M gt has ops early) (ha : AscO ops) : OpsOk [] [(0, 0)] (ops.map fun o => popOf o.op) := opsOk_from hM hD h ha ops [] [] [(0, 0)] rfl (fun _ hz => by cases hz) (by simp) (fun _ hy => by cases hy)
end

/-- THE DOCUMENT OF A COPY. -/
theorem doc_agree {ops : List MOp} {D0 D : QDoc} (h0 : Agree rootP D0) (hn : QNd D0) (hok : OpsOk [] [(0, 0)] (ops.map fun o => popOf o.op)) (hd : DoTo D0 (ops.map (·.op)) D) : Agree (ROf ops) D ∧ QNd D ∧ InR (ROf ops) ((ops.map fun o => o.op.id).reverse) := by
  have hlist : (List.range (ops.map fun o => popOf o.op).length).map (fun i => qopOf ((ops.map fun o => popOf o.op).getD i ⟨(0, 0), 0, false, (0, 0), ⟨#[]⟩, (0, 0), (0, 0), 0, (0, 0), []⟩) ((ops.map fun o => o.op.nth).getD i 0)) = ops.map (·.op) := by
    apply List.ext_getElem
    · simp
    · intro i h1 h2
      have hi : i < ops.length := by simpa using h2
      simp only [List.getElem_map, List.getElem_range]
      rw [show (ops.map fun o => popOf o.op).getD i ⟨(0, 0), 0, false, (0, 0), ⟨#[]⟩, (0, 0), (0, 0), 0, (0, 0), []⟩ = popOf ops[i].op by simp [List.getD, hi], show (ops.map fun o => o.op.nth).getD i 0 = ops[i].op.nth by simp [List.getD, hi]]
      exact qop_pop _
  obtain ⟨a, b⟩ := Agree.all (ops.map fun o => popOf o.op) (fun i => (ops.map fun o => o.op.nth).getD i 0) rootP D0 D [] [(0, 0)] h0 hn InR.root (fun x hx => by
    obtain rfl := List.mem_singleton.1 hx
    exact ⟨⟨(0, 0), false, []⟩, rfl⟩) hok (by rw [hlist]; exact hd)
  refine ⟨a, b, ?_⟩
  have := InR.all (ops.map fun o => popOf o.op) rootP [] InR.root
  rw [List.append_nil, List.map_map] at this
  have e : (POp.id ∘ fun o : MOp => popOf o.op) = fun o => o.op.id := by
    funext o
    exact pop_id o.op
  rw [e] at this
  exact this

end Go.Proofs.YtnkpogjiiohapaaGreatDoor

/-! GRepY: One copy of the program's room in general: makeObject, give. -/
namespace Go.Proofs.YtnkpogjiiohapaaGreatDoor
open Go.RowKit
attribute [local go_sem ↓] Go.wp_at_zero Go.wp_at_succ

theorem box53G {W : World} {g g' : Nat} {a b c d e x y z : Value} {t t' : TypeId} (h1 : W.heap[g]? = some (.cells #[a, b, c, d, e] t (0, 0))) (h2 : W.heap[g']? = some (.cells #[x, y, z] t' (0, 0))) :
    W.cell? ⟨g, 0, none⟩ = some a ∧ W.cell? ⟨g, 1, none⟩ = some b ∧ W.cell? ⟨g, 2, none⟩ = some c ∧ W.cell? ⟨g, 3, none⟩ = some d ∧ W.cell? ⟨g, 4, none⟩ = some e ∧ W.cell? ⟨g', 0, none⟩ = some x ∧ W.cell? ⟨g', 1, none⟩ = some y ∧ W.cell? ⟨g', 2, none⟩ = some z := by
  obtain ⟨h0, h3, h4, h5, h6⟩ := blk5 h1
  exact ⟨h0, h3, h4, h5, h6, by simp [World.cell?, h2], by simp [World.cell?, h2], by simp [World.cell?, h2]⟩
/-- A copy may write. -/
structure Wri (c : Nat) (gt : Int) (has : Nat → Int) (ops : List MOp) (q : RQ) : Prop where
  g : 0 ≤ gt ∧ gt ≤ 90000
  h : 0 ≤ has c ∧ has c ≤ 60
  old : ∀ o ∈ ops, o.op.id.1 ≤ gt
  len : ops.length ≤ 290
  vals : ∀ ob key el, (atPl q.D.1 q.D.2 ob key el).vs.length ≤ 10000 ∧ ((atPl q.D.1 q.D.2 ob key el).vs.map (·.1)).Nodup
/-- What one operation more leaves of a copy. -/
def WroteM (F I : Nat → Prop) (N sp c rb : Nat) (gt : Int) (has : Nat → Int) (ops : List MOp) (early : List (PId × MOp)) (q : RQ) (w w' : World) (chg : QChg) : Prop := ∃ t v F' I' q', RepM w' rb F' I' N sp c (gt + 1) (upd has c (has c + 1)) (ops ++ [newOp c gt has chg t v]) early q' ∧ sameQ q q' ∧ Keeps F F' w w' ∧ (∀ k, I k → I' k) ∧ ∀ k, I' k → I k ∨ w.heap.size ≤ k

section
set_option maxRecDepth 1000000 in
set_option maxHeartbeats 4000000 in
theorem makeObject_any {w : World} {rb : Nat} {F I : Nat → Prop} {N sp c : Nat} {gt : Int} {has : Nat → Int} {ops : List MOp} {early : List (PId × MOp)} {q : RQ} (h : RepM w rb F I N sp c gt has ops early q) (hw : Wri c gt has ops q) (lst : Bool) :
    Calls Tryz.prog 73 #[.pointer (some ⟨rb, 0, none⟩), .bool lst] w fun e w' => e = .returned (.agg #[.int .i64 (gt + 1), .int .i64 c]) ∧ WroteM F I N sp c rb gt has ops early q w w' (.inl lst) := by
  have HB := hid ((Below.refl w.heap.size w).alloc (Nat.le_refl _) (.cells #[.int .i64 0, .int .i64 0] 36))
  have HF := hid h.lt
  have HII := hid h.iI
  have HW := hid (write_any (h.keep HB.out) ⟨hw.g.1, by have := hw.g.2; omega⟩ ⟨hw.h.1, by have := hw.h.2; omega⟩ hw.old (by have := hw.len; omega) 197 (.agg #[.bool lst]) (.inl lst) rfl)
  clear h hw
  have HR1 := hid (blk_new w (.cells #[.int .i64 0, .int .i64 0] 36))
  go_enter Tryz.func73, Tryz.ntmps73
  go_wp2_with fail
  refine HW.out.mono ?_
  rintro e w2 ⟨rfl, F', q', hr2, hs2, hk2⟩
  have hb1 : w2.heap[w.heap.size]? = some (.cells #[.int .i64 0, .int .i64 0] 36 (0, 0)) := (hk2.other _ (by simp) (fun hF => by have := HF.out _ hF; omega)).trans HR1.out
  obtain ⟨r0, r1⟩ := blk2 hb1
  have rf := blk_fz hb1
  have rl := blk_lt hb1
  have HR2 := hid hr2; have HK2 := hid hk2; have HS2 := hid hs2
  clear hr2 hk2 hb1 hs2
  go_wp2
  refine bodyPost_ret (v := .agg #[.int .i64 (gt + 1), .int .i64 c]) (by simp [results, Tryz.results73, go_sem, r0, r1]) rfl ?_
  have hnF' : ¬ F' w.heap.size := fun hF => by
    rcases HK2.out.sub _ hF with h | h
    · have := HF.out _ h; omega
    · simp at h; omega
  have hnI : ¬ I w.heap.size := fun hI => by have := HII.out _ hI; omega
  exact ⟨rfl, _, _, F', I, q', (HR2.out.set _ hnF' hnI).set _ hnF' hnI, HS2.out, ((HK2.out.before HB.out).setNew (Nat.le_refl _) _).setNew (Nat.le_refl _) _, fun _ y => y, fun _ y => .inl y⟩

set_option maxRecDepth 1000000 in
set_option maxHeartbeats 4000000 in
theorem give_any {w : World} {rb : Nat} {F I : Nat → Prop} {N sp c : Nat} {gt : Int} {has : Nat → Int} {ops : List MOp} {early : List (PId × MOp)} {q : RQ} (h : RepM w rb F I N sp c gt has ops early q) (hw : Wri c gt has ops q) (ob el : PId) (key : ByteArray) (val : PVal) :
    Calls Tryz.prog 62 #[.pointer (some ⟨rb, 0, none⟩), .agg #[.int .i64 ob.1, .int .i64 ob.2, .string key, .int .i64 el.1, .int .i64 el.2], .agg #[.int .i64 val.1, .int .i64 val.2.1, .int .i64 val.2.2]] w fun e w' => (∃ r, e = .returned r) ∧ ∃ ss, ss.Perm ((atPl q.D.1 q.D.2 ob key el).vs.map (·.1)) ∧ Asc ss ∧ WroteM F I N sp c rb gt has ops early q w w' (.inr (.inr (.inl (ob, key, el, val, ss)))) := by
  have HF := hid h.lt
  have HI := hid h
  have HB := hid (((Below.refl w.heap.size w).alloc (Nat.le_refl _) (.cells #[.int .i64 ob.1, .int .i64 ob.2, .string key, .int .i64 el.1, .int .i64 el.2] 97)).alloc (by simp) (.cells #[.int .i64 val.1, .int .i64 val.2.1, .int .i64 val.2.2] 57))
  have HD := hid (fun W (hb : Below w.heap.size w W) => document_any (h.keep hb))
  have HG := hid (fun W (hb : Below w.heap.size w W) => givers_any (h.keep hb).hist.q ob.1 ob.2 el.1 el.2 key (hw.vals ob key el).1 (hw.vals ob key el).2)
  have HWR := hid (fun (W : World) (hb : Below w.heap.size w W) (I' : Nat → Prop) (h1 : ∀ k, I k → I' k) (h2 : ∀ k, I' k → k < W.heap.size) (h3 : ∀ k, I' k → ¬ F k) (t : TypeId) (v : Value) (chg : QChg) (hx : isChgI W I' (.iface t v) chg) => write_any ((h.keep hb).moreI h1 h2 h3) ⟨hw.g.1, by have := hw.g.2; omega⟩ ⟨hw.h.1, by have := hw.h.2; omega⟩ hw.old (by have := hw.len; omega) t v chg hx)
  clear h hw
  go_enter Tryz.func62, Tryz.ntmps62
  go_wp2_with fail
  have HP0 := hid ((alloc_old_r (w.alloc (.cells #[.int .i64 ob.1, .int .i64 ob.2, .string key, .int .i64 el.1, .int .i64 el.2] 97)) (.cells #[.int .i64 val.1, .int .i64 val.2.1, .int .i64 val.2.2] 57) (r := w.heap.size) (by simp)).trans (blk_new w _))
  have HV0 := hid (show ((w.alloc (.cells #[.int .i64 ob.1, .int .i64 ob.2, .string key, .int .i64 el.1, .int .i64 el.2] 97)).alloc (.cells #[.int .i64 val.1, .int .i64 val.2.1, .int .i64 val.2.2] 57)).heap[w.heap.size + 1]? = some (.cells #[.int .i64 val.1, .int .i64 val.2.1, .int .i64 val.2.2] 57 (0, 0)) by
    have := blk_new (w.alloc (.cells #[.int .i64 ob.1, .int .i64 ob.2, .string key, .int .i64 el.1, .int .i64 el.2] 97)) (.cells #[.int .i64 val.1, .int .i64 val.2.1, .int .i64 val.2.2] 57)
    rw [show (w.alloc (.cells #[.int .i64 ob.1, .int .i64 ob.2, .string key, .int .i64 el.1, .int .i64 el.2] 97)).heap.size = w.heap.size + 1 by simp] at this
    exact this)
  go_region_held3 (fun W => W.cell? ⟨w.heap.size, 0, none⟩ = some (.int .i64 ob.1) ∧ W.cell? ⟨w.heap.size, 1, none⟩ = some (.int .i64 ob.2) ∧ W.cell? ⟨w.heap.size, 2, none⟩ = some (.string key) ∧ W.cell? ⟨w.heap.size, 3, none⟩ = some (.int .i64 el.1) ∧ W.cell? ⟨w.heap.size, 4, none⟩ = some (.int .i64 el.2) ∧
      W.cell? ⟨w.heap.size + 1, 0, none⟩ = some (.int .i64 val.1) ∧ W.cell? ⟨w.heap.size + 1, 1, none⟩ = some (.int .i64 val.2.1) ∧ W.cell? ⟨w.heap.size + 1, 2, none⟩ = some (.int .i64 val.2.2)) (first | exact box53G HP0.out HV0.out | exact box53G HP3.out HV3.out | exact box53G HP2.out HV2.out | exact box53G HP1.out HV1.out)
    (first
      | (go_at_call 48; refine (HD.out _ HB.out.drew).mono ?_; rintro e w1 ⟨rfl, hb1⟩; have HP1 := hid (blk_keep HP0.out (Hid.out (below_drew_left hb1))); have HV1 := hid (blk_keep HV0.out (Hid.out (below_drew_left hb1))); have HB1 := hid (HB.out.drew.trans (hb1.mono HB.out.size)); clear hb1)
      | (go_at_call 92; refine (HG.out w1 HB1.out).mono ?_; rintro e w2 ⟨u, ss, rfl, hp, ha, hu, hb2⟩; have HP2 := hid (blk_keep HP1.out hb2); have HV2 := hid (blk_keep HV1.out hb2); obtain ⟨ua, uc, rfl, _, _, _⟩ := owns_form hu; have HU := hid (show isIds w2 (.slice ua ss.length uc) ss from hu.ids); have HUB := hid (fun k (hk : (Value.slice ua ss.length uc).ownBlock = some k) => World.ownsRow.lt hu k hk); have HB2 := hid (HB1.out.trans (hb2.mono HB1.out.size)); have HPA := hid (And.intro hp ha); clear hu hb2 hp ha)
      | (go_at_call 91; refine (HWR.out w2 HB2.out (fun k => I k ∨ (Value.slice ua ss.length uc).ownBlock = some k) (fun k hk => .inl hk) (fun k hk => hk.elim (fun h1 => Nat.lt_of_lt_of_le (HI.out.iI k h1) HB2.out.size) fun h1 => (HUB.out k h1).2) (fun k hk hF => hk.elim (fun h1 => HI.out.nI k h1 hF) fun h1 => by have := (HUB.out k h1).1; have := HF.out k hF; have := HB1.out.size; omega) 182 _ (.inr (.inr (.inl (ob, key, el, val, ss)))) ?hch).mono ?_; (case hch => exact ⟨_, rfl, HU.out, fun k hk => .inr hk⟩); rintro e w3 ⟨rfl, F', q', hr3, hs3, hk3⟩; have HP3 := hid ((hk3.other _ (blk_lt HP2.out) (fun hF => by have := HF.out _ hF; omega)).trans HP2.out); have HV3 := hid ((hk3.other _ (blk_lt HV2.out) (fun hF => by have := HF.out _ hF; omega)).trans HV2.out); have HR3 := hid hr3; have HK3 := hid hk3; have HS3 := hid hs3; clear hr3 hk3 hs3))
  all_goals go_wp2
  all_goals go_end0
  all_goals exact ⟨⟨_, rfl⟩, ss, HPA.out.1, HPA.out.2, _, _, F', _, q', HR3.out, HS3.out, HK3.out.before HB2.out, fun k hk => .inl hk, fun k hk => hk.imp id fun h1 => Nat.le_trans HB1.out.size (HUB.out k h1).1⟩
end

end Go.Proofs.YtnkpogjiiohapaaGreatDoor
