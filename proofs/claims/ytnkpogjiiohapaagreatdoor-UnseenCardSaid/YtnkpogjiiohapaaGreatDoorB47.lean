/- Our own text (USimC, ULawA). -/
import Derived.Test.YtnkpogjiiohapaaGreatDoorB46
import Derived.Test.YtnkpogjiiohapaaGreatDoorA40
set_option linter.unusedSimpArgs false
set_option linter.unusedVariables false

/-! USimC: Plain: two rooms in which the same was done: Deliver. -/
namespace Go.Proofs.YtnkpogjiiohapaaGreatDoor

theorem look_early {N : Nat} {M : Nat → List MOp} (hM : MadeOk N M) {has : Nat → Int} (k : PId) (o : QOp) : ∀ (xs : List MOp) (m : List (PId × MOp)), EarlyOk N M m → (∀ x ∈ xs, isMade N M x) →
    ((lookI k (earlyAll has m xs)).map (·.op) = some o ↔ (∃ x ∈ xs, plOf x = k ∧ has x.op.id.2.toNat < x.op.nth ∧ x.op = o) ∨ (lookI k m).map (·.op) = some o)
  | [], m, _, _ => by
    show ((lookI k m).map (·.op) = some o ↔ _)
    simp
  | x :: xs, m, hE, hx => by
    have hx0 := hx x List.mem_cons_self
    have hxs := fun y hy => hx y (List.mem_cons_of_mem _ hy)
    have e : earlyAll has m (x :: xs) = earlyAll has (if has x.op.id.2.toNat < x.op.nth then putI (plOf x) x m else m) xs := rfl
    rw [e]
    by_cases hb : has x.op.id.2.toNat < x.op.nth
    · rw [if_pos hb]
      have hE' : EarlyOk N M (putI (plOf x) x m) := by
        have := EarlyOk.all (has := has) (xs := [x]) hE (fun y hy => by obtain rfl := List.mem_singleton.1 hy; exact hx0)
        have e2 : earlyAll has m [x] = putI (plOf x) x m := by
          show (if has x.op.id.2.toNat < x.op.nth then putI (plOf x) x m else m) = _
          rw [if_pos hb]
        rw [e2] at this
        exact this
      rw [look_early hM k o xs _ hE' hxs, look_put]
      constructor
      · rintro (⟨y, hy, h⟩ | h)
        · exact .inl ⟨y, List.mem_cons_of_mem _ hy, h⟩
        · by_cases hk : k = plOf x
          · rw [if_pos hk] at h
            exact .inl ⟨x, List.mem_cons_self, hk.symm, hb, by simpa using h⟩
          · rw [if_neg hk] at h
            exact .inr h
      · rintro (⟨y, hy, h1, h2, h3⟩ | h)
        · rcases List.mem_cons.1 hy with rfl | hy
          · right
            rw [if_pos h1.symm]
            simp [h3]
          · exact .inl ⟨y, hy, h1, h2, h3⟩
        · right
          by_cases hk : k = plOf x
          · rw [if_pos hk]
            cases hl : lookI k m with
            | none => rw [hl] at h; cases h
            | some y =>
              rw [hl] at h
              obtain ⟨a1, a2⟩ := hE _ (look_mem hl)
              have : y = x := hM.byPl a1 hx0 (by rw [← a2]; exact hk)
              rw [← this]
              exact h
          · rw [if_neg hk]
            exact h
    · rw [if_neg hb, look_early hM k o xs m hE hxs]
      constructor
      · rintro (⟨y, hy, h⟩ | h)
        · exact .inl ⟨y, List.mem_cons_of_mem _ hy, h⟩
        · exact .inr h
      · rintro (⟨y, hy, h1, h2, h3⟩ | h)
        · rcases List.mem_cons.1 hy with rfl | hy
          · exact absurd h2 hb
          · exact .inl ⟨y, hy, h1, h2, h3⟩
        · exact .inr h
/-- Two that tell the same of all that is beyond so many. -/
def LookS (has : Nat → Int) (m m' : List (PId × MOp)) : Prop := ∀ k : PId, has k.1.toNat < k.2 → (lookI k m).map (·.op) = (lookI k m').map (·.op)
theorem run_same {m m' : List (PId × MOp)} {has : Nat → Int} (h : LookS has m m') (c : Nat) : ∀ (f : Nat) (n : Int), has c ≤ n → opsQ (runOf m c n f) = opsQ (runOf m' c n f)
  | 0, _, _ => rfl
  | f + 1, n, hn => by
    have h1 := h (c, n + 1) (by show has ((c : Int)).toNat < n + 1; rw [Int.toNat_natCast]; omega)
    unfold runOf
    cases hl : lookI ((c : Int), n + 1) m with
    | none =>
      cases hl' : lookI ((c : Int), n + 1) m' with
      | none => rfl
      | some o => rw [hl, hl'] at h1; cases h1
    | some o =>
      cases hl' : lookI ((c : Int), n + 1) m' with
      | none => rw [hl, hl'] at h1; cases h1
      | some o' =>
        rw [hl, hl'] at h1
        have h2 : o.op = o'.op := by simpa using h1
        show o.op :: opsQ (runOf m c (n + 1) f) = o'.op :: opsQ (runOf m' c (n + 1) f)
        rw [h2, run_same h c f (n + 1) (by omega)]
theorem run_len {m m' : List (PId × MOp)} {has : Nat → Int} (h : LookS has m m') (c : Nat) (f : Nat) : (runOf m c (has c) f).length = (runOf m' c (has c) f).length := by
  have := congrArg List.length (run_same h c f (has c) (Int.le_refl _))
  unfold opsQ at this
  simpa using this
theorem ready_same {m m' : List (PId × MOp)} {has has' : Nat → Int} (h : LookS has m m') {N : Nat} (hh : ∀ i, i < N → has i = has' i) : ∀ n, n ≤ N → opsQ (readyTo m has n) = opsQ (readyTo m' has' n)
  | 0, _ => rfl
  | n + 1, hn => by
    have h1 := ready_same h hh n (by omega)
    have h2 := run_same h n 61 (has n) (Int.le_refl _)
    unfold opsQ at h1 h2 ⊢
    rw [readyTo_succ, readyTo_succ, List.map_append, List.map_append, h1, h2, hh n (by omega)]
theorem gone_same {m m' : List (PId × MOp)} {has has' : Nat → Int} (h : LookS has m m') {N : Nat} (hh : ∀ i, i < N → has i = has' i) : goneTo m has N = goneTo m' has' N := by
  unfold goneTo
  exact flat_congr fun i hi => by rw [run_len h, hh i (List.mem_range.1 hi)]
theorem gtAll_op (g : Int) (xs : List MOp) : gtAll g xs = (opsQ xs).foldl (fun g x => max g x.id.1) g := by
  unfold gtAll opsQ
  rw [List.foldl_map]
theorem bey_same {known has has' : Nat → Int} {N : Nat} (hh : ∀ i, i < N → has i = has' i) : beyTo known has N = beyTo known has' N := by
  unfold beyTo
  exact flat_congr fun i hi => by rw [hh i (List.mem_range.1 hi)]
theorem mem_opsQ {o : QOp} {l : List MOp} : o ∈ opsQ l ↔ ∃ x ∈ l, x.op = o := by unfold opsQ; exact List.mem_map

section
/-- Operations arrive. -/
theorem Sim.hear {N : Nat} {M M' : Nat → List MOp} {s s' : RoomS} (h : Sim N M M' s s') (ok : RoomOk N M s) (ok' : RoomOk N M' s') {d : Nat} (hd : d < N) {xs ys : List MOp} (hx : ∀ x ∈ xs, isMade N M x) (hy : ∀ x ∈ ys, isMade N M' x) (hm : MsgS (s.has d) (.inr xs) (.inr ys)) {e e' : List (PId × MOp)} (he : CutOf (waitS s d xs) (goneTo (waitS s d xs) (s.has d) N) e) (he' : CutOf (waitS s' d ys) (goneTo (waitS s' d ys) (s'.has d) N) e') :
    Sim N M M' (hearS N s d xs e) (hearS N s' d ys e') := by
  have hE := (ok.copy d hd).earlyL
  have hE' := (ok'.copy d hd).earlyL
  have hh := fun i hi => h.has d hd i hi
  have hlook : LookS (s.has d) (waitS s d xs) (waitS s' d ys) := fun k hkb => by
    have key : ∀ o, (lookI k (waitS s d xs)).map (·.op) = some o ↔ (lookI k (waitS s' d ys)).map (·.op) = some o := fun o => by
      unfold waitS
      rw [look_early ok.made k o xs _ hE hx, look_early ok'.made k o ys _ hE' hy, h.early d hd k hkb]
      refine or_congr ?_ Iff.rfl
      constructor
      · rintro ⟨x, hx1, h1, h2, rfl⟩
        obtain ⟨y, hy1, e⟩ := mem_opsQ.1 ((hm x.op h2).1 (mem_opsQ.2 ⟨x, hx1, rfl⟩))
        refine ⟨y, hy1, by unfold plOf at h1 ⊢; rw [e]; exact h1, ?_, e⟩
        obtain ⟨b1, b2, b3, b4⟩ := ok'.made.nth (hy y hy1)
        rw [← hh _ (by omega), e]
        exact h2
      · rintro ⟨y, hy1, h1, h2, rfl⟩
        obtain ⟨b1, b2, b3, b4⟩ := ok'.made.nth (hy y hy1)
        have h2' : s.has d y.op.id.2.toNat < y.op.nth := by rw [hh _ (by omega)]; exact h2
        obtain ⟨x, hx1, e⟩ := mem_opsQ.1 ((hm y.op h2').2 (mem_opsQ.2 ⟨y, hy1, rfl⟩))
        exact ⟨x, hx1, by unfold plOf at h1 ⊢; rw [e]; exact h1, by rw [e]; exact h2', e⟩
    cases h1 : (lookI k (waitS s d xs)).map (·.op) with
    | some o => exact ((key o).1 h1).symm
    | none =>
      cases h2 : (lookI k (waitS s' d ys)).map (·.op) with
      | none => rfl
      | some o => rw [(key o).2 h2] at h1; cases h1
  have hW := ok.wait hd hx
  have hW' := ok'.wait hd hy
  have eh : hasAll (s.has d) (rdyS N s d xs) = heardTo (waitS s d xs) (s.has d) N := heard_has hW.1 N (Nat.le_refl _)
  have eh' : hasAll (s'.has d) (rdyS N s' d ys) = heardTo (waitS s' d ys) (s'.has d) N := heard_has hW'.1 N (Nat.le_refl _)
  have hup : ∀ i, s.has d i ≤ heardTo (waitS s d xs) (s.has d) N i := fun i => by
    unfold heardTo
    split
    · omega
    · exact Int.le_refl _
  refine ⟨h.made, fun c hc i hi => ?_, fun c hc => ?_, fun c hc k hkb => ?_, fun a b ha hb hab => ?_⟩
  · unfold hearS copyS
    simp only
    by_cases hcd : c = d
    · subst hcd
      rw [upd_same, upd_same, eh, eh']
      unfold heardTo
      rw [if_pos hi, if_pos hi, run_len hlook, hh i hi]
    · rw [upd_ne _ _ hcd, upd_ne _ _ hcd]
      exact h.has c hc i hi
  · unfold hearS copyS
    simp only
    by_cases hcd : c = d
    · subst hcd
      rw [upd_same, upd_same, gtAll_op, gtAll_op, h.gt c hc]
      unfold rdyS
      rw [ready_same hlook hh N (Nat.le_refl _)]
    · rw [upd_ne _ _ hcd, upd_ne _ _ hcd]
      exact h.gt c hc
  · unfold hearS copyS at hkb ⊢
    simp only at hkb ⊢
    by_cases hcd : c = d
    · subst hcd
      rw [upd_same, eh] at hkb
      rw [upd_same, upd_same]
      have eg : goneTo (waitS s c xs) (s.has c) N = goneTo (waitS s' c ys) (s'.has c) N := gone_same hlook hh
      by_cases hg : k ∈ goneTo (waitS s c xs) (s.has c) N
      · rw [he.gone k hg, he'.gone k (by rw [← eg]; exact hg)]
      · rw [he.look k hg, he'.look k (by rw [← eg]; exact hg)]
        exact hlook k (Int.lt_of_le_of_lt (hup _) hkb)
    · rw [upd_ne _ _ hcd] at hkb
      rw [upd_ne _ _ hcd, upd_ne _ _ hcd]
      exact h.early c hc k hkb
  · have := h.ms a b ha hb hab
    unfold hearS copyS
    simp only
    by_cases hbd : b = d
    · subst hbd
      rw [upd_same, eh]
      exact All2.imp (fun _ _ => MsgS.more hup) this
    · rw [upd_ne _ _ hbd]
      exact this
/-- A question arrives. -/
theorem Sim.bats {N : Nat} {M M' : Nat → List MOp} {s s' : RoomS} (h : Sim N M M' s s') (ok : RoomOk N M s) (ok' : RoomOk N M' s') {c d : Nat} (hc : c < N) (hd : d < N) {l : List Int} {ls ls' : List MOp} (hp : ls.Perm ((s.kept d).filter (isBey (rowOf l)))) (ha : AscP ls) (hp' : ls'.Perm ((s'.kept d).filter (isBey (rowOf l)))) (ha' : AscP ls') :
    All2 (MsgS (s.has c)) ((batsOf ls (rowOf l) (s.has d) N).map (batOf ls)) ((batsOf ls' (rowOf l) (s'.has d) N).map (batOf ls')) := by
  have hB : beyTo (rowOf l) (s.has d) N = beyTo (rowOf l) (s'.has d) N := bey_same fun i hi => h.has d hd i hi
  have sub : ∀ {M : Nat → List MOp} {s : RoomS} {ls : List MOp}, RoomOk N M s → ls.Perm ((s.kept d).filter (isBey (rowOf l))) → AscP ls → (ls.map plOf).Sublist (beyTo (rowOf l) (s.has d) N) := fun {M s ls} ok hp ha => by
    refine asc_sub (List.pairwise_map.2 ha) (bey_asc _ _ _) fun k hk => ?_
    obtain ⟨x, hx, rfl⟩ := List.mem_map.1 hk
    obtain ⟨hx1, hx2⟩ := List.mem_filter.1 (hp.mem_iff.1 hx)
    have hxo : x ∈ s.ops d := by rw [ok.spl d hd]; exact List.mem_append_right _ hx1
    obtain ⟨e, he, hxe⟩ := mem_firsts.1 ((ok.copy d hd).perm.mem_iff.1 hxo)
    obtain ⟨j, hj, hje⟩ := List.mem_iff_getElem.1 hxe
    rw [List.length_take] at hj
    rw [List.getElem_take] at hje
    obtain ⟨g1, g2, g3⟩ := ok.made.id e he j (by omega)
    rw [hje] at g1 g2
    have hb : rowOf l x.op.id.2.toNat < x.op.nth := of_decide_eq_true hx2
    refine mem_bey.2 ⟨e, he, g1, ?_, ?_⟩
    · rw [g1] at hb
      exact hb
    · show x.op.nth ≤ s.has d e
      rw [g2]
      omega
  have hA := ans_parts (sub ok hp ha) (asc_nodup (bey_asc _ _ _)) (min (chunks (beyTo (rowOf l) (s.has d) N).length) 3)
  have hA' := ans_parts (sub ok' hp' ha') (asc_nodup (bey_asc _ _ _)) (min (chunks (beyTo (rowOf l) (s'.has d) N).length) 3)
  have hl : (batsOf ls (rowOf l) (s.has d) N).length = (batsOf ls' (rowOf l) (s'.has d) N).length := by
    unfold batsOf
    rw [ans_len, ans_len, hB]
  refine All2.ofGet (by rw [List.length_map, List.length_map, hl]) fun j h1 h2 => ?_
  rw [List.length_map] at h1 h2
  rw [List.getElem_map, List.getElem_map]
  have k1 := hA.2 j h1
  have k2 := hA'.2 j h2
  intro o ho
  have hin : ∀ {M : Nat → List MOp} {s : RoomS} {ls : List MOp}, RoomOk N M s → (∀ i, i < N → s.has c i < (o.nth) → True) → s.has c o.id.2.toNat < o.nth → ls.Perm ((s.kept d).filter (isBey (rowOf l))) → ((∃ x ∈ ls, x.op = o) ↔ o ∈ opsQ (s.ops d) ∧ rowOf l o.id.2.toNat < o.nth) := fun {M s ls} ok _ hlt hp => by
    constructor
    · rintro ⟨x, hx, rfl⟩
      obtain ⟨hx1, hx2⟩ := List.mem_filter.1 (hp.mem_iff.1 hx)
      exact ⟨mem_opsQ.2 ⟨x, by rw [ok.spl d hd]; exact List.mem_append_right _ hx1, rfl⟩, of_decide_eq_true hx2⟩
    · rintro ⟨ho1, ho2⟩
      obtain ⟨x, hx, rfl⟩ := mem_opsQ.1 ho1
      rw [ok.spl d hd] at hx
      rcases List.mem_append.1 hx with hg | hk
      · have := ok.gnl d hd x hg c hc
        omega
      · exact ⟨x, hp.mem_iff.2 (List.mem_filter.2 ⟨hk, decide_eq_true ho2⟩), rfl⟩
  have hops := h.ops ok ok' hd
  have hlow : ∀ x ∈ s'.ops d, x.op.id.2.toNat < N := fun x hx => by
    obtain ⟨b1, b2, b3, b4⟩ := ok'.made.nth ((ok'.copy d hd).made hx)
    omega
  constructor
  · intro hm
    obtain ⟨x, hx, e⟩ := mem_opsQ.1 hm
    obtain ⟨hx1, hx2⟩ := (k1 x).1 hx
    obtain ⟨ho1, ho2⟩ := (hin ok (fun _ _ _ => trivial) ho hp).1 ⟨x, hx1, e⟩
    rw [hops] at ho1
    have hoN : o.id.2.toNat < N := by
      obtain ⟨z, hz, rfl⟩ := mem_opsQ.1 ho1
      exact hlow z hz
    obtain ⟨y, hy1, ey⟩ := (hin ok' (fun _ _ _ => trivial) (by rw [← h.has c hc _ hoN]; exact ho) hp').2 ⟨ho1, ho2⟩
    refine mem_opsQ.2 ⟨y, (k2 y).2 ⟨hy1, ?_⟩, ey⟩
    rw [← hB]
    unfold plOf at hx2 ⊢
    rw [ey, ← e]
    exact hx2
  · intro hm
    obtain ⟨y, hy, e⟩ := mem_opsQ.1 hm
    obtain ⟨hy1, hy2⟩ := (k2 y).1 hy
    have hyl : y ∈ s'.ops d := by
      rw [ok'.spl d hd]
      exact List.mem_append_right _ (List.mem_filter.1 (hp'.mem_iff.1 hy1)).1
    have hoN : o.id.2.toNat < N := by rw [← e]; exact hlow y hyl
    obtain ⟨ho1, ho2⟩ := (hin ok' (fun _ _ _ => trivial) (by rw [← h.has c hc _ hoN]; exact ho) hp').1 ⟨y, hy1, e⟩
    rw [← hops] at ho1
    obtain ⟨x, hx1, ex⟩ := (hin ok (fun _ _ _ => trivial) ho hp).2 ⟨ho1, ho2⟩
    refine mem_opsQ.2 ⟨x, (k1 x).2 ⟨hx1, ?_⟩, ex⟩
    rw [hB]
    unfold plOf at hy2 ⊢
    rw [ex, ← e]
    exact hy2
/-- DELIVER. -/
theorem Sim.deliver {N : Nat} {M M' : Nat → List MOp} {s s' : RoomS} (h : Sim N M M' s s') (ok : RoomOk N M s) (ok' : RoomOk N M' s') {c d : Nat} (hc : c < N) (hd : d < N) (hcd : c ≠ d) {t t' : RoomS} (ht : DeliverTo N s c d t) (ht' : DeliverTo N s' c d t') : Sim N M M' t t' := by
  have hm := h.ms c d hc hd hcd
  have k1 := ok.msgs c d hc hd hcd
  have k2 := ok'.msgs c d hc hd hcd
  have q1 := ok.qok c d hc hd hcd
  have q2 := ok'.qok c d hc hd hcd
  unfold DeliverTo at ht ht'
  match hs : s.ms c d, hs' : s'.ms c d, hm with
  | [], [], _ =>
    rw [hs] at ht
    rw [hs'] at ht'
    subst ht ht'
    exact h
  | .inl l :: ms, .inl l' :: ms', hm =>
    rw [hs] at ht
    rw [hs'] at ht'
    obtain ⟨ls, hp, ha, rfl⟩ := ht
    obtain ⟨ls', hp', ha', rfl⟩ := ht'
    obtain rfl : l = l' := hm.1
    have hB := h.bats ok ok' hc hd hp ha hp' ha'
    have h1 := h.msTo hc hd hcd hm.2
    have h2 : Sim N M M' (mindS (Go.Proofs.YtnkpogjiiohapaaGreatDoor.msTo s c d ms) d c (rowOf l)) (mindS (Go.Proofs.YtnkpogjiiohapaaGreatDoor.msTo s' c d ms') d c (rowOf l)) := ⟨h1.made, h1.has, h1.gt, h1.early, h1.ms⟩
    exact h2.msTo hd hc hcd.symm (All2.sentS (h1.ms d c hd hc hcd.symm) hB)
  | .inr xs :: ms, .inr ys :: ms', hm =>
    rw [hs] at ht
    rw [hs'] at ht'
    obtain ⟨e, he, rfl⟩ := ht
    obtain ⟨e', he', rfl⟩ := ht'
    rw [hs] at k1 q1
    rw [hs'] at k2 q2
    have h1 := h.msTo hc hd hcd hm.2
    have o1 : RoomOk N M (Go.Proofs.YtnkpogjiiohapaaGreatDoor.msTo s c d ms) := ok.ms (fun m hmm => k1 m (List.mem_cons_of_mem _ hmm)) (fun m hmm => q1 m (List.mem_cons_of_mem _ hmm))
    have o2 : RoomOk N M' (Go.Proofs.YtnkpogjiiohapaaGreatDoor.msTo s' c d ms') := ok'.ms (fun m hmm => k2 m (List.mem_cons_of_mem _ hmm)) (fun m hmm => q2 m (List.mem_cons_of_mem _ hmm))
    exact h1.hear o1 o2 hd (k1 _ List.mem_cons_self) (k2 _ List.mem_cons_self) hm.1 he he'
  | .inl _ :: _, .inr _ :: _, hm => exact hm.1.elim
  | .inr _ :: _, .inl _ :: _, hm => exact hm.1.elim
end
/-- A copy writes. -/
theorem Sim.wrote {N : Nat} {M M' : Nat → List MOp} {s s' : RoomS} (h : Sim N M M' s s') {c : Nat} (hc : c < N) (chg : QChg) (t t' : TypeId) (v v' : Value) : Sim N (doneM M s c chg t v) (doneM M' s' c chg t' v') (wroteS s c chg t v) (wroteS s' c chg t' v') := by
  refine ⟨fun e he => ?_, fun e he i hi => ?_, fun e he => ?_, fun e he k hkb => ?_, fun a b ha hb hab => ?_⟩
  · unfold doneM
    by_cases hec : e = c
    · subst hec
      rw [addM_same, addM_same]
      unfold opsQ newOp
      have := h.made e he
      unfold opsQ at this
      rw [List.map_append, List.map_append, this, h.gt e he, h.has e he e he]
      rfl
    · rw [addM_ne _ _ hec, addM_ne _ _ hec]
      exact h.made e he
  · unfold wroteS copyS
    simp only
    by_cases hec : e = c
    · subst hec
      rw [upd_same, upd_same]
      by_cases hic : i = e
      · subst hic
        rw [upd_same, upd_same, h.has i he i he]
      · rw [upd_ne _ _ hic, upd_ne _ _ hic]
        exact h.has e he i hi
    · rw [upd_ne _ _ hec, upd_ne _ _ hec]
      exact h.has e he i hi
  · unfold wroteS copyS
    simp only
    by_cases hec : e = c
    · subst hec
      rw [upd_same, upd_same, h.gt e he]
    · rw [upd_ne _ _ hec, upd_ne _ _ hec]
      exact h.gt e he
  · unfold wroteS copyS at hkb ⊢
    simp only at hkb ⊢
    by_cases hec : e = c
    · subst hec
      rw [upd_same] at hkb
      rw [upd_same, upd_same]
      refine h.early e he k (Int.lt_of_le_of_lt ?_ hkb)
      by_cases hke : k.1.toNat = e
      · rw [hke, upd_same]
        omega
      · rw [upd_ne _ _ hke]
        exact Int.le_refl _
    · rw [upd_ne _ _ hec] at hkb
      rw [upd_ne _ _ hec, upd_ne _ _ hec]
      exact h.early e he k hkb
  · have := h.ms a b ha hb hab
    unfold wroteS copyS
    simp only
    by_cases hbc : b = c
    · subst hbc
      rw [upd_same]
      refine All2.imp (fun _ _ => MsgS.more fun i => ?_) this
      by_cases hib : i = b
      · subst hib
        rw [upd_same]
        omega
      · rw [upd_ne _ _ hib]
        exact Int.le_refl _
    · rw [upd_ne _ _ hbc]
      exact this

end Go.Proofs.YtnkpogjiiohapaaGreatDoor

/-! ULawA: Plain: what a step writes is told by what its copy shows. -/
namespace Go.Proofs.YtnkpogjiiohapaaGreatDoor

theorem ascI_unique : ∀ {l m : List PId}, Asc l → Asc m → l.Perm m → l = m
  | [], m, _, _, hp => hp.nil_eq
  | a :: l, [], _, _, hp => absurd hp.length_eq (by simp)
  | a :: l, b :: m, hl, hm, hp => by
    obtain ⟨hl1, hl2⟩ := List.pairwise_cons.1 hl
    obtain ⟨hm1, hm2⟩ := List.pairwise_cons.1 hm
    have hab : a = b := by
      rcases List.mem_cons.1 (hp.mem_iff.1 (List.mem_cons_self (a := a) (l := l))) with h | h
      · exact h
      · rcases List.mem_cons.1 (hp.mem_iff.2 (List.mem_cons_self (a := b) (l := m))) with h' | h'
        · exact h'.symm
        · have := ltI_trans (hl1 b h') (hm1 a h)
          rw [ltI_irr] at this
          cases this
    subst hab
    rw [ascI_unique hl2 hm2 hp.cons_inv]
/-- Changes, one behind another. -/
def WroteX (c : Nat) : List QChg → (Nat → List MOp) → RoomS → (Nat → List MOp) → RoomS → Prop
  | [], M, s, M', s' => M' = M ∧ s' = s
  | g :: gs, M, s, M', s' => ∃ t v, WroteX c gs (doneM M s c g t v) (wroteS s c g t v) M' s'
theorem Sim.wroteX {N c : Nat} (hc : c < N) : ∀ (gs : List QChg) {M M' : Nat → List MOp} {s s' : RoomS} {M1 M1' : Nat → List MOp} {s1 s1' : RoomS}, Sim N M M' s s' → WroteX c gs M s M1 s1 → WroteX c gs M' s' M1' s1' → Sim N M1 M1' s1 s1'
  | [], _, _, _, _, _, _, _, _, h, ⟨h1, h2⟩, ⟨h3, h4⟩ => by subst h1 h2 h3 h4; exact h
  | g :: gs, _, _, _, _, _, _, _, _, h, ⟨t, v, h1⟩, ⟨t', v', h2⟩ => Sim.wroteX hc gs (h.wrote hc g t t' v v') h1 h2
theorem WroteX.went {N c : Nat} : ∀ (gs : List QChg) {M : Nat → List MOp} {s : RoomS} {M1 : Nat → List MOp} {s1 : RoomS}, WroteX c gs M s M1 s1 → Went N M s (some c) M1 s1
  | [], _, _, _, _, ⟨h1, h2⟩ => by subst h1 h2; exact Went.refl ..
  | g :: gs, _, _, _, _, ⟨t, v, h1⟩ => (Went.wrote ..).trans (WroteX.went gs h1)
def giversAt (o : PObj) (key : ByteArray) (y : PId) (ss : List PId) : Prop := ss.Perm ((heldsAt o key y).map (·.giver)) ∧ Asc ss
theorem givers_one {o : PObj} {key : ByteArray} {y : PId} {ss ss' : List PId} (h : giversAt o key y ss) (h' : giversAt o key y ss') : ss = ss' := ascI_unique h.2 h'.2 (h.1.trans h'.1.symm)
def lenE (R : List PObj) (ls : PId) : Nat := match elementsP R ls with | .ok l => l.length | .error _ => 0
def putC (R : List PObj) (own : Int) (x : PId) (key : ByteArray) (n : Int) (gs : List QChg) : Prop :=
  (((∃ m, keyedP R x key = .error m) ∨ ¬ own < 60) ∧ gs = []) ∨
  ∃ o ss, objOf R x = some o ∧ o.list = false ∧ keyOk key = true ∧ own < 60 ∧ giversAt o key (0, 0) ss ∧ gs = [.inr (.inr (.inl (x, key, (0, 0), (n, (0, 0)), ss)))]
def cutC (R : List PObj) (own : Int) (x : PId) (key : ByteArray) (gs : List QChg) : Prop :=
  (((∃ m, keyedP R x key = .error m) ∨ (∃ o, objOf R x = some o ∧ heldsAt o key (0, 0) = []) ∨ ¬ own < 60) ∧ gs = []) ∨
  ∃ o ss, objOf R x = some o ∧ o.list = false ∧ keyOk key = true ∧ own < 60 ∧ heldsAt o key (0, 0) ≠ [] ∧ giversAt o key (0, 0) ss ∧ gs = [.inr (.inr (.inr (x, key, (0, 0), ss)))]
def elC (R : List PObj) (own : Int) (x : PId) (i : Int) (f : PId → List PId → QChg) (gs : List QChg) : Prop :=
  (((∃ m, elementsP R x = .error m) ∨ (∃ o, objOf R x = some o ∧ (i < 0 ∨ ((pseen o).length : Int) ≤ i)) ∨ ¬ own < 60) ∧ gs = []) ∨
  ∃ o y ss, objOf R x = some o ∧ o.list = true ∧ own < 60 ∧ ¬ (i < 0 ∨ ((pseen o).length : Int) ≤ i) ∧ (pseen o)[i.toNat]? = some y ∧ giversAt o ⟨#[]⟩ y ss ∧ gs = [f y ss]
def insC (R : List PObj) (own gt : Int) (c : Nat) (x : PId) (i n : Int) (gs : List QChg) : Prop :=
  (((∃ m, elementsP R x = .error m) ∨ (∃ o, objOf R x = some o ∧ behindP (pseen o) i = none) ∨ ¬ own + 2 ≤ 60) ∧ gs = []) ∨
  ∃ o b, objOf R x = some o ∧ o.list = true ∧ own + 2 ≤ 60 ∧ behindP (pseen o) i = some b ∧ gs = [.inr (.inl (x, b)), .inr (.inr (.inl (x, ⟨#[]⟩, (gt + 1, (c : Int)), (n, (0, 0)), [])))]
theorem keyed_no {R : List PObj} {x : PId} {key : ByteArray} {o : PObj} (ho : objOf R x = some o) (hl : o.list = false) (hk : keyOk key = true) {m : Int} : keyedP R x key ≠ .error m := by
  rw [keyed_of ho hl, hk]
  simp
theorem putC_one {R : List PObj} {own : Int} {x : PId} {key : ByteArray} {n : Int} {gs gs' : List QChg} (h : putC R own x key n gs) (h' : putC R own x key n gs') : gs = gs' := by
  rcases h with ⟨h1, rfl⟩ | ⟨o, ss, ho, hl, hk, hlt, hg, rfl⟩ <;> rcases h' with ⟨h1', rfl⟩ | ⟨o', ss', ho', hl', hk', hlt', hg', rfl⟩
  · rfl
  · rcases h1 with ⟨m, h1⟩ | h1
    · exact absurd h1 (keyed_no ho' hl' hk')
    · exact absurd hlt' h1
  · rcases h1' with ⟨m, h1⟩ | h1
    · exact absurd h1 (keyed_no ho hl hk)
    · exact absurd hlt h1
  · rw [ho] at ho'
    cases ho'
    rw [givers_one hg hg']
theorem cutC_one {R : List PObj} {own : Int} {x : PId} {key : ByteArray} {gs gs' : List QChg} (h : cutC R own x key gs) (h' : cutC R own x key gs') : gs = gs' := by
  have mix : ∀ {o ss}, ((∃ m, keyedP R x key = .error m) ∨ (∃ o, objOf R x = some o ∧ heldsAt o key (0, 0) = []) ∨ ¬ own < 60) → objOf R x = some o → o.list = false → keyOk key = true → own < 60 → heldsAt o key (0, 0) ≠ [] → giversAt o key (0, 0) ss → False := fun {o ss} h1 ho hl hk hlt hne _ => by
    rcases h1 with ⟨m, h1⟩ | ⟨o', h1, h2⟩ | h1
    · exact keyed_no ho hl hk h1
    · rw [ho] at h1
      cases h1
      exact hne h2
    · exact h1 hlt
  rcases h with ⟨h1, rfl⟩ | ⟨o, ss, ho, hl, hk, hlt, hne, hg, rfl⟩ <;> rcases h' with ⟨h1', rfl⟩ | ⟨o', ss', ho', hl', hk', hlt', hne', hg', rfl⟩
  · rfl
  · exact (mix h1 ho' hl' hk' hlt' hne' hg').elim
  · exact (mix h1' ho hl hk hlt hne hg).elim
  · rw [ho] at ho'
    cases ho'
    rw [givers_one hg hg']
theorem els_no {R : List PObj} {x : PId} {o : PObj} (ho : objOf R x = some o) (hl : o.list = true) {m : Int} : elementsP R x ≠ .error m := by
  rw [elements_of ho hl]
  simp
theorem elC_one {R : List PObj} {own : Int} {x : PId} {i : Int} {f : PId → List PId → QChg} {gs gs' : List QChg} (h : elC R own x i f gs) (h' : elC R own x i f gs') : gs = gs' := by
  have mix : ∀ {o : PObj}, ((∃ m, elementsP R x = .error m) ∨ (∃ o, objOf R x = some o ∧ (i < 0 ∨ ((pseen o).length : Int) ≤ i)) ∨ ¬ own < 60) → objOf R x = some o → o.list = true → own < 60 → ¬ (i < 0 ∨ ((pseen o).length : Int) ≤ i) → False := fun {o} h1 ho hl hlt hin => by
    rcases h1 with ⟨m, h1⟩ | ⟨o', h1, h2⟩ | h1
    · exact els_no ho hl h1
    · rw [ho] at h1
      cases h1
      exact hin h2
    · exact h1 hlt
  rcases h with ⟨h1, rfl⟩ | ⟨o, y, ss, ho, hl, hlt, hin, hy, hg, rfl⟩ <;> rcases h' with ⟨h1', rfl⟩ | ⟨o', y', ss', ho', hl', hlt', hin', hy', hg', rfl⟩
  · rfl
  · exact (mix h1 ho' hl' hlt' hin').elim
  · exact (mix h1' ho hl hlt hin).elim
  · rw [ho] at ho'
    cases ho'
    rw [hy] at hy'
    cases hy'
    rw [givers_one hg hg']
theorem insC_one {R : List PObj} {own gt : Int} {c : Nat} {x : PId} {i n : Int} {gs gs' : List QChg} (h : insC R own gt c x i n gs) (h' : insC R own gt c x i n gs') : gs = gs' := by
  have mix : ∀ {o : PObj} {b : PId}, ((∃ m, elementsP R x = .error m) ∨ (∃ o, objOf R x = some o ∧ behindP (pseen o) i = none) ∨ ¬ own + 2 ≤ 60) → objOf R x = some o → o.list = true → own + 2 ≤ 60 → behindP (pseen o) i = some b → False := fun {o b} h1 ho hl hlt hb => by
    rcases h1 with ⟨m, h1⟩ | ⟨o', h1, h2⟩ | h1
    · exact els_no ho hl h1
    · rw [ho] at h1
      cases h1
      rw [hb] at h2
      cases h2
    · exact h1 hlt
  rcases h with ⟨h1, rfl⟩ | ⟨o, b, ho, hl, hlt, hb, rfl⟩ <;> rcases h' with ⟨h1', rfl⟩ | ⟨o', b', ho', hl', hlt', hb', rfl⟩
  · rfl
  · exact (mix h1 ho' hl' hlt' hb').elim
  · exact (mix h1' ho hl hlt hb).elim
  · rw [ho] at ho'
    cases ho'
    rw [hb] at hb'
    cases hb'
    rfl
/-- What a step writes. -/
def WriteC (R : List PObj) (own gt : Int) (c : Nat) (ls : PId) (p : Stp) (gs : List QChg) : Prop :=
  if pickN p.k 8 ≤ 3 then insC R own gt c ls (pickN p.a (lenE R ls + 1)) p.n gs
  else if pickN p.k 8 = 4 then elC R own ls (pickN p.a (lenE R ls + 1)) (fun y ss => .inr (.inr (.inr (ls, ⟨#[]⟩, y, ss)))) gs
  else if pickN p.k 8 = 5 then elC R own ls (pickN p.a (lenE R ls + 1)) (fun y ss => .inr (.inr (.inl (ls, ⟨#[]⟩, y, (p.n, (0, 0)), ss)))) gs
  else if pickN p.k 8 = 6 then putC R own (0, 0) (keyN p.a) p.n gs
  else cutC R own (0, 0) (keyN p.a) gs
theorem WriteC_one {R : List PObj} {own gt : Int} {c : Nat} {ls : PId} {p : Stp} {gs gs' : List QChg} (h : WriteC R own gt c ls p gs) (h' : WriteC R own gt c ls p gs') : gs = gs' := by
  unfold WriteC at h h'
  split at h
  · rename_i hk; rw [if_pos hk] at h'; exact insC_one h h'
  · rename_i hk
    rw [if_neg hk] at h'
    split at h
    · rename_i hk; rw [if_pos hk] at h'; exact elC_one h h'
    · rename_i hk
      rw [if_neg hk] at h'
      split at h
      · rename_i hk; rw [if_pos hk] at h'; exact elC_one h h'
      · rename_i hk
        rw [if_neg hk] at h'
        split at h
        · rename_i hk; rw [if_pos hk] at h'; exact putC_one h h'
        · rename_i hk; rw [if_neg hk] at h'; exact cutC_one h h'
/-- WHAT A STEP MAKES OF A ROOM, just so. -/
def DoesX (p : Stp) (N : Nat) (ls : PId) (M : Nat → List MOp) (s : RoomS) (M' : Nat → List MOp) (s' : RoomS) : Prop :=
  if pickN (p.k.tdiv 8) 12 ≤ 4 then ∃ gs, WriteC (ROf (s.ops (pickN p.c N))) (s.has (pickN p.c N) (pickN p.c N)) (s.gt (pickN p.c N)) (pickN p.c N) ls p gs ∧ WroteX (pickN p.c N) gs M s M' s'
  else if pickN (p.k.tdiv 8) 12 ≤ 6 then M' = M ∧ s' = askS N s (pickN p.c N) (toN p N)
  else if pickN (p.k.tdiv 8) 12 ≤ 8 then M' = M ∧ DeliverTo N s (pickN p.c N) (toN p N) s'
  else if pickN (p.k.tdiv 8) 12 = 9 then M' = M ∧ s' = loseS s (pickN p.c N) (toN p N)
  else if pickN (p.k.tdiv 8) 12 = 10 then M' = M ∧ s' = againS s (pickN p.c N) (toN p N)
  else M' = M ∧ s' = laterS s (pickN p.c N) (toN p N)
/-- THE SAME STEP, TWICE. -/
theorem Sim.does {N : Nat} (h2 : 2 ≤ N) {M M' : Nat → List MOp} {s s' : RoomS} (h : Sim N M M' s s') (ok : RoomOk N M s) (ok' : RoomOk N M' s') {p : Stp} {ls : PId} {M1 M1' : Nat → List MOp} {s1 s1' : RoomS} (hd : DoesX p N ls M s M1 s1) (hd' : DoesX p N ls M' s' M1' s1') : Sim N M1 M1' s1 s1' := by
  have hc := pickN_lt p.c (show 0 < N by omega)
  have hdl := toN_lt p (show 0 < N by omega)
  have hcd := toN_ne p h2
  unfold DoesX at hd hd'
  split at hd
  · rename_i hk
    rw [if_pos hk] at hd'
    obtain ⟨gs, hw, hx⟩ := hd
    obtain ⟨gs', hw', hx'⟩ := hd'
    rw [← h.R ok ok' hc, ← h.has _ hc _ hc, ← h.gt _ hc] at hw'
    obtain rfl := WriteC_one hw hw'
    exact Sim.wroteX hc gs h hx hx'
  · rename_i hk
    rw [if_neg hk] at hd'
    split at hd
    · rename_i hk
      rw [if_pos hk] at hd'
      obtain ⟨rfl, rfl⟩ := hd
      obtain ⟨rfl, rfl⟩ := hd'
      exact h.ask hc hdl hcd
    · rename_i hk
      rw [if_neg hk] at hd'
      split at hd
      · rename_i hk
        rw [if_pos hk] at hd'
        obtain ⟨rfl, hd⟩ := hd
        obtain ⟨rfl, hd'⟩ := hd'
        exact h.deliver ok ok' hc hdl hcd hd hd'
      · rename_i hk
        rw [if_neg hk] at hd'
        split at hd
        · rename_i hk
          rw [if_pos hk] at hd'
          obtain ⟨rfl, rfl⟩ := hd
          obtain ⟨rfl, rfl⟩ := hd'
          exact h.lose hc hdl hcd
        · rename_i hk
          rw [if_neg hk] at hd'
          split at hd
          · rename_i hk
            rw [if_pos hk] at hd'
            obtain ⟨rfl, rfl⟩ := hd
            obtain ⟨rfl, rfl⟩ := hd'
            exact h.again hc hdl hcd
          · rename_i hk
            rw [if_neg hk] at hd'
            obtain ⟨rfl, rfl⟩ := hd
            obtain ⟨rfl, rfl⟩ := hd'
            exact h.later hc hdl hcd

end Go.Proofs.YtnkpogjiiohapaaGreatDoor
