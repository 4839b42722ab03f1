/- Our own text (GGhD, GRoomF, GRoomG). -/
import Derived.Test.YtnkpogjiiohapaaGreatDoorA30
import Derived.Test.YtnkpogjiiohapaaGreatDoorA29
set_option linter.unusedSimpArgs false
set_option linter.unusedVariables false

/-! GGhD: Plain: a copy makes one operation more. -/
namespace Go.Proofs.YtnkpogjiiohapaaGreatDoor

def addM (M : Nat → List MOp) (c : Nat) (o : MOp) : Nat → List MOp := upd M c (M c ++ [o])
theorem addM_same (M : Nat → List MOp) (c : Nat) (o : MOp) : addM M c o c = M c ++ [o] := upd_same _ _ _
theorem addM_ne (M : Nat → List MOp) {c e : Nat} (o : MOp) (h : e ≠ c) : addM M c o e = M e := upd_ne _ _ h
theorem addM_sub {M : Nat → List MOp} {c e : Nat} {o y : MOp} (h : y ∈ M e) : y ∈ addM M c o e := by
  by_cases he : e = c
  · subst he; rw [addM_same]; exact List.mem_append_left _ h
  · rw [addM_ne _ _ he]; exact h
theorem addM_len (M : Nat → List MOp) (c e : Nat) (o : MOp) : (M e).length ≤ (addM M c o e).length := by
  by_cases he : e = c
  · subst he; rw [addM_same]; simp
  · rw [addM_ne _ _ he]; exact Nat.le_refl _
theorem isMade.add {N : Nat} {M : Nat → List MOp} {c : Nat} {o y : MOp} (h : isMade N M y) : isMade N (addM M c o) y := by
  obtain ⟨e, he, hm⟩ := h
  exact ⟨e, he, addM_sub hm⟩
theorem MsgOk.add {N : Nat} {M : Nat → List MOp} {c : Nat} {o : MOp} : ∀ {m : Msg}, MsgOk N M m → MsgOk N (addM M c o) m
  | .inl _, ⟨h1, h2⟩ => ⟨h1, fun i hi => ⟨(h2 i hi).1, Int.le_trans (h2 i hi).2 (by have := addM_len M c i o; omega)⟩⟩
  | .inr _, h => fun y hy => (h y hy).add
theorem tot_add {M : Nat → List MOp} {c : Nat} {o : MOp} : ∀ n, tot (addM M c o) n = tot M n + if c < n then 1 else 0
  | 0 => by simp [tot]
  | n + 1 => by
    unfold tot
    rw [tot_add n]
    by_cases h : n = c
    · subst h
      rw [addM_same, if_neg (by omega), if_pos (by omega), List.length_append]
      simp
      omega
    · rw [addM_ne _ _ h]
      by_cases h2 : c < n
      · rw [if_pos h2, if_pos (by omega)]; omega
      · rw [if_neg h2, if_neg (by omega)]; omega
theorem tot_le {N : Nat} {M : Nat → List MOp} (h : ∀ c, c < N → (M c).length ≤ 60) : ∀ n, n ≤ N → tot M n ≤ n * 60
  | 0, _ => Nat.le_refl _
  | n + 1, hn => by
    have h1 := tot_le h n (by omega)
    have h2 := h n (by omega)
    unfold tot
    omega
theorem take_add {M : Nat → List MOp} {c e : Nat} {o : MOp} {n : Nat} (h : n ≤ (M e).length) : (addM M c o e).take n = (M e).take n := by
  by_cases he : e = c
  · subst he; rw [addM_same, List.take_append_of_le_length h]
  · rw [addM_ne _ _ he]
/-- What a copy has while another one makes one more. -/
theorem CopyOk.add {N : Nat} {M : Nat → List MOp} {gt : Int} {has : Nat → Int} {ops : List MOp} {early : List (PId × MOp)} (h : CopyOk N M gt has ops early) (c : Nat) (o : MOp) : CopyOk N (addM M c o) gt has ops early := by
  refine ⟨fun e he => ⟨(h.hasL e he).1, Int.le_trans (h.hasL e he).2 (by have := addM_len M c e o; omega)⟩, ?_, h.gtL, fun p hp => ⟨(h.earlyL p hp).1.add, (h.earlyL p hp).2⟩, h.keysL⟩
  rw [firsts_congr (M' := M) (has' := has) fun e he => take_add (by have := h.hasL e he; omega)]
  exact h.perm
theorem firsts_add {M : Nat → List MOp} {has : Nat → Int} {c : Nat} {o : MOp} {N : Nat} (hb : ∀ e, e < N → 0 ≤ has e ∧ has e ≤ (M e).length) (hc : has c = (M c).length) : ∀ n, n ≤ N → (firsts (addM M c o) (upd has c (has c + 1)) n).Perm (firsts M has n ++ if c < n then [o] else [])
  | 0, _ => by simp [firsts]
  | n + 1, hn => by
    have ih := firsts_add (o := o) hb hc n (by omega)
    rw [firsts_succ, firsts_succ]
    by_cases h : n = c
    · subst h
      rw [addM_same, upd_same, if_pos (by omega)]
      rw [if_neg (by omega), List.append_nil] at ih
      have e1 : (M n ++ [o]).take (has n + 1).toNat = M n ++ [o] := List.take_of_length_le (by rw [List.length_append]; simp; omega)
      have e2 : (M n).take (has n).toNat = M n := List.take_of_length_le (by omega)
      rw [e1, e2, List.append_assoc]
      exact ih.append_right _
    · have hbn := hb n (by omega)
      rw [upd_ne _ _ h, take_add (by omega)]
      by_cases h2 : c < n
      · rw [if_pos h2] at ih
        rw [if_pos (by omega)]
        refine (ih.append_right _).trans ?_
        rw [List.append_assoc, List.append_assoc]
        exact List.Perm.append_left _ List.perm_append_comm
      · rw [if_neg h2] at ih
        rw [if_neg (by omega), List.append_nil]
        rw [List.append_nil] at ih
        exact ih.append_right _

/-- ONE OPERATION MORE. -/
theorem RoomOk.wrote {N : Nat} {M : Nat → List MOp} {s : RoomS} (h : RoomOk N M s) {c : Nat} (hc : c < N) (hl : (M c).length < 60) (chg : QChg) (t : TypeId) (v : Value) :
    RoomOk N (addM M c (newOp c (s.gt c) (s.has c) chg t v)) (copyS s c (s.gt c + 1) (upd (s.has c) c (s.has c c + 1)) (s.ops c ++ [newOp c (s.gt c) (s.has c) chg t v]) (s.kept c ++ [newOp c (s.gt c) (s.has c) chg t v]) (s.early c)) := by
  obtain ⟨o, ho⟩ : ∃ o, o = newOp c (s.gt c) (s.has c) chg t v := ⟨_, rfl⟩
  have o1 : o.op.id.1 = s.gt c + 1 := by rw [ho]; rfl
  have o2 : o.op.id.2 = (c : Int) := by rw [ho]; rfl
  have o3 : o.op.nth = s.has c c + 1 := by rw [ho]; rfl
  rw [← ho]
  clear ho
  have hown := h.own c hc
  have hg0 := (h.gtU c hc).1
  have hle : ∀ y ∈ M c, y.op.id.1 ≤ s.gt c := fun y hy => by
    have hym : isMade N M y := ⟨c, hc, hy⟩
    obtain ⟨i, hi, e, a1, a2, _⟩ := h.made.at hc hy
    exact (h.copy c hc).gtL y (((h.copy c hc).mem h.made hym).2 (by rw [show y.op.id.2.toNat = c by omega]; omega))
  have hmade : MadeOk N (addM M c o) := by
    refine ⟨fun e he i hi => ?_, fun e he => ?_, fun e he => ?_⟩
    · by_cases hec : e = c
      · subst hec
        simp only [addM_same] at hi ⊢
        rw [List.length_append, List.length_singleton] at hi
        by_cases hlt : i < (M e).length
        · rw [List.getElem_append_left hlt]
          exact h.made.id e he i hlt
        · have hie : i = (M e).length := by omega
          subst hie
          rw [List.getElem_append_right (Nat.le_refl _)]
          simp only [Nat.sub_self, List.getElem_cons_zero]
          exact ⟨o2, by rw [o3, hown], by rw [o1]; omega⟩
      · simp only [addM_ne _ _ hec] at hi ⊢
        exact h.made.id e he i hi
    · by_cases hec : e = c
      · subst hec
        rw [addM_same, List.length_append, List.length_singleton]
        omega
      · rw [addM_ne _ _ hec]; exact h.made.len e he
    · by_cases hec : e = c
      · subst hec
        rw [addM_same]
        refine List.pairwise_append.2 ⟨h.made.asc e he, List.pairwise_singleton _ _, fun a ha b hb => ?_⟩
        obtain rfl := List.mem_singleton.1 hb
        have := hle a ha
        omega
      · rw [addM_ne _ _ hec]; exact h.made.asc e he
  have hge : ∀ a i, s.has a i ≤ upd s.has c (upd (s.has c) c (s.has c c + 1)) a i := fun a i => by
    by_cases ea : a = c
    · subst ea
      rw [upd_same]
      by_cases ei : i = a
      · subst ei; rw [upd_same]; omega
      · rw [upd_ne _ _ ei]; exact Int.le_refl _
    · rw [upd_ne _ _ ea]; exact Int.le_refl _
  have hQ : ∀ d, d < N → ∀ l, QOk N M (s.has d) d l → QOk N (addM M c o) (upd s.has c (upd (s.has c) c (s.has c c + 1)) d) d l := fun d hd l hq => by
    refine ⟨fun i hi => ⟨(hq.1 i hi).1, Int.le_trans (hq.1 i hi).2 (hge d i)⟩, fun y hy hly e he g hg hgl => ?_⟩
    have hg' : g ∈ M e := by
      by_cases hec : e = c
      · subst hec
        rw [addM_same] at hg
        rcases List.mem_append.1 hg with hg | hg
        · exact hg
        · exfalso
          obtain rfl := List.mem_singleton.1 hg
          have h1 := (hq.1 e he).2
          have h2 := ((h.copy d hd).hasL e he).2
          omega
      · rw [addM_ne _ _ hec] at hg; exact hg
    by_cases hdc : d = c
    · subst hdc
      rw [addM_same] at hy
      rcases List.mem_append.1 hy with hy | hy
      · exact hq.2 y hy hly e he g hg' hgl
      · obtain rfl := List.mem_singleton.1 hy
        obtain ⟨i, hi, _, a1, a2, _⟩ := h.made.at he hg'
        have h1 := (hq.1 e he).2
        have := (h.copy d hd).gtL g (((h.copy d hd).mem h.made ⟨e, he, hg'⟩).2 (by rw [show g.op.id.2.toNat = e by omega]; omega))
        omega
    · rw [addM_ne _ _ hdc] at hy
      exact hq.2 y hy hly e he g hg' hgl
  have hM : ∀ d, d < N → ∀ m, MsgQ N M (s.has d) d m → MsgQ N (addM M c o) (upd s.has c (upd (s.has c) c (s.has c c + 1)) d) d m := fun d hd m => by
    cases m with
    | inl l => exact hQ d hd (rowOf l)
    | inr _ => exact fun _ => trivial
  refine ⟨hmade, fun e he => ?_, fun e he => ?_, fun e he => ?_, fun e he => ?_, fun e he y hy => ?_, fun a b ha hb hab m hm => (h.msgs a b ha hb hab m hm).add, fun e he => ?_, fun a b ha hb hab m hm => hM a ha m (h.qok a b ha hb hab m hm), fun a b ha hb hab => hQ b hb _ (h.nok a b ha hb hab), fun e he g hg d hd => Int.le_trans (h.gnl e he g hg d hd) (hge d _), fun e he g hg d hd y hy hly => ?_⟩
  · unfold copyS
    by_cases hec : e = c
    · subst hec
      simp only [upd_same]
      refine ⟨fun i hi => ?_, ?_, fun y hy => ?_, fun p hp => ⟨((h.copy e he).earlyL p hp).1.add, ((h.copy e he).earlyL p hp).2⟩, (h.copy e he).keysL⟩
      · by_cases hie : i = e
        · subst hie
          rw [upd_same, addM_same, List.length_append, List.length_singleton]
          omega
        · rw [upd_ne _ _ hie, addM_ne _ _ hie]
          exact (h.copy e he).hasL i hi
      · have := firsts_add (o := o) (h.copy e he).hasL hown N (Nat.le_refl _)
        rw [if_pos he] at this
        exact ((h.copy e he).perm.append_right _).trans this.symm
      · rcases List.mem_append.1 hy with hy | hy
        · have := (h.copy e he).gtL y hy; omega
        · obtain rfl := List.mem_singleton.1 hy; omega
    · simp only [upd_ne _ _ hec]
      exact (h.copy e he).add c o
  · unfold copyS
    by_cases hec : e = c
    · subst hec
      simp only [upd_same]
      rw [addM_same, List.length_append, List.length_singleton]
      omega
    · simp only [upd_ne _ _ hec]
      rw [addM_ne _ _ hec]
      exact h.own e he
  · unfold copyS
    by_cases hec : e = c
    · subst hec
      simp only [upd_same]
      refine List.pairwise_append.2 ⟨h.asc e he, List.pairwise_singleton _ _, fun a ha b hb => ?_⟩
      obtain rfl := List.mem_singleton.1 hb
      have := (h.copy e he).gtL a ha
      exact (ltI_iff _ _).2 (.inl (by omega))
    · simp only [upd_ne _ _ hec]
      exact h.asc e he
  · unfold copyS
    by_cases hec : e = c
    · subst hec
      simp only [upd_same]
      refine ⟨by omega, fun g hg _ => ?_⟩
      have := hg e he o (by rw [addM_same]; simp)
      omega
    · simp only [upd_ne _ _ hec]
      obtain ⟨g0, g1⟩ := h.gtU e he
      exact ⟨g0, fun g hg h0 => g1 g (fun f hf y hy => hg f hf y (addM_sub hy)) h0⟩
  · rw [tot_add, if_pos hc]
    by_cases hec : e = c
    · subst hec
      rw [addM_same] at hy
      rcases List.mem_append.1 hy with hy | hy
      · have := h.cnt e he y hy
        omega
      · obtain rfl := List.mem_singleton.1 hy
        have := (h.gtU e he).2 (tot M N) h.cnt (Int.natCast_nonneg _)
        omega
    · rw [addM_ne _ _ hec] at hy
      have := h.cnt e he y hy
      omega
  · unfold copyS
    by_cases hec : e = c
    · subst hec
      simp only [upd_same]
      rw [h.spl e he, List.append_assoc]
    · simp only [upd_ne _ _ hec]
      exact h.spl e he
  · replace hly : upd s.has c (upd (s.has c) c (s.has c c + 1)) e d < y.op.nth := hly
    by_cases hdc : d = c
    · subst hdc
      rw [addM_same] at hy
      rcases List.mem_append.1 hy with hy | hy
      · exact h.gnf e he g hg d hd y hy (Int.lt_of_le_of_lt (hge e d) hly)
      · obtain rfl := List.mem_singleton.1 hy
        have hgo : g ∈ s.ops e := by rw [h.spl e he]; exact List.mem_append_left _ hg
        have hgm := (h.copy e he).made hgo
        have := (h.copy d hd).gtL g (((h.copy d hd).mem h.made hgm).2 (h.gnl e he g hg d hd))
        omega
    · rw [addM_ne _ _ hdc] at hy
      exact h.gnf e he g hg d hd y hy (Int.lt_of_le_of_lt (hge e d) hly)
theorem MadeDoc.wrote {N : Nat} {M : Nat → List MOp} (h : MadeDoc N M) {c : Nat} {o : MOp} (ho : ChgOk (M c) o.op.chg) : MadeDoc N (addM M c o) := fun e he i hi => by
  by_cases hec : e = c
  · subst hec
    simp only [addM_same] at hi ⊢
    rw [List.length_append, List.length_singleton] at hi
    by_cases hlt : i < (M e).length
    · rw [List.getElem_append_left hlt, List.take_append_of_le_length (by omega)]
      exact h e he i hlt
    · have hie : i = (M e).length := by omega
      subst hie
      rw [List.getElem_append_right (Nat.le_refl _), List.take_append_of_le_length (Nat.le_refl _), List.take_length]
      simp only [Nat.sub_self, List.getElem_cons_zero]
      exact ho
  · simp only [addM_ne _ _ hec] at hi ⊢
    exact h e he i hi

end Go.Proofs.YtnkpogjiiohapaaGreatDoor

/-! GRoomF: The program's room in general: Deliver. -/
namespace Go.Proofs.YtnkpogjiiohapaaGreatDoor
open Go.RowKit
attribute [local go_sem ↓] Go.wp_at_zero Go.wp_at_succ

theorem RoomTo.after {r N sp : Nat} {F I : Nat → Prop} {w W w' : World} {s : RoomS} {F1 I1 : Nat → Prop} (hK : Keeps F F1 w W) (hI : IGo I I1 w W) (h : RoomTo r N sp F1 I1 W w' s) : RoomTo r N sp F I w w' s := by
  obtain ⟨F', I', x', hR, hK', hI'⟩ := h
  exact ⟨F', I', x', hR, hK.trans hK', hI.trans hI' hK.size⟩

/-- What Deliver leaves: 12 where nothing waits. -/
def DelD (r N sp : Nat) (F I : Nat → Prop) (s : RoomS) (c d : Nat) (w : World) (e : Ending) (w' : World) : Prop := e = .returned (.int .i64 (if s.ms c d = [] then 12 else 0)) ∧ ∃ s', DeliverTo N s c d s' ∧ RoomTo r N sp F I w w' s'
set_option maxRecDepth 1000000 in
set_option maxHeartbeats 2000000 in
/-- DELIVER. -/
theorem deliver_any {w : World} {r : Nat} {F I : Nat → Prop} {N sp : Nat} {s : RoomS} {x : RoomX} {M : Nat → List MOp} (h : RoomM w r F I N sp s x) (ok : RoomOk N M s) {c d : Nat} (hc : c < N) (hd : d < N) (hcd : c ≠ d) :
    Calls Tryz.prog 39 #[.pointer (some ⟨r, 0, none⟩), .int .i64 c, .int .i64 d] w fun e w' => DelD r N sp F I s c d w e w' := by
  have HOU := hid (onUsedLink_any h hc hd hcd)
  have hN := h.hN
  cases hm : s.ms c d with
  | nil =>
    rw [if_pos hm] at HOU
    have HM := hid hm
    have HH := hid h; clear h hm ok
    go_enter Tryz.func39, Tryz.ntmps39
    go_wp2_with fail
    refine HOU.out.mono ?_
    rintro e w1 ⟨rfl, rfl⟩
    go_wp2
    go_ret
    exact (show _ ∧ _ from ⟨by rw [if_pos HM.out]; rfl, s, (by unfold DeliverTo; rw [HM.out]), HH.out.same (Below.refl _ _)⟩)
  | cons m ms =>
    have HM := hid hm
    rw [if_neg (by rw [hm]; simp)] at HOU
    obtain ⟨t, v, l, hv, h1, h2, _, _⟩ := h.first hc hd hcd hm
    have hl := h.link c d hc hd hcd
    rw [hv] at hl
    have HR := hid (receive_q hl)
    have hT := setChan_turned w (x.gc c d) 12 l.toArray false (x.sn c d) (x.rn c d + 1) false
    have hR1 := h.linkTo hc hd hcd hl.taken hT h2
    have hK1 : Keeps F F w _ := keeps_link (F := F) (Below.refl _ _) hT (h.fl c d hc hd hcd).2
    have hi : ∀ k, I k → (w.setChan (x.gc c d) 12 l.toArray false (x.sn c d) (x.rn c d + 1) false).heap[k]? = w.heap[k]? := fun k hk => hK1.other k (h.iI k hk) (h.nI k hk)
    have hmsg := h1.keepI hi hT.size (fun _ y => y)
    obtain ⟨w1, hw1⟩ : ∃ w1, w.setChan (x.gc c d) 12 l.toArray false (x.sn c d) (x.rn c d + 1) false = w1 := ⟨_, rfl⟩
    rw [hw1] at HR hR1 hK1 hi hmsg
    clear hT hw1
    have hmok := ok.msgs c d hc hd hcd m (by rw [hm]; exact List.mem_cons_self)
    have ok1 : RoomOk N M (msTo s c d ms) := ok.ms (fun m' h' => ok.msgs c d hc hd hcd m' (by rw [hm]; exact List.mem_cons_of_mem _ h')) (fun m' h' => ok.qok c d hc hd hcd m' (by rw [hm]; exact List.mem_cons_of_mem _ h'))
    have hHas : ∀ i, i < N → 0 ≤ s.has d i ∧ s.has d i ≤ 60 := fun i hi => by
      have e1 := (ok.copy d hd).hasL i hi
      have e2 := ok.made.len i hi
      omega
    have HKI := hid (And.intro hK1 hi)
    cases m with
    | inl q =>
      obtain ⟨g, cg, e, hkn, hgI⟩ := hmsg
      obtain ⟨hql, hqb⟩ := hmok
      rw [hql] at e hkn
      simp only [Value.iface.injEq] at e
      obtain ⟨rfl, rfl⟩ := e
      have HA := hid (arriveQ_any hR1 hc hd hcd hkn hgI (fun i hi => ⟨(hqb i hi).1, (hHas i hi).2⟩) (fun i hi => by
        have e2 := ok.made.len i hi
        have := (hqb i hi).2
        omega) (fun y hy => (ok.copy d hd).copy ok.made ((ok.kept_sub hd).subset hy)) (((ok.copy d hd).ndPl ok.made).sublist ((ok.kept_sub hd).map _)))
      clear h ok hm h1 h2 hl hv hkn hR1 hK1 hi hqb ok1 hHas hgI
      go_enter Tryz.func39, Tryz.ntmps39
      go_wp2_with fail
      refine HOU.out.mono ?_
      rintro e w2 ⟨rfl, rfl⟩
      go_wp2_with fail
      refine HR.out.mono ?_
      rintro e w3 ⟨rfl, rfl⟩
      go_wp2_with fail
      refine HA.out.mono ?_
      rintro e w4 ⟨⟨v4, rfl⟩, ls, hp, ha, hto⟩
      have HX := hid (And.intro hp (And.intro ha hto)); clear hp ha hto
      go_wp2
      go_ret
      refine (show _ ∧ _ from ⟨by rw [HM.out]; rfl, _, ?_, HX.out.2.2.after HKI.out.1 ⟨fun k hk => ⟨hk, HKI.out.2 k hk⟩, fun _ hk => .inl hk⟩⟩)
      unfold DeliverTo
      rw [HM.out]
      exact ⟨ls, HX.out.1, HX.out.2.1, rfl⟩
    | inr xs =>
      obtain ⟨sv, e, hop⟩ := hmsg
      simp only [Value.iface.injEq] at e
      obtain ⟨rfl, rfl⟩ := e
      obtain ⟨hE, hn⟩ := ok1.wait hd hmok
      obtain ⟨hfin, hlen⟩ := ok1.fin hd hmok
      have HA := hid (arriveB_any hR1 hc hd hcd xs hop (fun y hy => (ok.made.nth (hmok y hy)).2.2) hn (fun p hp => by
        rw [(hE p hp).2]
        exact (ok.made.nth (hE p hp).1).2.1) (fun i hi => by have := hHas i hi; exact ⟨this.1, by show s.has d i ≤ 1000; omega⟩) hfin (Nat.le_trans hlen (by omega)) (ok1.ahead hd hmok) (fun y hy => by
        obtain ⟨p, hp, rfl⟩ := ready_mem hy
        exact (ok.made.nth (hE p hp).1).2.2))
      clear h ok hm h1 h2 hl hv hR1 hK1 hi ok1 hHas hE hn hfin hlen hop hmok
      go_enter Tryz.func39, Tryz.ntmps39
      go_wp2_with fail
      refine HOU.out.mono ?_
      rintro e w2 ⟨rfl, rfl⟩
      go_wp2_with fail
      refine HR.out.mono ?_
      rintro e w3 ⟨rfl, rfl⟩
      go_wp2_with fail
      refine HA.out.mono ?_
      rintro e w4 ⟨⟨v4, rfl⟩, early', hC, hto⟩
      have HX := hid (And.intro hC hto); clear hC hto
      go_wp2
      go_ret
      refine (show _ ∧ _ from ⟨by rw [HM.out]; rfl, _, ?_, HX.out.2.after HKI.out.1 ⟨fun k hk => ⟨hk, HKI.out.2 k hk⟩, fun _ hk => .inl hk⟩⟩)
      unfold DeliverTo
      rw [HM.out]
      exact ⟨early', HX.out.1, rfl⟩

end Go.Proofs.YtnkpogjiiohapaaGreatDoor

/-! GRoomG: The program's room in general: what its copies show. -/
namespace Go.Proofs.YtnkpogjiiohapaaGreatDoor
open Go.RowKit

/-- THE ROOM, IN ORDER, ITS DOCUMENTS PLAIN. -/
structure RoomD (w : World) (r : Nat) (F I : Nat → Prop) (N sp : Nat) (M : Nat → List MOp) (s : RoomS) (x : RoomX) : Prop where
  m : RoomM w r F I N sp s x
  ok : RoomOk N M s
  md : MadeDoc N M

theorem nodup_len {α : Type} [DecidableEq α] : ∀ {l m : List α}, l.Nodup → (∀ a ∈ l, a ∈ m) → l.length ≤ m.length
  | [], _, _, _ => Nat.zero_le _
  | a :: l, m, h, hs => by
    obtain ⟨h1, h2⟩ := List.nodup_cons.1 h
    have := nodup_len (m := m.erase a) h2 fun b hb => by
      have hne : b ≠ a := fun e => by rw [e] at hb; exact h1 hb
      exact (List.mem_erase_of_ne hne).2 (hs b (List.mem_cons_of_mem _ hb))
    rw [List.length_erase_of_mem (hs a List.mem_cons_self)] at this
    have hm := List.length_pos_of_mem (hs a List.mem_cons_self)
    simp only [List.length_cons]
    omega
/-- The values of a place are few, each with a giver of its own. -/
theorem vals_ok {R : List PObj} {D : QDoc} {ids : List PId} (ha : Agree R D) (hn : QNd D) (hi : InR R ids) (hl : ids.length ≤ 10000) (ob : PId) (key : ByteArray) (el : PId) : (atPl D.1 D.2 ob key el).vs.length ≤ 10000 ∧ ((atPl D.1 D.2 ob key el).vs.map (·.1)).Nodup := by
  have key0 : ∀ (vs : List (PId × PVal)) (hs : List PHeld), vs.Perm (hs.map hpair) → (vs.map (·.1)).Nodup → (∀ y ∈ hs, y.giver ∈ ids) → vs.length ≤ 10000 := fun vs hs hp hnd hg => by
    have := nodup_len (m := ids) hnd fun a haa => by
      obtain ⟨p, hp1, rfl⟩ := List.mem_map.1 haa
      obtain ⟨y, hy, rfl⟩ := List.mem_map.1 (hp.mem_iff.1 hp1)
      exact hg y hy
    rw [List.length_map] at this
    omega
  unfold atPl
  split
  · rename_i hpl
    split
    · split
      · rename_i e he
        have hnd := hn.ev _ (look_mem he)
        refine ⟨?_, hnd⟩
        obtain ⟨o, ho, hol, hm⟩ := ha.el el e he
        obtain ⟨sl, hs, hsid⟩ := List.mem_map.1 hm
        obtain ⟨_, _, hag⟩ := ha.o1 _ o ho
        obtain ⟨_, _, e', he', _, hp⟩ := hag.elems hol sl hs
        rw [hsid, he] at he'
        cases he'
        exact key0 _ _ hp hnd (hi.giver _ o ho sl hs)
      · exact ⟨Nat.zero_le _, List.nodup_nil⟩
    · rename_i hkey
      split
      · rename_i ob' hob
        split
        · rename_i ck hck
          have hnd := hn.kv _ (look_mem hob) _ (look_mem hck)
          refine ⟨?_, hnd⟩
          cases ho : objOf R ob with
          | none => rw [ha.o0 ob ho] at hob; cases hob
          | some o =>
            obtain ⟨ob2, hob2, hag⟩ := ha.o1 ob o ho
            rw [hob] at hob2
            cases hob2
            have hol : o.list = false := by
              unfold hasPl at hpl
              rw [if_neg hkey, hob] at hpl
              simp only [Option.isSome_some, Bool.true_and, qlist, hob, Bool.not_eq_true'] at hpl
              rw [← hag.list]
              exact hpl
            have hp := hag.kval hol key
            rw [hck] at hp
            refine key0 _ _ hp hnd fun y hy => ?_
            unfold heldsAt at hy
            split at hy
            · rename_i sl hsl
              exact hi.giver ob o ho sl (List.mem_of_find?_eq_some hsl) y hy
            · cases hy
        · exact ⟨Nat.zero_le _, List.nodup_nil⟩
      · exact ⟨Nat.zero_le _, List.nodup_nil⟩
  · exact ⟨Nat.zero_le _, List.nodup_nil⟩

section
theorem RoomD.doc {w : World} {r : Nat} {F I : Nat → Prop} {N sp : Nat} {M : Nat → List MOp} {s : RoomS} {x : RoomX} (h : RoomD w r F I N sp M s x) {c : Nat} (hc : c < N) : Agree (ROf (s.ops c)) (x.q c).D ∧ QNd (x.q c).D ∧ InR (ROf (s.ops c)) (((s.ops c).map fun o => o.op.id).reverse) := by
  have hd := (h.m.reps c hc).hist.did
  rw [← List.length_map (f := fun o : MOp => o.op), List.take_length] at hd
  obtain ⟨a1, a2, _, a4⟩ := h.m.ag c hc
  have ha : DoTo (x.q c).D0.1 ((x.q c).D0.2 ++ (s.kept c).map (·.op)) (x.q c).D := hd
  rw [a4, ← List.map_append, ← h.m.spl c hc] at ha
  exact doc_agree a1 a2 (opsOk h.ok.made h.md (h.ok.copy c hc) (h.ok.asc c hc)) ha
theorem RoomD.ag {w : World} {r : Nat} {F I : Nat → Prop} {N sp : Nat} {M : Nat → List MOp} {s : RoomS} {x : RoomX} (h : RoomD w r F I N sp M s x) {c : Nat} (hc : c < N) : Agree (ROf (s.ops c)) (x.q c).D := (h.doc hc).1
theorem RoomD.len {w : World} {r : Nat} {F I : Nat → Prop} {N sp : Nat} {M : Nat → List MOp} {s : RoomS} {x : RoomX} (h : RoomD w r F I N sp M s x) {c : Nat} (hc : c < N) : (s.ops c).length ≤ 240 := by
  have h1 := (h.ok.copy c hc).len h.ok.made
  have h2 := h.m.hN
  omega
theorem RoomD.wri {w : World} {r : Nat} {F I : Nat → Prop} {N sp : Nat} {M : Nat → List MOp} {s : RoomS} {x : RoomX} (h : RoomD w r F I N sp M s x) {c : Nat} (hc : c < N) : Wri c (s.gt c) (s.has c) (s.kept c) (x.q c) := by
  have hlen := h.len hc
  have hsub := h.ok.kept_sub hc
  have hkl := hsub.length_le
  have hN := h.m.hN
  have htot := tot_le h.ok.made.len N (Nat.le_refl _)
  have hg := (h.ok.gtU c hc).2 (tot M N) h.ok.cnt (Int.natCast_nonneg _)
  have h60 := h.ok.made.len c hc
  have hown := h.ok.own c hc
  refine ⟨⟨(h.ok.gtU c hc).1, by omega⟩, ⟨by omega, by omega⟩, fun o ho => (h.ok.copy c hc).gtL o (hsub.subset ho), by omega, ?_⟩
  obtain ⟨a, b, d⟩ := h.doc hc
  exact vals_ok a b d (by rw [List.length_reverse, List.length_map]; omega)
theorem RoomD.slots {w : World} {r : Nat} {F I : Nat → Prop} {N sp : Nat} {M : Nat → List MOp} {s : RoomS} {x : RoomX} (h : RoomD w r F I N sp M s x) {c : Nat} (hc : c < N) {y : PId} {o : PObj} (ho : objOf (ROf (s.ops c)) y = some o) (hl : o.list = true) : o.ss.length ≤ 300 := by
  obtain ⟨a, _, d⟩ := h.doc hc
  obtain ⟨ob, hob, hag⟩ := a.o1 y o ho
  have hlen := h.len hc
  have := nodup_len (m := ((s.ops c).map fun o => o.op.id).reverse) (hag.eone hl) fun z hz => by
    obtain ⟨sl, hs, rfl⟩ := List.mem_map.1 hz
    exact (d.slot y o ho sl hs).resolve_left (hag.elems hl sl hs).2.1
  rw [List.length_map, List.length_reverse, List.length_map] at this
  omega
theorem RoomD.keep {w : World} {r : Nat} {F I : Nat → Prop} {N sp : Nat} {M : Nat → List MOp} {s : RoomS} {x : RoomX} (h : RoomD w r F I N sp M s x) {w' : World} (hb : Below w.heap.size w w') : RoomD w' r F I N sp M s x := ⟨h.m.keep hb, h.ok, h.md⟩
end

end Go.Proofs.YtnkpogjiiohapaaGreatDoor
