/- Our own text (JLawA). -/
import Derived.Test.YtnkpogjiiohapaaGreatDoorA39
set_option linter.unusedSimpArgs false
set_option linter.unusedVariables false

/-! JLawA: Plain: all that waits arrives; what is asked for comes. -/
namespace Go.Proofs.YtnkpogjiiohapaaGreatDoor

/-- A sum. -/
def sumTo (f : Nat → Nat) : Nat → Nat
  | 0 => 0
  | n + 1 => sumTo f n + f n
theorem sumTo_congr {f g : Nat → Nat} : ∀ {n : Nat}, (∀ i, i < n → f i = g i) → sumTo f n = sumTo g n
  | 0, _ => rfl
  | n + 1, h => by unfold sumTo; rw [sumTo_congr fun i hi => h i (by omega), h n (by omega)]
theorem sumTo_one {f g : Nat → Nat} {c : Nat} : ∀ {n : Nat}, (∀ i, i < n → i ≠ c → g i = f i) → c < n → sumTo g n + f c = sumTo f n + g c
  | 0, _, h => absurd h (Nat.not_lt_zero _)
  | n + 1, h, hc => by
    unfold sumTo
    by_cases e : c = n
    · subst e
      rw [sumTo_congr (f := g) (g := f) fun i hi => h i (by omega) (by omega)]
      omega
    · have := sumTo_one (n := n) (fun i hi => h i (by omega)) (by omega)
      rw [h n (by omega) (fun e' => e e'.symm)]
      omega
/-- What waits, weighed: a question may be answered by three messages. -/
def wtM : Msg → Nat
  | .inl _ => 4
  | .inr _ => 1
def wtL : List Msg → Nat
  | [] => 0
  | m :: l => wtM m + wtL l
theorem wtL_app : ∀ a b : List Msg, wtL (a ++ b) = wtL a + wtL b
  | [], b => by simp [wtL]
  | m :: a, b => by simp only [List.cons_append, wtL]; rw [wtL_app a b]; omega
def wtS (N : Nat) (s : RoomS) : Nat := sumTo (fun c => sumTo (fun d => wtL (s.ms c d)) N) N
theorem wtS_msTo {N : Nat} (s : RoomS) {c d : Nat} (hc : c < N) (hd : d < N) (l : List Msg) : wtS N (msTo s c d l) + wtL (s.ms c d) = wtS N s + wtL l := by
  unfold wtS
  have h1 := sumTo_one (f := fun a => sumTo (fun b => wtL (s.ms a b)) N) (g := fun a => sumTo (fun b => wtL ((msTo s c d l).ms a b)) N) (c := c) (n := N) (fun i _ hi => sumTo_congr fun b _ => by rw [msTo_ms, if_neg fun h => hi h.1]) hc
  have h2 := sumTo_one (f := fun b => wtL (s.ms c b)) (g := fun b => wtL ((msTo s c d l).ms c b)) (c := d) (n := N) (fun i _ hi => by simp only [msTo_ms]; rw [if_neg fun h => hi h.2]) hd
  simp only [msTo_ms] at h1 h2 ⊢
  simp only [and_self, if_true] at h2
  omega
/-- How many questions. -/
def quest : List Msg → Nat
  | [] => 0
  | .inl _ :: l => quest l + 1
  | .inr _ :: l => quest l
theorem quest_app : ∀ a b : List Msg, quest (a ++ b) = quest a + quest b
  | [], b => by simp [quest]
  | .inl _ :: a, b => by simp only [List.cons_append, quest]; rw [quest_app a b]; omega
  | .inr _ :: a, b => by simp only [List.cons_append, quest]; exact quest_app a b
theorem quest_mem {l : List Int} : ∀ {a : List Msg}, .inl l ∈ a → 1 ≤ quest a
  | [], h => by cases h
  | .inl _ :: a, _ => by simp only [quest]; omega
  | .inr _ :: a, h => by
    simp only [quest]
    rcases List.mem_cons.1 h with h | h
    · cases h
    · exact quest_mem h
/-- Batches are sent: what they weigh, how many they are; no question is among them. -/
theorem sent_bats {α : Type} (f : α → List MOp) : ∀ (bs : List α) (ms : List Msg), wtL (sentM ms (bs.map fun b => .inr (f b))) ≤ wtL ms + bs.length ∧ (sentM ms (bs.map fun b => .inr (f b))).length ≤ ms.length + bs.length ∧ quest (sentM ms (bs.map fun b => .inr (f b))) = quest ms
  | [], ms => ⟨Nat.le_refl _, Nat.le_refl _, rfl⟩
  | b :: bs, ms => by
    simp only [List.map_cons]
    unfold sentM
    split
    · obtain ⟨h1, h2, h3⟩ := sent_bats f bs ms
      simp only [List.length_cons]
      exact ⟨by omega, by omega, h3⟩
    · obtain ⟨h1, h2, h3⟩ := sent_bats f bs (ms ++ [.inr (f b)])
      rw [wtL_app] at h1
      rw [quest_app] at h3
      simp only [wtL, wtM, List.length_append, List.length_cons, List.length_nil, quest] at h1 h2 h3 ⊢
      exact ⟨by omega, by omega, by omega⟩
theorem sentM_old {m : Msg} : ∀ {bs ms : List Msg}, m ∈ ms → m ∈ sentM ms bs
  | [], _, h => h
  | b :: bs, ms, h => by
    unfold sentM
    refine sentM_old ?_
    split
    · exact h
    · exact List.mem_append_left _ h
theorem sentM_first {b : Msg} {bs ms : List Msg} (h : ms.length < 12) : b ∈ sentM ms (b :: bs) := by
  unfold sentM
  rw [if_neg (by omega)]
  exact sentM_old (List.mem_append_right _ (List.mem_singleton.2 rfl))
theorem bats_few (ls : List MOp) (known has : Nat → Int) (N : Nat) : (batsOf ls known has N).length ≤ 3 := by
  unfold batsOf
  rw [ans_len, List.length_range]
  omega
theorem bats_map (ls : List MOp) (bs : List (Nat × Nat)) : bs.map (batOf ls) = bs.map fun b => .inr ((ls.drop b.1).take b.2) := rfl

/-- WHAT ARRIVES WEIGHS NO MORE. -/
theorem deliver_wt {N : Nat} {s s' : RoomS} {c d : Nat} (hc : c < N) (hd : d < N) (hcd : c ≠ d) (hs : DeliverTo N s c d s') (hne : s.ms c d ≠ []) : wtS N s' < wtS N s := by
  unfold DeliverTo at hs
  cases e : s.ms c d with
  | nil => exact absurd e hne
  | cons m ms =>
    rw [e] at hs
    have h1 := wtS_msTo s hc hd ms
    rw [e] at h1
    cases m with
    | inl l =>
      obtain ⟨ls, _, _, rfl⟩ := hs
      have h2 := wtS_msTo (msTo s c d ms) hd hc (sentM ((msTo s c d ms).ms d c) ((batsOf ls (rowOf l) (s.has d) N).map (batOf ls)))
      have h3 := (sent_bats (fun b => (ls.drop b.1).take b.2) (batsOf ls (rowOf l) (s.has d) N) ((msTo s c d ms).ms d c)).1
      rw [← bats_map] at h3
      have h4 := bats_few ls (rowOf l) (s.has d) N
      simp only [wtL, wtM] at h1
      omega
    | inr xs =>
      obtain ⟨early', _, rfl⟩ := hs
      have h2 : wtS N (hearS N (msTo s c d ms) d xs early') = wtS N (msTo s c d ms) := rfl
      simp only [wtL, wtM] at h1
      omega
/-- No link waits. -/
def Idle (N : Nat) (s : RoomS) : Prop := ∀ c d, c < N → d < N → c ≠ d → s.ms c d = []

/-- There is room for answers. -/
def Roomy (N : Nat) (s : RoomS) : Prop := ∀ c d, c < N → d < N → c ≠ d → (s.ms c d).length + 3 * quest (s.ms d c) ≤ 12
theorem Roomy.deliver {N : Nat} {s s' : RoomS} {c d : Nat} (h : Roomy N s) (hc : c < N) (hd : d < N) (hcd : c ≠ d) (hs : DeliverTo N s c d s') : Roomy N s' := by
  unfold DeliverTo at hs
  cases e : s.ms c d with
  | nil => rw [e] at hs; rw [hs]; exact h
  | cons m ms =>
    rw [e] at hs
    have hcdR := h c d hc hd hcd
    have hdcR := h d c hd hc (Ne.symm hcd)
    rw [e] at hcdR hdcR
    cases m with
    | inl l =>
      obtain ⟨ls, _, _, rfl⟩ := hs
      have e0 : (msTo s c d ms).ms d c = s.ms d c := by rw [msTo_ms, if_neg fun h => hcd h.1.symm]
      rw [e0]
      obtain ⟨_, h2, h3⟩ := sent_bats (fun b => (ls.drop b.1).take b.2) (batsOf ls (rowOf l) (s.has d) N) (s.ms d c)
      rw [← bats_map] at h2 h3
      have h4 := bats_few ls (rowOf l) (s.has d) N
      simp only [List.length_cons, quest] at hcdR hdcR
      intro a b ha hb hab
      have hR := h a b ha hb hab
      simp only [msTo_ms]
      by_cases e1 : a = d ∧ b = c
      · obtain ⟨rfl, rfl⟩ := e1
        rw [if_pos ⟨rfl, rfl⟩, if_neg fun h => hab h.1.symm, if_pos ⟨rfl, rfl⟩]
        omega
      · rw [if_neg e1]
        by_cases e2 : a = c ∧ b = d
        · obtain ⟨rfl, rfl⟩ := e2
          rw [if_pos ⟨rfl, rfl⟩, if_pos ⟨rfl, rfl⟩]
          omega
        · rw [if_neg e2, if_neg fun h => e2 ⟨h.2, h.1⟩, if_neg fun h => e1 ⟨h.2, h.1⟩]
          exact hR
    | inr xs =>
      obtain ⟨early', _, rfl⟩ := hs
      simp only [List.length_cons, quest] at hcdR hdcR
      intro a b ha hb hab
      have hR := h a b ha hb hab
      show ((msTo s c d ms).ms a b).length + 3 * quest ((msTo s c d ms).ms b a) ≤ 12
      simp only [msTo_ms]
      by_cases e1 : a = d ∧ b = c
      · obtain ⟨rfl, rfl⟩ := e1
        rw [if_neg fun h => hab h.1, if_pos ⟨rfl, rfl⟩]
        omega
      · by_cases e2 : a = c ∧ b = d
        · obtain ⟨rfl, rfl⟩ := e2
          rw [if_pos ⟨rfl, rfl⟩, if_neg fun h => hab h.1.symm]
          omega
        · rw [if_neg e2, if_neg fun h => e1 ⟨h.2, h.1⟩]
          exact hR

theorem takeWhile_mem {p : MOp → Bool} {y : MOp} : ∀ {l : List MOp}, AscP l → y ∈ l → p y = true → (∀ x ∈ l, ltI (plOf x) (plOf y) = true → p x = true) → y ∈ l.takeWhile p
  | [], _, h, _, _ => by cases h
  | x :: l, ha, h, hy, hp => by
    obtain ⟨h1, h2⟩ := List.pairwise_cons.1 ha
    rcases List.mem_cons.1 h with rfl | h
    · rw [List.takeWhile_cons_of_pos hy]; exact List.mem_cons_self
    · rw [List.takeWhile_cons_of_pos (hp x List.mem_cons_self (h1 y h))]
      exact List.mem_cons_of_mem _ (takeWhile_mem h2 h hy fun z hz => hp z (List.mem_cons_of_mem _ hz))
theorem beyTo_none {known has : Nat → Int} : ∀ {n : Nat}, (∀ i, i < n → has i ≤ known i) → beyTo known has n = []
  | 0, _ => rfl
  | n + 1, h => by
    rw [beyTo_succ, beyTo_none fun i hi => h i (by omega), show (has n - known n).toNat = 0 by have := h n (by omega); omega]
    rfl
theorem beyTo_pre {known has : Nat → Int} {e : Nat} : ∀ {n : Nat}, e < n → ∃ l, beyTo known has n = beyTo known has (e + 1) ++ l
  | 0, h => absurd h (Nat.not_lt_zero _)
  | n + 1, h => by
    by_cases he : e = n
    · subst he; exact ⟨[], (List.append_nil _).symm⟩
    · obtain ⟨l, hl⟩ := beyTo_pre (e := e) (known := known) (has := has) (n := n) (by omega)
      rw [beyTo_succ known has n, hl, List.append_assoc]
      exact ⟨_, rfl⟩
theorem mem_part {known has : Nat → Int} {N e : Nat} (he : e < N) (h0 : ∀ i, i < e → has i ≤ known i) {j : Int} (h1 : known e < j) (h2 : j ≤ known e + 8) (h3 : j ≤ has e) : ((e : Int), j) ∈ partOf (beyTo known has N) 0 := by
  obtain ⟨l, hl⟩ := beyTo_pre (known := known) (has := has) he
  unfold partOf
  rw [hl, beyTo_succ, beyTo_none h0, Nat.mul_zero, List.drop_zero, List.nil_append]
  have hlt : (j - known e - 1).toNat < (plsOf e (known e) (has e - known e).toNat).length := by rw [plsOf_len]; omega
  refine List.mem_iff_getElem.2 ⟨(j - known e - 1).toNat, by rw [List.length_take, List.length_append]; omega, ?_⟩
  rw [List.getElem_take, List.getElem_append_left hlt]
  simp only [plsOf, List.getElem_map, List.getElem_range]
  rw [show known e + 1 + (((j - known e - 1).toNat : Nat) : Int) = j by omega]
/-- The first message of an answer. -/
theorem bats_first {ls : List MOp} {known has : Nat → Int} {N : Nat} (h : (beyTo known has N).length ≠ 0) : ∃ bs, (batsOf ls known has N).map (batOf ls) = .inr (ls.takeWhile fun o => decide (plOf o ∈ partOf (beyTo known has N) 0)) :: bs := by
  unfold batsOf
  obtain ⟨k, hk⟩ : ∃ k, min (chunks (beyTo known has N).length) 3 = k + 1 := ⟨min (chunks (beyTo known has N).length) 3 - 1, by unfold chunks; omega⟩
  rw [hk]
  have key : ∀ ks : List Nat, ∃ bs, (ansTo ls (beyTo known has N) (0 :: ks)).2 = (0, cutIn ls (partOf (beyTo known has N) 0)) :: bs := fun ks => by
    have h2 : ∀ (ks : List Nat) (s : Nat × List (Nat × Nat)), ∃ bs, (ks.foldl (ansStep ls (beyTo known has N)) s).2 = s.2 ++ bs := by
      intro ks
      induction ks with
      | nil => exact fun s => ⟨[], (List.append_nil _).symm⟩
      | cons k ks ih =>
        intro s
        obtain ⟨bs, hb⟩ := ih (ansStep ls (beyTo known has N) s k)
        exact ⟨_, by rw [List.foldl_cons, hb]; unfold ansStep; simp only; rw [List.append_assoc]⟩
    obtain ⟨bs, hb⟩ := h2 ks (ansStep ls (beyTo known has N) (0, []) 0)
    refine ⟨bs, ?_⟩
    show (ks.foldl (ansStep ls (beyTo known has N)) (ansStep ls (beyTo known has N) (0, []) 0)).2 = _
    rw [hb]
    unfold ansStep
    simp
  rw [List.range_succ_eq_map]
  obtain ⟨bs, hb⟩ := key ((List.range k).map Nat.succ)
  rw [hb]
  refine ⟨bs.map (batOf ls), ?_⟩
  rw [List.map_cons]
  congr 1
  unfold batOf
  simp only [List.drop_zero]
  congr 1
  unfold cutIn
  exact (List.prefix_iff_eq_take.1 (List.takeWhile_prefix _)).symm

/-- WHAT IS OWED TO A COPY: it has it, or has asked for it, or it is on its way. -/
def Owed (M : Nat → List MOp) (s : RoomS) (c e : Nat) (t : Int) : Prop :=
  t ≤ s.has c e ∨ (∃ l, .inl l ∈ s.ms c e ∧ (∀ i, i < e → rowOf l i = (M i).length) ∧ rowOf l e ≤ s.has c e ∧ t ≤ rowOf l e + 8) ∨ ∃ xs, .inr xs ∈ s.ms e c ∧ ∀ j : Int, s.has c e < j → j ≤ t → ∃ y ∈ xs, plOf y = ((e : Int), j)
theorem hear_has {N : Nat} {M : Nat → List MOp} {s : RoomS} (ok : RoomOk N M s) {d : Nat} (hd : d < N) {xs : List MOp} (hx : ∀ y ∈ xs, isMade N M y) (early' : List (PId × MOp)) : (∀ i, i < N → (hearS N s d xs early').has d i = heardTo (waitS s d xs) (s.has d) N i ∧ s.has d i ≤ (hearS N s d xs early').has d i) ∧ ∀ c, c ≠ d → (hearS N s d xs early').has c = s.has c := by
  obtain ⟨hE, _⟩ := ok.wait hd hx
  have h0 := heard_has (has := s.has d) hE N (Nat.le_refl _)
  have h1 : (hearS N s d xs early').has d = heardTo (waitS s d xs) (s.has d) N := by
    rw [← h0]
    simp only [hearS, copyS, upd_same]
    rfl
  refine ⟨fun i hi => ?_, fun c hc => ?_⟩
  · rw [h1]
    exact ⟨rfl, (heard_in ok.made (ok.copy d hd) hE hi).2.2⟩
  · simp only [hearS, copyS]
    exact upd_ne _ _ hc

theorem Owed.deliver {N : Nat} {M : Nat → List MOp} {s s' : RoomS} (ok : RoomOk N M s) (hR : Roomy N s) {a b : Nat} (ha : a < N) (hb : b < N) (hab : a ≠ b) (hs : DeliverTo N s a b s') {c e : Nat} (hc : c < N) (he : e < N) (hce : c ≠ e) {t : Int} (ht : t ≤ (M e).length) (h : Owed M s c e t) : Owed M s' c e t := by
  have hmsg := ok.msgs a b ha hb hab
  have hRce := hR e c he hc (Ne.symm hce)
  unfold DeliverTo at hs
  cases em : s.ms a b with
  | nil => rw [em] at hs; rw [hs]; exact h
  | cons m ms =>
    rw [em] at hs hmsg
    cases m with
    | inl l =>
      obtain ⟨ls, hp, hasc, rfl⟩ := hs
      have e0 : (msTo s a b ms).ms b a = s.ms b a := by rw [msTo_ms, if_neg fun h => hab h.1.symm]
      rw [e0]
      rcases h with h | ⟨l', hl', h1, h2, h3⟩ | ⟨xs, hxs, h1⟩
      · exact .inl h
      · by_cases e1 : c = a ∧ e = b
        · obtain ⟨rfl, rfl⟩ := e1
          rw [em] at hl' hRce
          rcases List.mem_cons.1 hl' with hl' | hl'
          · cases hl'
            by_cases hd : t ≤ s.has c e
            · exact .inl hd
            · have hown := ok.own e he
              have hle : ∀ i, i < N → s.has e i ≤ (M i).length := fun i hi => ((ok.copy e he).hasL i hi).2
              have hne : (beyTo (rowOf l) (s.has e) N).length ≠ 0 := by
                have := mem_beyTo (known := rowOf l) (has := s.has e) he (j := t) (by omega) (by omega)
                intro h0
                rw [List.length_eq_zero_iff.1 h0] at this
                cases this
              obtain ⟨bs, hbs⟩ := bats_first (ls := ls) hne
              refine .inr (.inr ⟨ls.takeWhile fun o => decide (plOf o ∈ partOf (beyTo (rowOf l) (s.has e) N) 0), ?_, fun j hj1 hj2 => ?_⟩)
              · rw [msTo_ms, if_pos ⟨rfl, rfl⟩, hbs]
                refine sentM_first ?_
                simp only [quest] at hRce
                omega
              · replace hj1 : s.has c e < j := hj1
                have h00 := ((ok.copy c hc).hasL e he).1
                have hi : (j - 1).toNat < (M e).length := by omega
                obtain ⟨a1, a2, a3⟩ := ok.made.id e he (j - 1).toNat hi
                have hmem : (M e)[(j - 1).toNat] ∈ M e := List.getElem_mem _
                have hpl : plOf (M e)[(j - 1).toNat] = ((e : Int), j) := by
                  unfold plOf
                  rw [a1, a2, show (((j - 1).toNat : Nat) : Int) + 1 = j by omega]
                have hmade : isMade N M (M e)[(j - 1).toNat] := ⟨e, he, hmem⟩
                have hin : (M e)[(j - 1).toNat] ∈ ls := by
                  rw [hp.mem_iff]
                  refine List.mem_filter.2 ⟨((ok.copy e he).mem ok.made hmade).2 (by rw [a1, a2, Int.toNat_natCast]; omega), ?_⟩
                  unfold isBey
                  rw [a1, a2, Int.toNat_natCast]
                  exact decide_eq_true (by omega)
                have hpart : ∀ k : Int, rowOf l e < k → k ≤ j → ((e : Int), k) ∈ partOf (beyTo (rowOf l) (s.has e) N) 0 := fun k hk1 hk2 => mem_part he (fun i hi => by rw [h1 i hi]; exact hle i (by omega)) hk1 (by omega) (by omega)
                refine ⟨_, takeWhile_mem hasc hin ?_ fun x hx hlt => ?_, hpl⟩
                · rw [hpl]; exact decide_eq_true (hpart j (by omega) (Int.le_refl _))
                · have hx' := List.mem_filter.1 (hp.mem_iff.1 hx)
                  obtain ⟨f, hf, hfm⟩ := (ok.copy e he).made hx'.1
                  obtain ⟨i, hi', ex, b1, b2, b3⟩ := ok.made.at hf hfm
                  have hbey := of_decide_eq_true hx'.2
                  rw [b1, Int.toNat_natCast] at hbey
                  rw [hpl, ltI_iff] at hlt
                  unfold plOf at hlt ⊢
                  simp only [b1] at hlt ⊢
                  have hfe : f = e := by
                    rcases hlt with hlt | hlt
                    · exfalso
                      have := h1 f (by omega)
                      omega
                    · omega
                  subst hfe
                  exact decide_eq_true (hpart _ hbey (by omega))
          · exact .inr (.inl ⟨l', by rw [msTo_ms, if_neg (fun h => hab h.1), msTo_ms, if_pos ⟨rfl, rfl⟩]; exact hl', h1, h2, h3⟩)
        · refine .inr (.inl ⟨l', ?_, h1, h2, h3⟩)
          rw [msTo_ms]
          by_cases e2 : c = b ∧ e = a
          · obtain ⟨rfl, rfl⟩ := e2
            rw [if_pos ⟨rfl, rfl⟩]
            exact sentM_old hl'
          · rw [if_neg e2, msTo_ms, if_neg e1]
            exact hl'
      · refine .inr (.inr ⟨xs, ?_, h1⟩)
        rw [msTo_ms]
        by_cases e2 : e = b ∧ c = a
        · obtain ⟨rfl, rfl⟩ := e2
          rw [if_pos ⟨rfl, rfl⟩]
          exact sentM_old hxs
        · rw [if_neg e2, msTo_ms]
          by_cases e1 : e = a ∧ c = b
          · obtain ⟨rfl, rfl⟩ := e1
            rw [if_pos ⟨rfl, rfl⟩]
            rw [em] at hxs
            rcases List.mem_cons.1 hxs with hxs | hxs
            · cases hxs
            · exact hxs
          · rw [if_neg e1]; exact hxs
    | inr ys =>
      obtain ⟨early', hC, rfl⟩ := hs
      have hys : ∀ y ∈ ys, isMade N M y := hmsg _ List.mem_cons_self
      have ok1 : RoomOk N M (msTo s a b ms) := ok.ms fun m' h' => hmsg m' (List.mem_cons_of_mem _ h')
      obtain ⟨hg1, hg2⟩ := hear_has ok1 hb hys early'
      have hmono : s.has c e ≤ (hearS N (msTo s a b ms) b ys early').has c e := by
        by_cases hcb : c = b
        · subst hcb; exact (hg1 e he).2
        · rw [hg2 c hcb]; exact Int.le_refl _
      have hms : ∀ i k, (hearS N (msTo s a b ms) b ys early').ms i k = (msTo s a b ms).ms i k := fun _ _ => rfl
      rcases h with h | ⟨l', hl', h1, h2, h3⟩ | ⟨xs, hxs, h1⟩
      · exact .inl (Int.le_trans h hmono)
      · refine .inr (.inl ⟨l', ?_, h1, Int.le_trans h2 hmono, h3⟩)
        rw [hms, msTo_ms]
        by_cases e1 : c = a ∧ e = b
        · obtain ⟨rfl, rfl⟩ := e1
          rw [if_pos ⟨rfl, rfl⟩]
          rw [em] at hl'
          rcases List.mem_cons.1 hl' with hl' | hl'
          · cases hl'
          · exact hl'
        · rw [if_neg e1]; exact hl'
      · by_cases e1 : e = a ∧ c = b
        · obtain ⟨rfl, rfl⟩ := e1
          rw [em] at hxs
          rcases List.mem_cons.1 hxs with hxs | hxs
          · cases hxs
            left
            rw [(hg1 e he).1]
            refine heard_more he ?_ fun j hj1 hj2 => ?_
            · have := ok.made.len e he
              have := ((ok.copy c hc).hasL e he).1
              show t ≤ s.has c e + 61
              omega
            · obtain ⟨y, hy, hpl⟩ := h1 j hj1 hj2
              refine early_look ys _ (.inr ⟨y, hy, hpl, ?_⟩)
              unfold plOf at hpl
              injection hpl with p1 p2
              rw [p1, p2, Int.toNat_natCast]
              exact hj1
          · refine .inr (.inr ⟨xs, ?_, fun j hj1 hj2 => h1 j (Int.lt_of_le_of_lt hmono hj1) hj2⟩)
            rw [hms, msTo_ms, if_pos ⟨rfl, rfl⟩]
            exact hxs
        · refine .inr (.inr ⟨xs, ?_, fun j hj1 hj2 => h1 j (Int.lt_of_le_of_lt hmono hj1) hj2⟩)
          rw [hms, msTo_ms, if_neg e1]
          exact hxs

/-- What a copy must have of another one behind so many rounds. -/
def dueT (M : Nat → List MOp) (k e : Nat) : Int := min ((M e).length : Int) (8 * ((k : Int) - 8 * (e : Int)))
/-- Behind so many rounds. -/
def Due (N : Nat) (M : Nat → List MOp) (k : Nat) (s : RoomS) : Prop := ∀ c e, c < N → e < N → dueT M k e ≤ s.has c e
/-- In the round. -/
def Owes (N : Nat) (M : Nat → List MOp) (k : Nat) (s : RoomS) : Prop := Roomy N s ∧ ∀ c e, c < N → e < N → c ≠ e → Owed M s c e (dueT M (k + 1) e)
theorem Owes.deliver {N : Nat} {M : Nat → List MOp} {k : Nat} {s s' : RoomS} (ok : RoomOk N M s) (h : Owes N M k s) {a b : Nat} (ha : a < N) (hb : b < N) (hab : a ≠ b) (hs : DeliverTo N s a b s') : Owes N M k s' := ⟨h.1.deliver ha hb hab hs, fun c e hc he hce => (h.2 c e hc he hce).deliver ok h.1 ha hb hab hs hc he hce (by unfold dueT; omega)⟩
theorem Owes.idle {N : Nat} {M : Nat → List MOp} {k : Nat} {s : RoomS} (ok : RoomOk N M s) (h : Owes N M k s) (hi : Idle N s) : Due N M (k + 1) s := fun c e hc he => by
  by_cases hce : c = e
  · subst hce
    rw [ok.own c hc]
    unfold dueT
    omega
  · rcases h.2 c e hc he hce with h1 | ⟨l, hl, _⟩ | ⟨xs, hx, _⟩
    · exact h1
    · rw [hi c e hc he hce] at hl; cases hl
    · rw [hi e c he hc (Ne.symm hce)] at hx; cases hx
theorem Due.zero {N : Nat} {M : Nat → List MOp} {s : RoomS} (ok : RoomOk N M s) : Due N M 0 s := fun c e hc he => by
  have := ((ok.copy c hc).hasL e he).1
  unfold dueT
  omega
/-- Each has asked each. -/
def Asked (N : Nat) (s : RoomS) : Prop := ∀ c d, c < N → d < N → c ≠ d → s.ms c d = [.inl (hasL N (s.has c))]
theorem Asked.owes {N : Nat} {M : Nat → List MOp} {k : Nat} {s : RoomS} (ok : RoomOk N M s) (h : Due N M k s) (ha : Asked N s) : Owes N M k s := by
  refine ⟨fun c d hc hd hcd => by rw [ha c d hc hd hcd, ha d c hd hc (Ne.symm hcd)]; simp [quest], fun c e hc he hce => ?_⟩
  have h0 := ((ok.copy c hc).hasL e he).1
  by_cases hk : 8 * e ≤ k
  · refine .inr (.inl ⟨hasL N (s.has c), by rw [ha c e hc he hce]; exact List.mem_singleton.2 rfl, fun i hi => ?_, ?_, ?_⟩)
    · rw [rowOf_has (by omega)]
      have h1 := h c i hc (by omega)
      have h2 := ((ok.copy c hc).hasL i (by omega)).2
      have h3 := ok.made.len i (by omega)
      unfold dueT at h1
      omega
    · rw [rowOf_has he]; exact Int.le_refl _
    · rw [rowOf_has he]
      have h1 := h c e hc he
      unfold dueT at h1 ⊢
      omega
  · left
    unfold dueT
    omega
/-- IN THE END ALL HAVE ALL. -/
theorem Due.all {N : Nat} {M : Nat → List MOp} {s : RoomS} (ok : RoomOk N M s) (hN : N ≤ 4) (h : Due N M 40 s) {c e : Nat} (hc : c < N) (he : e < N) : s.has c e = (M e).length := by
  have h1 := h c e hc he
  have h2 := ((ok.copy c hc).hasL e he).2
  have h3 := ok.made.len e he
  unfold dueT at h1
  omega

end Go.Proofs.YtnkpogjiiohapaaGreatDoor
