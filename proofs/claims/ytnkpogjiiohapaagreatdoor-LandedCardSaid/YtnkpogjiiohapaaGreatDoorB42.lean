/- Our own text (LLawA, OLawE, LLawB). -/
import Derived.Test.YtnkpogjiiohapaaGreatDoorB41
set_option linter.unusedSimpArgs false
set_option linter.unusedVariables false

/-! LLawA: Plain: what is inserted stands where it was inserted; what is set stays; what is cut is gone, alone. -/
namespace Go.Proofs.YtnkpogjiiohapaaGreatDoor

def seenB (s : PSlot) : Bool := decide (0 < s.hs.length)
def idsOf (l : List PSlot) : List PId := l.map PSlot.id
def valS (y : PId) (old : List PId) (kind : Int) (h : PHeld) (s : PSlot) : PSlot := if s.id = y then ⟨s.key, s.id, newHelds old s.hs kind h⟩ else s
theorem map_out {y : PId} {old : List PId} {kind : Int} {h : PHeld} : ∀ {l : List PSlot}, y ∉ idsOf l → l.map (valS y old kind h) = l
  | [], _ => rfl
  | s :: l, hy => by
    have h1 : ¬ s.id = y := fun e => hy (by rw [← e]; exact List.mem_cons_self)
    rw [List.map_cons, map_out fun hm => hy (List.mem_cons_of_mem _ hm)]
    unfold valS
    rw [if_neg h1]
/-- A place's values, turned. -/
theorem valued_map (y : PId) (old : List PId) (kind : Int) (h : PHeld) : ∀ l : List PSlot, (∀ s ∈ l, s.key = ⟨#[]⟩) → (idsOf l).Nodup → valuedP l true ⟨#[]⟩ y old kind h = l.map (valS y old kind h)
  | [], _, _ => rfl
  | s :: l, hk, hn => by
    obtain ⟨n1, n2⟩ := List.nodup_cons.1 hn
    have ih := valued_map y old kind h l (fun x hx => hk x (List.mem_cons_of_mem _ hx)) n2
    have hg := firstI_low (pslotIs ⟨#[]⟩ y) l
    unfold valuedP at ih ⊢
    rw [firstI_cons, pslot_id (hk s List.mem_cons_self)]
    rw [List.map_cons]
    by_cases e : s.id = y
    · rw [decide_eq_true e]
      have hout : l.map (valS y old kind h) = l := map_out (by rw [← e]; exact n1)
      rw [hout]
      simp [valS, e]
    · rw [decide_eq_false e, ← ih]
      have hv : valS y old kind h s = s := by unfold valS; rw [if_neg e]
      rw [hv]
      simp only [Bool.false_eq_true, if_false, if_true]
      by_cases hneg : firstI (pslotIs ⟨#[]⟩ y) l < 0
      · rw [if_pos hneg, if_pos (by omega), if_pos hneg]
      · rw [if_neg hneg, if_neg (by omega), if_neg hneg, show (firstI (pslotIs ⟨#[]⟩ y) l + 1).toNat = (firstI (pslotIs ⟨#[]⟩ y) l).toNat + 1 by omega, List.modify_succ_cons]
theorem new_three (old : List PId) (hs : List PHeld) (h : PHeld) : 0 < (newHelds old hs 3 h).length := by
  unfold newHelds
  simp
theorem new_four {old : List PId} {hs : List PHeld} {h : PHeld} (ho : ∀ x ∈ hs, x.giver ∈ old) : newHelds old hs 4 h = [] := by
  unfold newHelds unnamed
  rw [List.filter_eq_nil_iff.2 fun x hx => by simp [ho x hx]]
  rfl
theorem seen_give (y : PId) (old : List PId) (h : PHeld) : ∀ l : List PSlot, idsOf ((l.map (valS y old 3 h)).filter seenB) = idsOf (l.filter fun s => seenB s || decide (s.id = y))
  | [] => rfl
  | s :: l => by
    have ih := seen_give y old h l
    rw [List.map_cons, List.filter_cons, List.filter_cons]
    by_cases e : s.id = y
    · have h1 : seenB (valS y old 3 h s) = true := by
        unfold valS seenB
        rw [if_pos e]
        exact decide_eq_true (new_three _ _ _)
      rw [if_pos h1, if_pos (by simp [e])]
      show (valS y old 3 h s).id :: _ = s.id :: _
      rw [show (valS y old 3 h s).id = s.id by unfold valS; split <;> rfl]
      exact congrArg _ ih
    · have h1 : valS y old 3 h s = s := by unfold valS; rw [if_neg e]
      rw [h1]
      simp only [e, decide_false, Bool.or_false]
      split
      · exact congrArg (s.id :: ·) ih
      · exact ih
theorem seen_take (y : PId) (old : List PId) (h : PHeld) : ∀ l : List PSlot, (∀ s ∈ l, s.id = y → ∀ x ∈ s.hs, x.giver ∈ old) → idsOf ((l.map (valS y old 4 h)).filter seenB) = (idsOf (l.filter seenB)).filter fun z => !decide (z = y)
  | [], _ => rfl
  | s :: l, ho => by
    have ih := seen_take y old h l fun x hx => ho x (List.mem_cons_of_mem _ hx)
    rw [List.map_cons, List.filter_cons]
    by_cases e : s.id = y
    · have h1 : seenB (valS y old 4 h s) = false := by
        unfold valS seenB
        rw [if_pos e]
        simp [new_four (ho s List.mem_cons_self e)]
      rw [if_neg (by rw [h1]; simp), ih, List.filter_cons]
      split
      · show _ = (s.id :: idsOf (l.filter seenB)).filter _
        rw [List.filter_cons, if_neg (by simp [e])]
      · rfl
    · have h1 : valS y old 4 h s = s := by unfold valS; rw [if_neg e]
      rw [h1, List.filter_cons]
      split
      · show s.id :: _ = (s.id :: idsOf (l.filter seenB)).filter _
        rw [List.filter_cons, if_pos (by simp [e])]
        exact congrArg (s.id :: ·) ih
      · exact ih
theorem filter_out {L : List PId} (hn : L.Nodup) {i : Nat} (hi : i < L.length) : (L.filter fun z => !decide (z = L[i])) = L.take i ++ L.drop (i + 1) := by
  have hsplit : L = L.take i ++ L[i] :: L.drop (i + 1) := by rw [List.getElem_cons_drop, List.take_append_drop]
  obtain ⟨y, hy⟩ : ∃ y, L[i] = y := ⟨_, rfl⟩
  rw [hy] at hsplit ⊢
  have hn2 := hn
  rw [hsplit] at hn2
  obtain ⟨n1, n2, n3⟩ := List.nodup_append.1 hn2
  obtain ⟨m1, m2⟩ := List.nodup_cons.1 n2
  conv => lhs; rw [hsplit]
  rw [List.filter_append, List.filter_cons, if_neg (by simp), List.filter_eq_self.2 fun z hz => ?_, List.filter_eq_self.2 fun z hz => ?_]
  · have : z ≠ y := fun e => m1 (e ▸ hz)
    simp [this]
  · have : z ≠ y := fun e => n3 z hz y List.mem_cons_self e
    simp [this]
theorem seen_same {l : List PSlot} {y : PId} (hn : (idsOf l).Nodup) (hy : y ∈ idsOf (l.filter seenB)) : (l.filter fun s => seenB s || decide (s.id = y)) = l.filter seenB := by
  apply List.filter_congr
  intro s hs
  cases hb : seenB s with
  | true => rfl
  | false =>
    simp only [Bool.false_or]
    apply decide_eq_false
    intro e
    obtain ⟨s', hs', e'⟩ := List.mem_map.1 hy
    obtain ⟨a1, a2⟩ := List.mem_filter.1 hs'
    obtain ⟨i, hi, rfl⟩ := List.mem_iff_getElem.1 hs
    obtain ⟨j, hj, rfl⟩ := List.mem_iff_getElem.1 a1
    have hij : i = j := by
      have h1 : (idsOf l)[i]'(by unfold idsOf; simpa using hi) = (idsOf l)[j]'(by unfold idsOf; simpa using hj) := by
        unfold idsOf
        simp only [List.getElem_map]
        exact e.trans e'.symm
      exact (List.getElem_inj hn).1 h1
    subst hij
    rw [hb] at a2
    cases a2
/-- An element laid behind another one. -/
theorem laid_split {l : List PSlot} {b x : PId} (hk : ∀ s ∈ l, s.key = ⟨#[]⟩) (hb : b = (0, 0) ∨ b ∈ idsOf l) (hz : (0, 0) ∉ idsOf l) : ∃ pre post, l = pre ++ post ∧ laidP l b x = pre ++ pslot0 ⟨#[]⟩ x :: post ∧ ((b = (0, 0) ∧ pre = []) ∨ ∃ pre' s, pre = pre' ++ [s] ∧ s.id = b ∧ b ≠ (0, 0)) := by
  have e : idEq b.1 b.2 0 0 = decide (b = (0, 0)) := by simp [idEq, Prod.ext_iff]
  unfold laidP
  rw [e]
  by_cases hb0 : b = (0, 0)
  · rw [decide_eq_true hb0, if_pos rfl]
    exact ⟨[], l, rfl, rfl, .inl ⟨hb0, rfl⟩⟩
  · rw [decide_eq_false hb0, if_neg (by simp)]
    have hbm := hb.resolve_left hb0
    have key : ∀ l : List PSlot, (∀ s ∈ l, s.key = ⟨#[]⟩) → b ∈ idsOf l → ∃ n : Nat, ∃ hn : n < l.length, firstI (pslotIs ⟨#[]⟩ b) l = (n : Int) ∧ l[n].id = b := fun l => by
      induction l with
      | nil => intro _ hm; cases hm
      | cons s l ih =>
        intro hk hm
        rw [firstI_cons, pslot_id (hk s List.mem_cons_self)]
        by_cases es : s.id = b
        · exact ⟨0, by simp, by rw [decide_eq_true es]; rfl, es⟩
        · obtain ⟨n, hn, h1, h2⟩ := ih (fun y hy => hk y (List.mem_cons_of_mem _ hy)) ((List.mem_cons.1 hm).resolve_left fun e => es e.symm)
          refine ⟨n + 1, by simp; omega, ?_, h2⟩
          rw [decide_eq_false es, h1]
          simp only [Bool.false_eq_true, if_false]
          rw [if_neg (by omega)]
          push_cast
          rfl
    obtain ⟨n, hn, h1, h2⟩ := key l hk hbm
    rw [h1, if_neg (by omega), Int.toNat_natCast]
    refine ⟨l.take (n + 1), l.drop (n + 1), (List.take_append_drop _ _).symm, rfl, .inr ⟨l.take n, l[n], ?_, h2, hb0⟩⟩
    exact List.take_succ_eq_append_getElem hn
/-- WHAT IS INSERTED STANDS JUST WHERE IT WAS INSERTED. -/
theorem insert_seen {l : List PSlot} {b x : PId} {old : List PId} {h : PHeld} (hk : ∀ s ∈ l, s.key = ⟨#[]⟩) (hn : (idsOf l).Nodup) (hz : (0, 0) ∉ idsOf l) (hx : x ∉ idsOf l) {i : Nat} (hi : i ≤ (idsOf (l.filter seenB)).length) (hb : behindP (idsOf (l.filter seenB)) i = some b) :
    idsOf ((valuedP (laidP l b x) true ⟨#[]⟩ x old 3 h).filter seenB) = (idsOf (l.filter seenB)).take i ++ x :: (idsOf (l.filter seenB)).drop i := by
  have hbm : b = (0, 0) ∨ b ∈ idsOf l := by
    unfold behindP at hb
    split at hb
    · cases hb
    · split at hb
      · injection hb with hb; exact .inl hb.symm
      · right
        have := List.mem_of_getElem? hb
        obtain ⟨s, hs, e⟩ := List.mem_map.1 this
        exact List.mem_map.2 ⟨s, (List.mem_filter.1 hs).1, e⟩
  obtain ⟨pre, post, e1, e2, e3⟩ := laid_split (x := x) hk hbm hz
  have hkl : ∀ s ∈ laidP l b x, s.key = ⟨#[]⟩ := fun s hs => by
    rcases laid_memG hs with hs | rfl
    · exact hk s hs
    · rfl
  have hnl : (idsOf (laidP l b x)).Nodup := by
    rw [e2]
    rw [e1] at hn hx
    unfold idsOf at hn hx ⊢
    rw [List.map_append] at hn hx ⊢
    obtain ⟨a1, a2, a3⟩ := List.nodup_append.1 hn
    refine List.nodup_append.2 ⟨a1, List.nodup_cons.2 ⟨fun hm => hx (List.mem_append_right _ hm), a2⟩, fun z hz y hy => ?_⟩
    rcases List.mem_cons.1 hy with rfl | hy
    · exact fun e => hx (List.mem_append_left _ (e ▸ hz))
    · exact a3 z hz y hy
  rw [valued_map _ _ _ _ _ hkl hnl, seen_give, e2, List.filter_append, List.filter_cons, if_pos (by simp [pslot0])]
  have hfx : ∀ m : List PSlot, (∀ s ∈ m, s ∈ l) → (m.filter fun s => seenB s || decide (s.id = x)) = m.filter seenB := fun m hm => by
    apply List.filter_congr
    intro s hs
    have : ¬ s.id = x := fun e => hx (List.mem_map.2 ⟨s, hm s hs, e⟩)
    simp [this]
  rw [hfx pre fun s hs => by rw [e1]; exact List.mem_append_left _ hs, hfx post fun s hs => by rw [e1]; exact List.mem_append_right _ hs]
  have hL : idsOf (l.filter seenB) = idsOf (pre.filter seenB) ++ idsOf (post.filter seenB) := by
    rw [e1, List.filter_append]
    unfold idsOf
    rw [List.map_append]
  have hnL : (idsOf (l.filter seenB)).Nodup := hn.sublist (List.filter_sublist.map _)
  have hlen : (idsOf (pre.filter seenB)).length = i := by
    unfold behindP at hb
    split at hb
    · cases hb
    · rename_i hr
      split at hb
      · rename_i h0
        injection hb with hb
        rcases e3 with ⟨_, e⟩ | ⟨_, _, _, _, e⟩
        · rw [e]
          have : i = 0 := by omega
          rw [this]
          rfl
        · exact absurd hb.symm e
      · rename_i h0
        rcases e3 with ⟨e, _⟩ | ⟨pre', s, e4, e5, e6⟩
        · exfalso
          rw [e] at hb
          have := List.mem_of_getElem? hb
          obtain ⟨s, hs, es⟩ := List.mem_map.1 this
          exact hz (List.mem_map.2 ⟨s, (List.mem_filter.1 hs).1, es⟩)
        · -- the slot is seen, and it is the last ahead
          have hbs := List.mem_of_getElem? hb
          obtain ⟨s', hs', es'⟩ := List.mem_map.1 hbs
          obtain ⟨m1, m2⟩ := List.mem_filter.1 hs'
          have hsl : s ∈ l := by rw [e1, e4]; simp
          have hss : s' = s := by
            obtain ⟨p, hp, rfl⟩ := List.mem_iff_getElem.1 m1
            obtain ⟨q, hq, rfl⟩ := List.mem_iff_getElem.1 hsl
            have : p = q := by
              have h1 : (idsOf l)[p]'(by unfold idsOf; simpa using hp) = (idsOf l)[q]'(by unfold idsOf; simpa using hq) := by
                unfold idsOf
                simp only [List.getElem_map]
                exact es'.trans e5.symm
              exact (List.getElem_inj hn).1 h1
            subst this
            rfl
          rw [hss] at m2
          have hA : idsOf (pre.filter seenB) = idsOf (pre'.filter seenB) ++ [b] := by
            rw [e4, List.filter_append, List.filter_cons, if_pos m2]
            unfold idsOf
            rw [List.map_append]
            simp [e5]
          have hA2 : (idsOf (pre.filter seenB)).length = (idsOf (pre'.filter seenB)).length + 1 := by rw [hA]; simp
          have hg : (idsOf (l.filter seenB))[(idsOf (pre'.filter seenB)).length]? = some b := by
            rw [hL, hA]
            simp
          obtain ⟨u1, u2⟩ := List.getElem?_eq_some_iff.1 hb
          obtain ⟨v1, v2⟩ := List.getElem?_eq_some_iff.1 hg
          have := (List.getElem_inj hnL).1 (u2.trans v2.symm)
          omega
  rw [hL]
  rw [List.take_append_of_le_length (by omega), List.drop_append_of_le_length (by omega), List.take_of_length_le (by omega), List.drop_of_length_le (by omega), List.nil_append]
  unfold idsOf
  rw [List.map_append, List.map_cons]
  rfl

end Go.Proofs.YtnkpogjiiohapaaGreatDoor

/-! OLawE: quirekeep: what Ordered keeps in mind. -/
namespace Go.Proofs.YtnkpogjiiohapaaGreatDoor
open Go.RowKit
attribute [local go_sem ↓] Go.wp_at_zero Go.wp_at_succ

/-- The list of a copy, told. -/
theorem QInv.els {Z : Nat → Prop} {tb : Nat} {w : World} {r N sp : Nat} {ls : PId} {M : Nat → List MOp} {s : RoomS} (h : QInv Z tb w r N sp ls M s) {c : Nat} (hc : c < N) :
    Calls Tryz.prog 29 #[.pointer (some ⟨r, 0, none⟩), .int .i64 c, .agg #[.int .i64 ls.1, .int .i64 ls.2]] w fun e w' => Below w.heap.size w w' ∧ ∃ u l, e = .returned (.tuple #[u, .int .i64 0]) ∧ ownIds w.heap.size w' u l ∧ l.Sublist (ordL N M ls) ∧ l.length ≤ 300 := by
  obtain ⟨F, I, x, hr⟩ := h.i
  obtain ⟨o, ho, hl, he⟩ := list_ok hr.d.ok h.l hc
  refine (gElements hr.d hc ls.1 ls.2).mono ?_
  rintro e w' ⟨hb, ⟨n, hn, rfl⟩ | ⟨v, l, hok, hl, rfl, hv⟩⟩
  · exact absurd (he.symm.trans hn) (by simp)
  · exact ⟨hb, v, l, rfl, hv, told_sub hr.d.ok hc hok, hl⟩

def slC (p : Value × List PId) : List Value := [p.1]
/-- What was told, in lists of the law's own. -/
structure isTold (Z : Nat → Prop) (w : World) (vt : Value) (ps : List (Value × List PId)) : Prop where
  row : w.ownsRow 0 65 1 vt ps.length (ps.flatMap slC)
  zt : ∀ g, vt.ownBlock = some g → Z g
  each : ∀ p ∈ ps, ownIds 0 w p.1 p.2 ∧ ∀ g, p.1.ownBlock = some g → Z g
theorem isTold.keep {Z : Nat → Prop} {w w' : World} {vt : Value} {ps : List (Value × List PId)} (h : isTold Z w vt ps) (hz : Zept Z w w') : isTold Z w' vt ps :=
  ⟨row_blk h.row fun g hg => hz.block g (h.zt g hg), h.zt, fun p hp => ⟨row_blk (h.each p hp).1 fun g hg => hz.block g ((h.each p hp).2 g hg), (h.each p hp).2⟩⟩
theorem isTold.mono {Z Z' : Nat → Prop} {w : World} {vt : Value} {ps : List (Value × List PId)} (h : isTold Z w vt ps) (hz : ∀ k, Z k → Z' k) : isTold Z' w vt ps :=
  ⟨h.row, fun g hg => hz g (h.zt g hg), fun p hp => ⟨(h.each p hp).1, fun g hg => hz g ((h.each p hp).2 g hg)⟩⟩
theorem isTold.at {Z : Nat → Prop} {w : World} {a : Option Addr} {n cap : Nat} {ps : List (Value × List PId)} (h : isTold Z w (.slice a n cap) ps) {j : Nat} (hj : j < ps.length) : ∃ g, a = some ⟨g, 0, none⟩ ∧ w.cell? ⟨g, j, none⟩ = some ps[j].1 ∧ idsAt w ps[j].1 ps[j].2 := by
  obtain ⟨a', cap', e, h1, h2, hf⟩ := owns_form h.row
  injection e with e1 e2 e3
  subst e1 e2 e3
  obtain ⟨g, rfl⟩ := hf j hj
  refine ⟨g, rfl, ?_, ownIds.at (h.each _ (List.getElem_mem hj)).1⟩
  have := owns_cell (f := slC) (fun _ => rfl) h.row rfl j hj 0 Nat.zero_lt_one
  rw [Nat.mul_one, Nat.add_zero] at this
  exact this

/-- The law's state. -/
structure OInv (B : Nat) (Z : Nat → Prop) (tb : Nat) (w : World) (r N sp : Nat) (ls : PId) (M : Nat → List MOp) (s : RoomS) (vt : Value) (ps : List (Value × List PId)) : Prop where
  q : QInv Z tb w r N sp ls M s
  t : isTold Z w vt ps
  z0 : ∀ k, k < B → Z k
  ge : ∀ g, vt.ownBlock = some g → B ≤ g
  sub : ∀ p ∈ ps, p.2.Sublist (ordL N M ls) ∧ p.2.length ≤ 300
section
theorem OInv.keep {B : Nat} {Z : Nat → Prop} {tb : Nat} {w : World} {r N sp : Nat} {ls : PId} {M : Nat → List MOp} {s : RoomS} {vt : Value} {ps : List (Value × List PId)} {w' : World} (h : OInv B Z tb w r N sp ls M s vt ps) (hb : Below w.heap.size w w') : OInv B Z tb w' r N sp ls M s vt ps := ⟨h.q.keep hb, h.t.keep (Zept.of hb h.q.i.zlt), h.z0, h.ge, h.sub⟩
theorem OInv.step {B : Nat} {Z : Nat → Prop} {tb : Nat} {w : World} {r N sp : Nat} {ls : PId} {M : Nat → List MOp} {s : RoomS} {vt : Value} {ps : List (Value × List PId)} {w' : World} {ch : Option Nat} (h : OInv B Z tb w r N sp ls M s vt ps) (hs : Stepd Z tb r N sp ls M s ch w w') : (∃ M' s', OInv B Z tb w' r N sp ls M' s' vt ps) ∧ Below B w w' := by
  obtain ⟨⟨M', s', hw, hq⟩, hz⟩ := hs
  exact ⟨⟨M', s', hq, h.t.keep hz, h.z0, h.ge, fun p hp => ⟨(h.sub p hp).1.trans (ordL_more h.q.i.ok hq.i.ok hw.ext ls), (h.sub p hp).2⟩⟩, hz.below h.z0⟩
/-- Two lists more. -/
theorem OInv.more {B : Nat} {Z : Nat → Prop} {tb : Nat} {w : World} {r N sp : Nat} {ls : PId} {M : Nat → List MOp} {s : RoomS} {vt : Value} {ps : List (Value × List PId)} {W w1 : World} {va vb v1 : Value} {la lb : List PId} (h : OInv B Z tb w r N sp ls M s vt ps) (hb : Below w.heap.size w W) (ha : ownIds w.heap.size W va la) (hb' : ownIds w.heap.size W vb lb) (hla : la.Sublist (ordL N M ls) ∧ la.length ≤ 300) (hlb : lb.Sublist (ordL N M ls) ∧ lb.length ≤ 300)
    (ho : w1.ownsRow 0 65 1 v1 (ps ++ [(va, la), (vb, lb)]).length ((ps ++ [(va, la), (vb, lb)]).flatMap slC)) (hg : W.grownBy w1 vt.ownBlock) (hn : newOr W vt v1) : (∃ Z', OInv B Z' tb w1 r N sp ls M s v1 (ps ++ [(va, la), (vb, lb)])) ∧ Below B w w1 ∧ ∀ (B' : Nat) (v : Value) (l : List PId), ownIds B' W v l → ownIds B' w1 v l := by
  have hs := hg.size
  have hsW := hb.size
  have hzl := h.q.i.zlt
  have hoth : ∀ k, k < W.heap.size → some k ≠ vt.ownBlock → w1.heap[k]? = W.heap[k]? := fun k hk hne => hg.block k hk hne
  have htab : vt.ownBlock ≠ some tb := fun e => by
    obtain ⟨cur, hc⟩ := own_type h.t.row e
    exact absurd (cells_type hc h.q.i.tab) (by decide)
  have hi := (h.q.i.more hb).turn (ob := vt.ownBlock) (fun g e => ⟨.inl (h.t.zt g e), fun e' => htab (by rw [e, e'])⟩) hs hoth
  -- rows of Ids stay
  have hids : ∀ {B' : Nat} {v : Value} {l : List PId}, ownIds B' W v l → ownIds B' w1 v l := fun {B' v l} ho => by
    refine row_blk ho fun g hg' => hoth g (World.ownsRow.lt ho g hg').2 fun e => ?_
    obtain ⟨c1, k1⟩ := own_type ho hg'
    obtain ⟨c2, k2⟩ := own_type (owns_keep h.t.row hb) e.symm
    exact absurd (cells_type k1 k2) (by decide)
  refine ⟨⟨_, ⟨hi, h.q.l⟩, ⟨ho, fun g hg' => ?_, fun p hp => ?_⟩, fun k hk => .inl (.inl (h.z0 k hk)), fun g hg' => ?_, fun p hp => ?_⟩, ⟨hg.os.trans hb.os, hg.tape.trans hb.tape, hg.output.trans hb.output, Nat.le_trans hsW hs, fun k hk => ?_⟩, fun B' v l => hids⟩
  · rcases hn with hn | hn
    · exact .inl (.inl (h.t.zt g (hn ▸ hg')))
    · exact .inr ⟨hn g hg', (World.ownsRow.lt ho g hg').2⟩
  · rcases List.mem_append.1 hp with hp | hp
    · exact ⟨hids (owns_keep (h.t.each p hp).1 hb), fun g hg' => .inl (.inl ((h.t.each p hp).2 g hg'))⟩
    · have key : ∀ {v : Value} {l : List PId}, ownIds w.heap.size W v l → ownIds 0 w1 v l ∧ ∀ g, v.ownBlock = some g → (Z g ∨ (w.heap.size ≤ g ∧ g < W.heap.size)) ∨ (W.heap.size ≤ g ∧ g < w1.heap.size) := fun {v l} hv => ⟨owns_mono (hids hv) (Nat.zero_le _), fun g hg' => .inl (.inr ⟨(World.ownsRow.lt hv g hg').1, (World.ownsRow.lt hv g hg').2⟩)⟩
      rcases List.mem_cons.1 hp with rfl | hp
      · exact key ha
      · obtain rfl := List.mem_singleton.1 hp
        exact key hb'
  · rcases hn with hn | hn
    · exact h.ge g (hn ▸ hg')
    · have h9 := hn g hg'
      rcases Nat.eq_zero_or_pos B with h0 | h0
      · omega
      · have := hzl (B - 1) (h.z0 (B - 1) (by omega))
        omega
  · rcases List.mem_append.1 hp with hp | hp
    · exact h.sub p hp
    · rcases List.mem_cons.1 hp with rfl | hp
      · exact hla
      · obtain rfl := List.mem_singleton.1 hp
        exact hlb
  · have hkz := hzl k (h.z0 k hk)
    rw [hoth k (by omega) fun e => ?_, hb.block k hkz]
    have := h.ge k e.symm
    omega
end

end Go.Proofs.YtnkpogjiiohapaaGreatDoor

/-! LLawB: quirekeep: what Insert, SetAt and CutAt make of the list. -/
namespace Go.Proofs.YtnkpogjiiohapaaGreatDoor
open Go.RowKit

theorem ROf_snoc (ops : List MOp) (y : MOp) : ROf (ops ++ [y]) = doesP (ROf ops) (popOf y.op) := by
  unfold ROf
  rw [List.map_append, List.foldl_append]
  rfl
theorem nil_empty : (⟨#[]⟩ : ByteArray).toList.isEmpty = true := by rw [nil_toList]; rfl
/-- A value given to, or taken from, an element. -/
theorem val_at {R : List PObj} {x y : PId} {o : PObj} (ho : objOf R x = some o) (hl : o.list = true) {p : POp} (hk : p.kind = 3 ∨ p.kind = 4) (h1 : p.object = x) (h2 : p.key = ⟨#[]⟩) (h3 : p.element = y) : objOf (doesP R p) x = some ⟨o.id, true, valuedP o.ss true ⟨#[]⟩ y p.old p.kind p.held⟩ := by
  have hk1 : p.kind ≠ 1 := by omega
  have hk2 : ¬ p.kind = 2 := by omega
  rw [does_obj hk1, if_pos h1.symm, ho, Option.map_some]
  unfold doesAt
  rw [if_neg hk2, h2, nil_empty, hl, if_pos rfl, h3]
theorem set_els {R : List PObj} {done : List PId} (hO : Ord R done) {x y : PId} {o : PObj} (ho : objOf R x = some o) (hl : o.list = true) (hy : y ∈ pseen o) {p : POp} (hk : p.kind = 3) (h1 : p.object = x) (h2 : p.key = ⟨#[]⟩) (h3 : p.element = y) : elementsP (doesP R p) x = .ok (pseen o) := by
  obtain ⟨n1, _, n3⟩ := hO.lst x o ho hl
  rw [elementsP_mk (val_at ho hl (.inl hk) h1 h2 h3) rfl, hk, valued_map _ _ _ _ _ n3 n1]
  show Except.ok (idsOf ((o.ss.map (valS y p.old 3 p.held)).filter seenB)) = _
  rw [seen_give, seen_same n1 hy]
  rfl
theorem cut_els {R : List PObj} {done : List PId} (hO : Ord R done) {x : PId} {o : PObj} (ho : objOf R x = some o) (hl : o.list = true) {i : Nat} (hi : i < (pseen o).length) {p : POp} (hk : p.kind = 4) (h1 : p.object = x) (h2 : p.key = ⟨#[]⟩) (h3 : p.element = (pseen o)[i]) (hold : ∀ s ∈ o.ss, s.id = (pseen o)[i] → ∀ z ∈ s.hs, z.giver ∈ p.old) : elementsP (doesP R p) x = .ok ((pseen o).take i ++ (pseen o).drop (i + 1)) := by
  obtain ⟨n1, _, n3⟩ := hO.lst x o ho hl
  rw [elementsP_mk (val_at ho hl (.inr hk) h1 h2 h3) rfl, hk, valued_map _ _ _ _ _ n3 n1]
  show Except.ok (idsOf ((o.ss.map (valS (pseen o)[i] p.old 4 p.held)).filter seenB)) = _
  rw [seen_take _ _ _ _ hold]
  show Except.ok ((pseen o).filter _) = _
  rw [filter_out (n1.sublist (pseen_sub o)) hi]
theorem ins_els {R : List PObj} {done : List PId} (hO : Ord R done) (h00 : (0, 0) ∉ done) {x b : PId} {o : PObj} (ho : objOf R x = some o) (hl : o.list = true) {i : Nat} (hi : i ≤ (pseen o).length) (hb : behindP (pseen o) i = some b) {p q : POp} (hpd : p.id ∉ done) (k1 : p.kind = 2) (p1 : p.object = x) (p2 : p.behind = b) (k2 : q.kind = 3) (q1 : q.object = x) (q2 : q.key = ⟨#[]⟩) (q3 : q.element = p.id) : elementsP (doesP (doesP R p) q) x = .ok ((pseen o).take i ++ p.id :: (pseen o).drop i) := by
  obtain ⟨n1, n2, n3⟩ := hO.lst x o ho hl
  have h1 : objOf (doesP R p) x = some ⟨o.id, true, laidP o.ss b p.id⟩ := by
    rw [does_obj (by omega), if_pos p1.symm, ho, Option.map_some]
    unfold doesAt
    rw [if_pos k1, if_pos hl, hl, p2]
  rw [elementsP_mk (val_at h1 rfl (.inl k2) q1 q2 q3) rfl, k2]
  show Except.ok (idsOf ((valuedP (laidP o.ss b p.id) true ⟨#[]⟩ p.id q.old 3 q.held).filter seenB)) = _
  rw [insert_seen n3 n1 (fun hm => h00 (n2 _ hm)) (fun hm => hpd (n2 _ hm)) hi hb]
  rfl

/-- A copy's document keeps to its order. -/
theorem copy_ord {N : Nat} {M : Nat → List MOp} {s : RoomS} (ok : RoomOk N M s) {c : Nat} (hc : c < N) : ∃ done, Ord (ROf (s.ops c)) done ∧ (0, 0) ∉ done ∧ (s.gt c + 1, (c : Int)) ∉ done := by
  have h := Ord.all ((s.ops c).map fun o => popOf o.op) rootP [] Ord.root (pops_nd ((ok.copy c hc).ndId ok.made)) fun p hp => (pops_out ok.made (fun y hy => (ok.copy c hc).made hy) p hp).1
  refine ⟨_, h, fun hm => ?_, fun hm => ?_⟩ <;> rw [List.append_nil] at hm <;> obtain ⟨p, hp, e⟩ := List.mem_map.1 (List.mem_reverse.1 hm)
  · exact (pops_out ok.made (fun y hy => (ok.copy c hc).made hy) p hp).2 e
  · obtain ⟨y, hy, rfl⟩ := List.mem_map.1 hp
    rw [pop_id] at e
    have := (ok.copy c hc).gtL y hy
    rw [e] at this
    simp at this
    omega
theorem wroteS_ops (s : RoomS) (c : Nat) (chg : QChg) (t : TypeId) (v : Value) : (wroteS s c chg t v).ops c = s.ops c ++ [newOp c (s.gt c) (s.has c) chg t v] := upd_same _ _ _

/-- What a write of the list's leaves: the copy tells L. -/
def Tells (Z : Nat → Prop) (tb : Nat) (r N sp : Nat) (ls : PId) (c : Nat) (L : List PId) (w w' : World) : Prop := (∃ M s, QInv Z tb w' r N sp ls M s ∧ elementsP (ROf (s.ops c)) ls = .ok L) ∧ Zept Z w w'
theorem QInv.tells {Z : Nat → Prop} {tb : Nat} {w : World} {r N sp : Nat} {ls : PId} {M : Nat → List MOp} {s : RoomS} (h : QInv Z tb w r N sp ls M s) {c : Nat} {M' : Nat → List MOp} {s' : RoomS} {ch : Option Nat} {w' : World} {L' : List PId} (hw : Went N M s ch M' s') (hi : invS Z tb w' r N sp ls M' s' ∧ Zept Z w w') (he : elementsP (ROf (s'.ops c)) ls = .ok L') : Tells Z tb r N sp ls c L' w w' := ⟨⟨M', s', ⟨hi.1, h.l.went hw⟩, he⟩, hi.2⟩
section
/-- WHAT IS INSERTED. -/
theorem QInv.insertL {Z : Nat → Prop} {tb : Nat} {w : World} {r N sp : Nat} {ls : PId} {M : Nat → List MOp} {s : RoomS} (h : QInv Z tb w r N sp ls M s) {c : Nat} (hc : c < N) {L : List PId} (hL : elementsP (ROf (s.ops c)) ls = .ok L) (i : Nat) (hi : i ≤ L.length) (n : Int) (hn : intOk n) :
    Calls Tryz.prog 32 #[.pointer (some ⟨r, 0, none⟩), .int .i64 c, .agg #[.int .i64 ls.1, .int .i64 ls.2], .int .i64 i, .int .i64 n] w fun e w' =>
      (∃ a b : Int, e = .returned (.tuple #[.agg #[.int .i64 a, .int .i64 b], .int .i64 0]) ∧ Tells Z tb r N sp ls c (L.take i ++ (a, b) :: L.drop i) w w') ∨ (e = .returned (.tuple #[.agg #[.int .i64 0, .int .i64 0], .int .i64 8]) ∧ Tells Z tb r N sp ls c L w w') := by
  obtain ⟨F, I, x, hr⟩ := h.i
  obtain ⟨o, ho, hl, rfl⟩ := elementsP_of hL
  obtain ⟨done, hO, h00, hgt⟩ := copy_ord hr.d.ok hc
  refine (gInsert hr.d hc ls.1 ls.2 i n).mono ?_
  rintro e w' (⟨m, hm, rfl, hto⟩ | ⟨o', b, ho', hl', hb, rfl, hcap, t, v, D1, ss, t', v', _, _, _, _, hto⟩)
  · rcases hm with hm | ⟨_, o', ho', _, hbn⟩ | ⟨rfl, _⟩
    · exact absurd (hL.symm.trans hm) (by simp)
    · exfalso
      rw [show ((ls.1, ls.2) : PId) = ls from rfl, ho] at ho'
      cases ho'
      unfold behindP at hbn
      split at hbn
      · rename_i hr'
        omega
      · split at hbn
        · cases hbn
        · rw [List.getElem?_eq_none_iff] at hbn
          omega
    · exact .inr ⟨rfl, h.tells (Went.refl N M s none) (hr.to hto hr.nice) hL⟩
  · rw [show ((ls.1, ls.2) : PId) = ls from rfl, ho] at ho'
    cases ho'
    refine .inl ⟨_, _, rfl, h.tells ((Went.wrote N M s c _ t v).trans (Went.wrote N _ _ c _ t' v')) (hr.to hto ((hr.nice.add (c := c) (o := newOp c (s.gt c) (s.has c) (.inr (.inl ((ls.1, ls.2), b))) t v) ⟨zeroOk, Nat.zero_le _⟩).add (c := c) (o := newOp c ((wroteS s c (.inr (.inl ((ls.1, ls.2), b))) t v).gt c) ((wroteS s c (.inr (.inl ((ls.1, ls.2), b))) t v).has c) (.inr (.inr (.inl ((ls.1, ls.2), ⟨#[]⟩, (s.gt c + 1, (c : Int)), (n, (0, 0)), ss)))) t' v') ⟨hn, Nat.zero_le _⟩)) ?_⟩
    rw [wroteS_ops, wroteS_ops, ROf_snoc, ROf_snoc]
    exact ins_els hO h00 ho hl hi hb hgt rfl rfl rfl rfl rfl rfl rfl
/-- WHAT IS SET. -/
theorem QInv.setAtL {Z : Nat → Prop} {tb : Nat} {w : World} {r N sp : Nat} {ls : PId} {M : Nat → List MOp} {s : RoomS} (h : QInv Z tb w r N sp ls M s) {c : Nat} (hc : c < N) {L : List PId} (hL : elementsP (ROf (s.ops c)) ls = .ok L) (i : Nat) (hi : i ≤ L.length) (n : Int) (hn : intOk n) :
    Calls Tryz.prog 33 #[.pointer (some ⟨r, 0, none⟩), .int .i64 c, .agg #[.int .i64 ls.1, .int .i64 ls.2], .int .i64 i, .int .i64 n] w fun e w' =>
      ((i < L.length ∧ (e = .returned (.int .i64 0) ∨ e = .returned (.int .i64 8))) ∨ (i = L.length ∧ e = .returned (.int .i64 7))) ∧ Tells Z tb r N sp ls c L w w' := by
  obtain ⟨F, I, x, hr⟩ := h.i
  obtain ⟨o, ho, hl, rfl⟩ := elementsP_of hL
  obtain ⟨done, hO, h00, hgt⟩ := copy_ord hr.d.ok hc
  refine (gSetAt hr.d hc ls.1 ls.2 i n).mono ?_
  rintro e w' (⟨m, hm, rfl, hto⟩ | ⟨o', y, ss, ho', hl', hin, hy, _, _, rfl, hcap, t, v, hto⟩)
  · refine ⟨?_, h.tells (Went.refl N M s none) (hr.to hto hr.nice) hL⟩
    rcases hm with hm | ⟨rfl, o', ho', _, hout⟩ | ⟨⟨rfl, _⟩, o', ho', _, hin⟩
    · exact absurd (hL.symm.trans hm) (by simp)
    · rw [show ((ls.1, ls.2) : PId) = ls from rfl, ho] at ho'
      cases ho'
      exact .inr ⟨by omega, rfl⟩
    · rw [show ((ls.1, ls.2) : PId) = ls from rfl, ho] at ho'
      cases ho'
      exact .inl ⟨by omega, .inr rfl⟩
  · rw [show ((ls.1, ls.2) : PId) = ls from rfl, ho] at ho'
    cases ho'
    refine ⟨.inl ⟨by omega, .inl rfl⟩, h.tells (Went.wrote N M s c _ t v) (hr.to hto (hr.nice.add ⟨hn, Nat.zero_le _⟩)) ?_⟩
    rw [wroteS_ops, ROf_snoc]
    exact set_els hO ho hl (List.mem_of_getElem? hy) rfl rfl rfl rfl
/-- WHAT IS CUT. -/
theorem QInv.cutAtL {Z : Nat → Prop} {tb : Nat} {w : World} {r N sp : Nat} {ls : PId} {M : Nat → List MOp} {s : RoomS} (h : QInv Z tb w r N sp ls M s) {c : Nat} (hc : c < N) {L : List PId} (hL : elementsP (ROf (s.ops c)) ls = .ok L) (i : Nat) (hi : i ≤ L.length) :
    Calls Tryz.prog 34 #[.pointer (some ⟨r, 0, none⟩), .int .i64 c, .agg #[.int .i64 ls.1, .int .i64 ls.2], .int .i64 i] w fun e w' =>
      (i < L.length ∧ e = .returned (.int .i64 0) ∧ Tells Z tb r N sp ls c (L.take i ++ L.drop (i + 1)) w w') ∨ (i < L.length ∧ e = .returned (.int .i64 8) ∧ Tells Z tb r N sp ls c L w w') ∨ (i = L.length ∧ (e = .returned (.int .i64 7) ∨ e = .returned (.int .i64 8)) ∧ Tells Z tb r N sp ls c L w w') := by
  obtain ⟨F, I, x, hr⟩ := h.i
  obtain ⟨o, ho, hl, rfl⟩ := elementsP_of hL
  obtain ⟨done, hO, h00, hgt⟩ := copy_ord hr.d.ok hc
  refine (gCutAt hr.d hc ls.1 ls.2 i).mono ?_
  rintro e w' (⟨m, hm, rfl, hto⟩ | ⟨o', y, ss, ho', hl', hin, hy, hp, _, rfl, hcap, t, v, hto⟩)
  · have ht := h.tells (Went.refl N M s none) (hr.to hto hr.nice) hL
    rcases hm with hm | ⟨rfl, o', ho', _, hout⟩ | ⟨rfl, _⟩
    · exact absurd (hL.symm.trans hm) (by simp)
    · rw [show ((ls.1, ls.2) : PId) = ls from rfl, ho] at ho'
      cases ho'
      exact .inr (.inr ⟨by omega, .inl rfl, ht⟩)
    · rcases Nat.lt_or_ge i (pseen o).length with hlt | hge
      · exact .inr (.inl ⟨hlt, rfl, ht⟩)
      · exact .inr (.inr ⟨by omega, .inr rfl, ht⟩)
  · rw [show ((ls.1, ls.2) : PId) = ls from rfl, ho] at ho'
    cases ho'
    have hlt : i < (pseen o).length := by omega
    rw [Int.toNat_natCast, List.getElem?_eq_getElem hlt] at hy
    injection hy with hy
    refine .inl ⟨hlt, rfl, h.tells (Went.wrote N M s c _ t v) (hr.to hto (hr.nice.add ⟨zeroOk, Nat.zero_le _⟩)) ?_⟩
    rw [wroteS_ops, ROf_snoc]
    refine cut_els hO ho hl hlt rfl rfl rfl hy.symm fun sl hsl hid z hz => ?_
    obtain ⟨ob, _, hag⟩ := (hr.d.ag hc).o1 ls o ho
    obtain ⟨_, _, el, hel, hell, hev⟩ := hag.elems hl sl hsl
    show z.giver ∈ ss
    rw [hp.mem_iff]
    have hat : (atPl (x.q c).D.1 (x.q c).D.2 (ls.1, ls.2) ⟨#[]⟩ y).vs = el.vs := by
      have hely : lookI y (x.q c).D.2 = some el := by rw [← hy, ← hid]; exact hel
      unfold atPl hasPl
      rw [hely]
      simp [hell]
    rw [hat]
    have : hpair z ∈ el.vs := hev.mem_iff.2 (List.mem_map.2 ⟨z, hz, rfl⟩)
    exact List.mem_map.2 ⟨hpair z, this, rfl⟩
end

end Go.Proofs.YtnkpogjiiohapaaGreatDoor
