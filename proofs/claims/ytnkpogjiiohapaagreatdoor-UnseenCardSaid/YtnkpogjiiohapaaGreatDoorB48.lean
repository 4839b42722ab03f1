/- Our own text (ULawF, ULawG). -/
import Derived.Test.YtnkpogjiiohapaaGreatDoorA45
import Derived.Test.YtnkpogjiiohapaaGreatDoorB47
set_option linter.unusedSimpArgs false
set_option linter.unusedVariables false

/-! ULawF: quirekeep: the room's writers, each as a step, just so. -/
namespace Go.Proofs.YtnkpogjiiohapaaGreatDoor
open Go.RowKit

/-- A call that is a step, just so. -/
def stepX (Z : Nat → Prop) (tb r N sp : Nat) (ls : PId) (R : (Nat → List MOp) → RoomS → Prop) (w : World) (e : Ending) (w' : World) : Prop := (∃ v, e = .returned v) ∧ (∃ M' s', R M' s' ∧ QInv Z tb w' r N sp ls M' s') ∧ Zept Z w w'
theorem stepX.before {Z : Nat → Prop} {tb : Nat} {w W w' : World} {r N sp : Nat} {ls : PId} {M : Nat → List MOp} {s : RoomS} {R : (Nat → List MOp) → RoomS → Prop} (h : QInv Z tb w r N sp ls M s) (hb : Below w.heap.size w W) {e : Ending} (hs : stepX Z tb r N sp ls R W e w') : stepX Z tb r N sp ls R w e w' := ⟨hs.1, hs.2.1, (Zept.of hb h.i.zlt).trans hs.2.2⟩
theorem pair_giver (l : List PHeld) : (l.map hpair).map (·.1) = l.map (·.giver) := by rw [List.map_map]; rfl
theorem ROf_snocU (ops : List MOp) (y : MOp) : ROf (ops ++ [y]) = doesP (ROf ops) (popOf y.op) := by
  unfold ROf
  rw [List.map_append, List.foldl_append]
  rfl
theorem doesU_list (p : POp) (o : PObj) : (doesAt p o).list = o.list := by
  unfold doesAt
  split
  · split <;> rfl
  · split <;> rfl
theorem rootU_keep : ∀ (S : List POp) (R : List PObj), (∃ o, objOf R (0, 0) = some o ∧ o.list = false) → ∃ o, objOf (S.foldl doesP R) (0, 0) = some o ∧ o.list = false
  | [], _, h => h
  | p :: S, R, ⟨o, ho, hl⟩ => rootU_keep S (doesP R p) (by
      by_cases hk : p.kind = 1
      · exact ⟨o, by rw [make_obj hk, ho], hl⟩
      · rw [does_obj hk]
        by_cases hx : ((0, 0) : PId) = p.object
        · rw [if_pos hx, ho]
          exact ⟨doesAt p o, rfl, by rw [doesU_list]; exact hl⟩
        · rw [if_neg hx]
          exact ⟨o, ho, hl⟩)
theorem rootU (ops : List MOp) : ∃ o, objOf (ROf ops) (0, 0) = some o ∧ o.list = false := rootU_keep (ops.map fun (o : MOp) => popOf o.op) rootP ⟨⟨(0, 0), false, []⟩, rfl, rfl⟩
theorem seenU_in {o : PObj} {y : PId} (h : y ∈ pseen o) : y ∈ o.ss.map PSlot.id := by
  unfold pseen at h
  obtain ⟨s, hs, he⟩ := List.mem_map.1 h
  exact List.mem_map.2 ⟨s, (List.mem_filter.1 hs).1, he⟩
/-- What a write leaves. -/
def wroteR (c : Nat) (C : List QChg → Prop) (M : Nat → List MOp) (s : RoomS) (M' : Nat → List MOp) (s' : RoomS) : Prop := ∃ gs, C gs ∧ WroteX c gs M s M' s'
theorem laid_fresh {R : List PObj} {I : List PId} (hi : InR R I) {x : PId} {o : PObj} (ho : objOf R x = some o) {p : POp} (hk : p.kind = 2) (hf : p.id ∉ I) (hl : o.list = true) (hz : p.id ≠ (0, 0)) : heldsAt (doesAt p o) ⟨#[]⟩ p.id = [] := by
  unfold heldsAt
  cases hs : (doesAt p o).ss.find? (pslotIs ⟨#[]⟩ p.id) with
  | none => rfl
  | some s =>
    have h1 := List.mem_of_find?_eq_some hs
    have h2 := (slotIs_true.1 (List.find?_some hs)).2
    unfold doesAt at h1
    rw [if_pos hk, if_pos hl] at h1
    rcases laid_memG h1 with h1 | rfl
    · exfalso
      rcases hi.slot x o ho s h1 with h3 | h3
      · exact hz (h2.symm.trans h3)
      · rw [h2] at h3
        exact hf h3
    · rfl
section
theorem QInv.putX {Z : Nat → Prop} {tb : Nat} {w : World} {r N sp : Nat} {ls : PId} {M : Nat → List MOp} {s : RoomS} (h : QInv Z tb w r N sp ls M s) {c : Nat} (hc : c < N) (n : Int) (hn : intOk n) (key : ByteArray) (hks : key.size ≤ 1) :
    Calls Tryz.prog 23 #[.pointer (some ⟨r, 0, none⟩), .int .i64 c, .agg #[.int .i64 0, .int .i64 0], .string key, .int .i64 n] w fun e w' => stepX Z tb r N sp ls (wroteR c (putC (ROf (s.ops c)) (s.has c c) (0, 0) key n) M s) w e w' := by
  obtain ⟨F, I, x, hr⟩ := h.i
  refine (gPut hr.d hc 0 0 n key (by unfold maxLen; omega)).mono ?_
  rintro e w' (⟨m, hm, rfl, hto⟩ | ⟨o, ss, ho, hol, hk, hp, ha, rfl, hl, t, v, hto⟩)
  · have hi := hr.to hto hr.nice
    exact ⟨⟨_, rfl⟩, ⟨M, s, ⟨[], .inl ⟨hm.imp (fun h => ⟨m, h⟩) (fun h => h.2), rfl⟩, rfl, rfl⟩, hi.1, h.l⟩, hi.2⟩
  · have hi := hr.to hto (hr.nice.add hn hks)
    have hx : WroteX c [.inr (.inr (.inl ((0, 0), key, (0, 0), (n, (0, 0)), ss)))] M s _ _ := ⟨t, v, rfl, rfl⟩
    have hke : key ≠ ⟨#[]⟩ := fun e => by rw [e] at hk; exact absurd hk (by decide)
    have hat := ((hr.d.ag hc).atK ho hol hke (0, 0)).2
    refine ⟨⟨_, rfl⟩, ⟨_, _, ⟨_, .inr ⟨o, ss, ho, hol, hk, hl, ⟨?_, ha⟩, rfl⟩, hx⟩, hi.1, h.l.went (WroteX.went _ hx)⟩, hi.2⟩
    rw [← pair_giver]
    exact hp.trans (hat.map _)
theorem QInv.cutX {Z : Nat → Prop} {tb : Nat} {w : World} {r N sp : Nat} {ls : PId} {M : Nat → List MOp} {s : RoomS} (h : QInv Z tb w r N sp ls M s) {c : Nat} (hc : c < N) (key : ByteArray) (hks : key.size ≤ 1) :
    Calls Tryz.prog 78 #[.pointer (some ⟨r, 0, none⟩), .int .i64 c, .agg #[.int .i64 0, .int .i64 0], .string key] w fun e w' => stepX Z tb r N sp ls (wroteR c (cutC (ROf (s.ops c)) (s.has c c) (0, 0) key) M s) w e w' := by
  obtain ⟨F, I, x, hr⟩ := h.i
  refine (gCut hr.d hc 0 0 key (by unfold maxLen; omega)).mono ?_
  rintro e w' (⟨m, hm, rfl, hto⟩ | ⟨o, ss, ho, hol, hk, hp, ha, rfl, hne, hl, t, v, hto⟩)
  · have hi := hr.to hto hr.nice
    refine ⟨⟨_, rfl⟩, ⟨M, s, ⟨[], .inl ⟨?_, rfl⟩, rfl, rfl⟩, hi.1, h.l⟩, hi.2⟩
    rcases hm with hm | ⟨_, hm⟩ | ⟨_, hm⟩
    · exact .inl ⟨m, hm⟩
    · obtain ⟨o, ho, hol⟩ := rootU (s.ops c)
      by_cases hk : keyOk key = true
      · have hke : key ≠ ⟨#[]⟩ := fun e => by rw [e] at hk; exact absurd hk (by decide)
        have hat := ((hr.d.ag hc).atK ho hol hke (0, 0)).2
        rw [hm] at hat
        have := List.Perm.nil_eq hat
        exact .inr (.inl ⟨o, ho, List.map_eq_nil_iff.1 this.symm⟩)
      · left
        rw [keyed_of ho hol, if_neg hk]
        exact ⟨5, rfl⟩
    · exact .inr (.inr hm)
  · have hi := hr.to hto (hr.nice.add zeroOk hks)
    have hx : WroteX c [.inr (.inr (.inr ((0, 0), key, (0, 0), ss)))] M s _ _ := ⟨t, v, rfl, rfl⟩
    have hke : key ≠ ⟨#[]⟩ := fun e => by rw [e] at hk; exact absurd hk (by decide)
    have hat := ((hr.d.ag hc).atK ho hol hke (0, 0)).2
    refine ⟨⟨_, rfl⟩, ⟨_, _, ⟨_, .inr ⟨o, ss, ho, hol, hk, hl, fun e0 => ?_, ⟨?_, ha⟩, rfl⟩, hx⟩, hi.1, h.l.went (WroteX.went _ hx)⟩, hi.2⟩
    · rw [e0, List.map_nil] at hat
      exact hne (List.Perm.eq_nil hat)
    · rw [← pair_giver]
      exact hp.trans (hat.map _)
theorem QInv.setAtX {Z : Nat → Prop} {tb : Nat} {w : World} {r N sp : Nat} {ls : PId} {M : Nat → List MOp} {s : RoomS} (h : QInv Z tb w r N sp ls M s) {c : Nat} (hc : c < N) (i n : Int) (hn : intOk n) :
    Calls Tryz.prog 33 #[.pointer (some ⟨r, 0, none⟩), .int .i64 c, .agg #[.int .i64 ls.1, .int .i64 ls.2], .int .i64 i, .int .i64 n] w fun e w' => stepX Z tb r N sp ls (wroteR c (elC (ROf (s.ops c)) (s.has c c) ls i (fun y ss => .inr (.inr (.inl (ls, ⟨#[]⟩, y, (n, (0, 0)), ss))))) M s) w e w' := by
  obtain ⟨F, I, x, hr⟩ := h.i
  refine (gSetAt hr.d hc ls.1 ls.2 i n).mono ?_
  rintro e w' (⟨m, hm, rfl, hto⟩ | ⟨o, y, ss, ho, hol, hin, hy, hp, ha, rfl, hl, t, v, hto⟩)
  · have hi := hr.to hto hr.nice
    refine ⟨⟨_, rfl⟩, ⟨M, s, ⟨[], .inl ⟨?_, rfl⟩, rfl, rfl⟩, hi.1, h.l⟩, hi.2⟩
    rcases hm with hm | ⟨_, o, ho, _, hi⟩ | ⟨⟨_, hm⟩, _⟩
    · exact .inl ⟨m, hm⟩
    · exact .inr (.inl ⟨o, ho, hi⟩)
    · exact .inr (.inr hm)
  · have hi := hr.to hto (hr.nice.add hn (Nat.zero_le _))
    have hx : WroteX c [.inr (.inr (.inl (ls, ⟨#[]⟩, y, (n, (0, 0)), ss)))] M s _ _ := ⟨t, v, rfl, rfl⟩
    have hat := ((hr.d.ag hc).atE ho hol (seenU_in (List.mem_of_getElem? hy))).2
    refine ⟨⟨_, rfl⟩, ⟨_, _, ⟨_, .inr ⟨o, y, ss, ho, hol, hl, hin, hy, ⟨?_, ha⟩, rfl⟩, hx⟩, hi.1, h.l.went (WroteX.went _ hx)⟩, hi.2⟩
    rw [← pair_giver]
    exact hp.trans (hat.map _)
theorem QInv.cutAtX {Z : Nat → Prop} {tb : Nat} {w : World} {r N sp : Nat} {ls : PId} {M : Nat → List MOp} {s : RoomS} (h : QInv Z tb w r N sp ls M s) {c : Nat} (hc : c < N) (i : Int) :
    Calls Tryz.prog 34 #[.pointer (some ⟨r, 0, none⟩), .int .i64 c, .agg #[.int .i64 ls.1, .int .i64 ls.2], .int .i64 i] w fun e w' => stepX Z tb r N sp ls (wroteR c (elC (ROf (s.ops c)) (s.has c c) ls i (fun y ss => .inr (.inr (.inr (ls, ⟨#[]⟩, y, ss))))) M s) w e w' := by
  obtain ⟨F, I, x, hr⟩ := h.i
  refine (gCutAt hr.d hc ls.1 ls.2 i).mono ?_
  rintro e w' (⟨m, hm, rfl, hto⟩ | ⟨o, y, ss, ho, hol, hin, hy, hp, ha, rfl, hl, t, v, hto⟩)
  · have hi := hr.to hto hr.nice
    refine ⟨⟨_, rfl⟩, ⟨M, s, ⟨[], .inl ⟨?_, rfl⟩, rfl, rfl⟩, hi.1, h.l⟩, hi.2⟩
    rcases hm with hm | ⟨_, o, ho, _, hi⟩ | ⟨_, hm⟩
    · exact .inl ⟨m, hm⟩
    · exact .inr (.inl ⟨o, ho, hi⟩)
    · exact .inr (.inr hm)
  · have hi := hr.to hto (hr.nice.add zeroOk (Nat.zero_le _))
    have hx : WroteX c [.inr (.inr (.inr (ls, ⟨#[]⟩, y, ss)))] M s _ _ := ⟨t, v, rfl, rfl⟩
    have hat := ((hr.d.ag hc).atE ho hol (seenU_in (List.mem_of_getElem? hy))).2
    refine ⟨⟨_, rfl⟩, ⟨_, _, ⟨_, .inr ⟨o, y, ss, ho, hol, hl, hin, hy, ⟨?_, ha⟩, rfl⟩, hx⟩, hi.1, h.l.went (WroteX.went _ hx)⟩, hi.2⟩
    rw [← pair_giver]
    exact hp.trans (hat.map _)
theorem QInv.insertX {Z : Nat → Prop} {tb : Nat} {w : World} {r N sp : Nat} {ls : PId} {M : Nat → List MOp} {s : RoomS} (h : QInv Z tb w r N sp ls M s) {c : Nat} (hc : c < N) (i n : Int) (hn : intOk n) :
    Calls Tryz.prog 32 #[.pointer (some ⟨r, 0, none⟩), .int .i64 c, .agg #[.int .i64 ls.1, .int .i64 ls.2], .int .i64 i, .int .i64 n] w fun e w' => stepX Z tb r N sp ls (wroteR c (insC (ROf (s.ops c)) (s.has c c) (s.gt c) c ls i n) M s) w e w' := by
  obtain ⟨F, I, x, hr⟩ := h.i
  refine (gInsert hr.d hc ls.1 ls.2 i n).mono ?_
  rintro e w' (⟨m, hm, rfl, hto⟩ | ⟨o, b, ho, hol, hb, rfl, hl, t, v, D1, ss, t', v', hag, _, hp, _, hto⟩)
  · have hi := hr.to hto hr.nice
    refine ⟨⟨_, rfl⟩, ⟨M, s, ⟨[], .inl ⟨?_, rfl⟩, rfl, rfl⟩, hi.1, h.l⟩, hi.2⟩
    rcases hm with hm | ⟨_, o, ho, _, hi⟩ | ⟨_, hm⟩
    · exact .inl ⟨m, hm⟩
    · exact .inr (.inl ⟨o, ho, hi⟩)
    · exact .inr (.inr hm)
  · have hss : ss = [] := by
      have ep : popOf (newOp c (s.gt c) (s.has c) (.inr (.inl (ls, b))) t v).op = ⟨(s.gt c + 1, (c : Int)), 2, false, ls, ⟨#[]⟩, (0, 0), b, 0, (0, 0), []⟩ := rfl
      have eo : (wroteS s c (.inr (.inl (ls, b))) t v).ops c = s.ops c ++ [newOp c (s.gt c) (s.has c) (.inr (.inl (ls, b))) t v] := by unfold wroteS copyS; simp only [upd_same]
      have hag' := hag
      rw [eo, ROf_snocU, ep] at hag'
      have ho1 : objOf (doesP (ROf (s.ops c)) ⟨(s.gt c + 1, (c : Int)), 2, false, ls, ⟨#[]⟩, (0, 0), b, 0, (0, 0), []⟩) ls = some (doesAt ⟨(s.gt c + 1, (c : Int)), 2, false, ls, ⟨#[]⟩, (0, 0), b, 0, (0, 0), []⟩ o) := by
        rw [does_obj (show (2 : Int) ≠ 1 by decide), if_pos rfl]
        rw [show objOf (ROf (s.ops c)) ls = some o from ho]
        rfl
      have hgt := (hr.d.ok.gtU c hc).1
      have hfr : heldsAt (doesAt ⟨(s.gt c + 1, (c : Int)), 2, false, ls, ⟨#[]⟩, (0, 0), b, 0, (0, 0), []⟩ o) ⟨#[]⟩ (s.gt c + 1, (c : Int)) = [] := by
        refine laid_fresh (p := ⟨(s.gt c + 1, (c : Int)), 2, false, ls, ⟨#[]⟩, (0, 0), b, 0, (0, 0), []⟩) (hr.d.doc hc).2.2 ho rfl (fun hm => ?_) hol (fun e => ?_)
        · rw [List.mem_reverse] at hm
          obtain ⟨y, hy, e⟩ := List.mem_map.1 hm
          have h9 := (hr.d.ok.copy c hc).gtL y hy
          have e1 : y.op.id.1 = s.gt c + 1 := by rw [e]
          omega
        · have e1 : s.gt c + 1 = 0 := congrArg Prod.fst e
          omega
      have hvs : (atPl D1.1 D1.2 ls ⟨#[]⟩ (s.gt c + 1, (c : Int))).vs = [] := by
        by_cases hy : (s.gt c + 1, (c : Int)) ∈ (doesAt ⟨(s.gt c + 1, (c : Int)), 2, false, ls, ⟨#[]⟩, (0, 0), b, 0, (0, 0), []⟩ o).ss.map PSlot.id
        · have h9 := (hag'.atE ho1 (by rw [doesU_list]; exact hol) hy).2
          rw [hfr, List.map_nil] at h9
          exact List.Perm.eq_nil h9
        · have hno : hasPl D1.1 D1.2 ls ⟨#[]⟩ (s.gt c + 1, (c : Int)) = false := by
            unfold hasPl
            rw [if_pos rfl]
            cases hlk : lookI (s.gt c + 1, (c : Int)) D1.2 with
            | none => rfl
            | some e =>
              show decide (e.list = ls) = false
              refine decide_eq_false fun el => hy ?_
              obtain ⟨o', h1, _, h3⟩ := hag'.el _ e hlk
              rw [el, ho1] at h1
              cases h1
              exact h3
          unfold atPl
          rw [hno]
          rfl
      have hp' : ss.Perm ((atPl D1.1 D1.2 ls ⟨#[]⟩ (s.gt c + 1, (c : Int))).vs.map (·.1)) := hp
      rw [hvs, List.map_nil] at hp'
      exact List.Perm.eq_nil hp'
    subst hss
    have hi := hr.to hto ((hr.nice.add (c := c) (o := newOp c (s.gt c) (s.has c) (.inr (.inl (ls, b))) t v) zeroOk (Nat.zero_le _)).add (c := c) (o := newOp c ((wroteS s c (.inr (.inl (ls, b))) t v).gt c) ((wroteS s c (.inr (.inl (ls, b))) t v).has c) (.inr (.inr (.inl (ls, ⟨#[]⟩, (s.gt c + 1, (c : Int)), (n, (0, 0)), [])))) t' v') hn (Nat.zero_le _))
    have hx : WroteX c [.inr (.inl (ls, b)), .inr (.inr (.inl (ls, ⟨#[]⟩, (s.gt c + 1, (c : Int)), (n, (0, 0)), [])))] M s _ _ := ⟨t, v, t', v', rfl, rfl⟩
    exact ⟨⟨_, rfl⟩, ⟨_, _, ⟨_, .inr ⟨o, b, ho, hol, hl, hb, rfl⟩, hx⟩, hi.1, h.l.went (WroteX.went _ hx)⟩, hi.2⟩
theorem QInv.elementsX {Z : Nat → Prop} {tb : Nat} {w : World} {r N sp : Nat} {ls : PId} {M : Nat → List MOp} {s : RoomS} (h : QInv Z tb w r N sp ls M s) {c : Nat} (hc : c < N) :
    Calls Tryz.prog 29 #[.pointer (some ⟨r, 0, none⟩), .int .i64 c, .agg #[.int .i64 ls.1, .int .i64 ls.2]] w fun e w' => Below w.heap.size w w' ∧ ∃ a n cap er, n ≤ 300 ∧ e = .returned (.tuple #[.slice a n cap, .int .i64 er]) ∧ n = lenE (ROf (s.ops c)) ls := by
  obtain ⟨F, I, x, hr⟩ := h.i
  refine (gElements hr.d hc ls.1 ls.2).mono ?_
  rintro e w' ⟨hb, ⟨n, hn, rfl⟩ | ⟨v, l, hn, hl, rfl, hv⟩⟩
  · refine ⟨hb, none, 0, 0, n, by omega, rfl, ?_⟩
    unfold lenE
    rw [show elementsP (ROf (s.ops c)) ls = .error n from hn]
  · obtain ⟨a, cap, rfl, _, _, _⟩ := owns_form hv
    refine ⟨hb, a, l.length, cap, 0, hl, rfl, ?_⟩
    unfold lenE
    rw [show elementsP (ROf (s.ops c)) ls = .ok l from hn]
end

end Go.Proofs.YtnkpogjiiohapaaGreatDoor

/-! ULawG: quirekeep: write, just so. -/
namespace Go.Proofs.YtnkpogjiiohapaaGreatDoor
open Go.RowKit
attribute [local go_sem ↓] Go.wp_at_zero Go.wp_at_succ

theorem WriteC_ins {R : List PObj} {own gt : Int} {c : Nat} {ls : PId} {p : Stp} {gs : List QChg} (hk : pickN p.k 8 ≤ 3) (h : insC R own gt c ls (pickN p.a (lenE R ls + 1)) p.n gs) : WriteC R own gt c ls p gs := by unfold WriteC; rw [if_pos hk]; exact h
theorem WriteC_cutAt {R : List PObj} {own gt : Int} {c : Nat} {ls : PId} {p : Stp} {gs : List QChg} (hk : pickN p.k 8 = 4) (h : elC R own ls (pickN p.a (lenE R ls + 1)) (fun y ss => .inr (.inr (.inr (ls, ⟨#[]⟩, y, ss)))) gs) : WriteC R own gt c ls p gs := by unfold WriteC; rw [if_neg (by omega), if_pos hk]; exact h
theorem WriteC_setAt {R : List PObj} {own gt : Int} {c : Nat} {ls : PId} {p : Stp} {gs : List QChg} (hk : pickN p.k 8 = 5) (h : elC R own ls (pickN p.a (lenE R ls + 1)) (fun y ss => .inr (.inr (.inl (ls, ⟨#[]⟩, y, (p.n, (0, 0)), ss)))) gs) : WriteC R own gt c ls p gs := by unfold WriteC; rw [if_neg (by omega), if_neg (by omega), if_pos hk]; exact h
theorem WriteC_put {R : List PObj} {own gt : Int} {c : Nat} {ls : PId} {p : Stp} {gs : List QChg} (hk : pickN p.k 8 = 6) (h : putC R own (0, 0) (keyN p.a) p.n gs) : WriteC R own gt c ls p gs := by unfold WriteC; rw [if_neg (by omega), if_neg (by omega), if_neg (by omega), if_pos hk]; exact h
theorem WriteC_cut {R : List PObj} {own gt : Int} {c : Nat} {ls : PId} {p : Stp} {gs : List QChg} (hk : pickN p.k 8 = 7) (h : cutC R own (0, 0) (keyN p.a) gs) : WriteC R own gt c ls p gs := by unfold WriteC; rw [if_neg (by omega), if_neg (by omega), if_neg (by omega), if_neg (by omega)]; exact h
theorem stepX.imp {Z : Nat → Prop} {tb r N sp : Nat} {ls : PId} {R R' : (Nat → List MOp) → RoomS → Prop} {w : World} {e : Ending} {w' : World} (h : stepX Z tb r N sp ls R w e w') (k : ∀ M s, R M s → R' M s) : stepX Z tb r N sp ls R' w e w' := by
  obtain ⟨h1, ⟨M, s, h2, h3⟩, h4⟩ := h
  exact ⟨h1, ⟨M, s, k M s h2, h3⟩, h4⟩
theorem wroteR.imp {c : Nat} {C C' : List QChg → Prop} (k : ∀ gs, C gs → C' gs) {M : Nat → List MOp} {s : RoomS} (M' : Nat → List MOp) (s' : RoomS) (h : wroteR c C M s M' s') : wroteR c C' M s M' s' := by
  obtain ⟨gs, h1, h2⟩ := h
  exact ⟨gs, k gs h1, h2⟩

set_option maxRecDepth 1000000 in
set_option maxHeartbeats 8000000 in
theorem write_x {Z : Nat → Prop} {tb : Nat} {w : World} {r N sp : Nat} {ls : PId} {M : Nat → List MOp} {s : RoomS} (h : QInv Z tb w r N sp ls M s) (h2 : 2 ≤ N) (p : Stp) (hp : p.ok) :
    Calls Tryz.prog 40 #[.pointer (some ⟨tb, 0, none⟩), .agg #[.int .i64 p.k, .int .i64 p.c, .int .i64 p.d, .int .i64 p.a, .int .i64 p.n]] w fun e w' => stepX Z tb r N sp ls (wroteR (pickN p.c N) (WriteC (ROf (s.ops (pickN p.c N))) (s.has (pickN p.c N) (pickN p.c N)) (s.gt (pickN p.c N)) (pickN p.c N) ls p) M s) w e w' := by
  have h4 := h.i.hN
  have HB := hid ((Below.refl w.heap.size w).alloc (Nat.le_refl _) (.cells #[.int .i64 p.k, .int .i64 p.c, .int .i64 p.d, .int .i64 p.a, .int .i64 p.n] 32))
  have HX0 := hid (blk_new w (.cells #[.int .i64 p.k, .int .i64 p.c, .int .i64 p.d, .int .i64 p.a, .int .i64 p.n] 32))
  have HT0 := hid (h.i.tab.keep HB.out)
  have HP1 := hid (fun W => pick_g p.c hp.2.1 N (by omega) (by omega) W)
  have HP2 := hid (fun W (n : Nat) (hn : n ≤ 300) => (show Calls Tryz.prog 20 #[.int .i64 p.a, .int .i64 ((n : Int) + 1)] W _ from pick_g p.a hp.2.2.2.1 (n + 1) (by omega) (by omega) W))
  have HP3 := hid (fun W => (show Calls Tryz.prog 20 #[.int .i64 p.k, .int .i64 8] W _ from pick_g p.k hp.1 8 (by omega) (by omega) W))
  have hcl := pickN_lt p.c (show 0 < N by omega)
  have HEL := hid (fun W (hb : Below w.heap.size w W) => (h.keep hb).elementsX hcl)
  have HKY := hid (fun W => key_g p.a hp.2.2.2.1 W)
  have HH := hid h
  have HIN := hid (fun W (hb : Below w.heap.size w W) (i : Int) => (h.keep hb).insertX hcl i p.n hp.2.2.2.2)
  have HCA := hid (fun W (hb : Below w.heap.size w W) (i : Int) => (h.keep hb).cutAtX hcl i)
  have HSA := hid (fun W (hb : Below w.heap.size w W) (i : Int) => (h.keep hb).setAtX hcl i p.n hp.2.2.2.2)
  have HPU := hid (fun W (hb : Below w.heap.size w W) => (h.keep hb).putX hcl p.n hp.2.2.2.2 (keyN p.a) (by rw [keyN_size]; omega))
  have HCU := hid (fun W (hb : Below w.heap.size w W) => (h.keep hb).cutX hcl (keyN p.a) (by rw [keyN_size]; omega))
  have hkl := pickN_lt p.k (show 0 < 8 by omega)
  clear h hp
  go_enter Tryz.func40, Tryz.ntmps40
  go_wp2_with fail
  go_region_held3 (fun W => W.cell? ⟨tb, 0, none⟩ = some (.int .i64 N) ∧ W.cell? ⟨w.heap.size, 1, none⟩ = some (.int .i64 p.c)) (first | exact ⟨(HT1.out.cells).1, (stpCells HX1.out).2.1⟩ | exact ⟨(HT0.out.cells).1, (stpCells HX0.out).2.1⟩)
    (first
      | (go_at_call 20; refine (HP1.out _).mono ?_; rintro e w1 ⟨rfl, hb1⟩; have hb1' := Hid.out (below_drew_left hb1); have HT1 := hid (HT0.out.keep hb1'); have HX1 := hid (blk_keep HX0.out hb1'); have HB1 := hid (HB.out.trans (hb1'.mono HB.out.size)); clear hb1 hb1'))
  all_goals (
    go_wp2_with fail
    go_region_held3 (fun W => W.cell? ⟨tb, 1, none⟩ = some (.pointer (some ⟨r, 0, none⟩)) ∧ W.cell? ⟨tb, 2, none⟩ = some (.int .i64 ls.1) ∧ W.cell? ⟨tb, 3, none⟩ = some (.int .i64 ls.2)) (first | exact (HT2.out.cells).2 | exact (HT1.out.cells).2)
      (first
        | (go_at_call 29; refine (HEL.out _ HB1.out.drew).mono ?_; rintro e w2 ⟨hb2, ua, un, uc, er, hun, rfl, hux⟩; have HUX := hid hux; clear hux; have hb2' := Hid.out (below_drew_left hb2); have HT2 := hid (HT1.out.keep hb2'); have HX2 := hid (blk_keep HX1.out hb2'); have HB2 := hid (HB1.out.trans (hb2'.mono HB1.out.size)); clear hb2 hb2'))
    all_goals (
      obtain ⟨x0, _, _, x3, _⟩ := stpCells HX2.out
      have hxl := blk_lt HX2.out
      have hwr : IntKind.i64.wrap ((un : Int) + 1) = (un : Int) + 1 := Go.IntWalk.i64_in _ (by omega)
      go_wp2_with fail
      refine (HP2.out _ un hun).mono ?_
      rintro e w3 ⟨rfl, hb3⟩
      have HT3 := hid (HT2.out.keep hb3)
      have HX3 := hid (blk_keep HX2.out hb3)
      have HB3 := hid (HB2.out.trans (hb3.mono HB2.out.size)); clear hb3 x3 hwr
      replace x0 := (stpCells HX3.out).1
      replace hxl := blk_lt HX3.out
      go_wp2_with fail
      refine (HP3.out _).mono ?_
      rintro e w4 ⟨rfl, hb4⟩
      have HT4 := hid (HT3.out.keep hb4)
      have HX4 := hid (blk_keep HX3.out hb4)
      have HB4 := hid (HB3.out.trans (hb4.mono HB3.out.size)); clear hb4 x0 hxl
      obtain ⟨at', hat⟩ : ∃ at', at' = pickN p.a (un + 1) := ⟨_, rfl⟩
      rw [← hat]
      have HAT := hid (show at' = pickN p.a (lenE (ROf (s.ops (pickN p.c N))) ls + 1) from by rw [hat, HUX.out])
      clear hat
      have hk : pickN p.k 8 = 0 ∨ pickN p.k 8 = 1 ∨ pickN p.k 8 = 2 ∨ pickN p.k 8 = 3 ∨ pickN p.k 8 = 4 ∨ pickN p.k 8 = 5 ∨ pickN p.k 8 = 6 ∨ pickN p.k 8 = 7 := by omega
      rcases hk with hk | hk | hk | hk | hk | hk | hk | hk
      all_goals have HK := hid hk
      all_goals (rw [hk]; clear hk hkl; go_wp2_with fail)
      all_goals obtain ⟨_, t1, t2, t3⟩ := HT4.out.cells
      all_goals obtain ⟨_, _, _, x3, x4⟩ := stpCells HX4.out
      all_goals have hxl := blk_lt HX4.out
      all_goals have htl := blk_lt HT4.out
      all_goals go_region_with (first
        | (go_at_call 32; refine (HIN.out _ HB4.out.drew at').mono ?_; rintro e w5 hs5; have HS5 := hid (stepX.before HH.out HB4.out.drew hs5); clear hs5; obtain ⟨⟨ev, rfl⟩, _⟩ := HS5.out)
        | (go_at_call 34; refine (HCA.out _ HB4.out.drew at').mono ?_; rintro e w5 hs5; have HS5 := hid (stepX.before HH.out HB4.out.drew hs5); clear hs5; obtain ⟨⟨ev, rfl⟩, _⟩ := HS5.out)
        | (go_at_call 33; refine (HSA.out _ HB4.out.drew at').mono ?_; rintro e w5 hs5; have HS5 := hid (stepX.before HH.out HB4.out.drew hs5); clear hs5; obtain ⟨⟨ev, rfl⟩, _⟩ := HS5.out)
        | (go_at_call 77; refine (HKY.out _).mono ?_; rintro e w5 ⟨rfl, hb5⟩; have hb5' := Hid.out (below_drew_left hb5); have HT5 := hid (HT4.out.keep hb5'); have HX5 := hid (blk_keep HX4.out hb5'); have HB5 := hid (HB4.out.trans (hb5'.mono HB4.out.size)); clear hb5 hb5'; replace t1 := (HT5.out.cells).2.1; replace x3 := (stpCells HX5.out).2.2.2.1; replace x4 := (stpCells HX5.out).2.2.2.2; replace hxl := blk_lt HX5.out; replace htl := blk_lt HT5.out)
        | (go_at_call 23; refine (HPU.out w5 HB5.out).mono ?_; rintro e w6 hs6; have HS5 := hid (stepX.before HH.out HB5.out hs6); clear hs6; obtain ⟨⟨ev, rfl⟩, _⟩ := HS5.out)
        | (go_at_call 78; refine (HCU.out w5 HB5.out).mono ?_; rintro e w6 hs6; have HS5 := hid (stepX.before HH.out HB5.out hs6); clear hs6; obtain ⟨⟨ev, rfl⟩, _⟩ := HS5.out))
      all_goals go_wp2
      all_goals go_end0
      all_goals refine (show _ ∧ _ from ⟨⟨_, rfl⟩, (HS5.out.imp ?_).2⟩)
      all_goals rintro M' s' ⟨gs, hg, hx⟩
      all_goals have hat' := HAT.out
      all_goals (try subst hat')
      all_goals first
        | exact ⟨gs, WriteC_ins (by rw [HK.out]; decide) hg, hx⟩
        | exact ⟨gs, WriteC_cutAt HK.out hg, hx⟩
        | exact ⟨gs, WriteC_setAt HK.out hg, hx⟩
        | exact ⟨gs, WriteC_put HK.out hg, hx⟩
        | exact ⟨gs, WriteC_cut HK.out hg, hx⟩))

end Go.Proofs.YtnkpogjiiohapaaGreatDoor
