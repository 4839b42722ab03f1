/- Our own text (GRoomF, GRoomG, GFindA, GFindB). -/
import Derived.Test.YtnkpogjiiohapaaGreatDoorA29
import Derived.Test.YtnkpogjiiohapaaGreatDoorA30
set_option linter.unusedSimpArgs false
set_option linter.unusedVariables false

/-! GRoomF: The program's room in general: Deliver. -/
namespace Go.Proofs.YtnkpogjiiohapaaGreatDoor
open Go.RowKit
attribute [local go_sem ↓] Go.wp_at_zero Go.wp_at_succ

theorem RoomTo.after {r N sp : Nat} {F I : Nat → Prop} {w W w' : World} {s : RoomS} {F1 I1 : Nat → Prop} (hK : Keeps F F1 w W) (hI : IGo I I1 w W) (h : RoomTo r N sp F1 I1 W w' s) : RoomTo r N sp F I w w' s := by
  obtain ⟨F', I', x', hR, hK', hI'⟩ := h
  exact ⟨F', I', x', hR, hK.trans hK', hI.trans hI' hK.size⟩

/-- What Deliver leaves: 12 where nothing waits. -/
def DelD (r N sp : Nat) (F I : Nat → Prop) (s : RoomS) (c d : Nat) (w : World) (e : Ending) (w' : World) : Prop := e = .returned (.int .i64 (if s.ms c d = [] then 12 else 0)) ∧ ∃ s', DeliverTo N s c d s' ∧ RoomTo r N sp F I w w' s'
set_option maxRecDepth 1000000 in
set_option maxHeartbeats 2000000 in
/-- DELIVER. -/
theorem deliver_any {w : World} {r : Nat} {F I : Nat → Prop} {N sp : Nat} {s : RoomS} {x : RoomX} {M : Nat → List MOp} (h : RoomM w r F I N sp s x) (ok : RoomOk N M s) {c d : Nat} (hc : c < N) (hd : d < N) (hcd : c ≠ d) :
    Calls Tryz.prog 39 #[.pointer (some ⟨r, 0, none⟩), .int .i64 c, .int .i64 d] w fun e w' => DelD r N sp F I s c d w e w' := by
  have HOU := hid (onUsedLink_any h hc hd hcd)
  have hN := h.hN
  cases hm : s.ms c d with
  | nil =>
    rw [if_pos hm] at HOU
    have HM := hid hm
    have HH := hid h; clear h hm ok
    go_enter Tryz.func39, Tryz.ntmps39
    go_wp2_with fail
    refine HOU.out.mono ?_
    rintro e w1 ⟨rfl, rfl⟩
    go_wp2
    go_ret
    exact (show _ ∧ _ from ⟨by rw [if_pos HM.out]; rfl, s, (by unfold DeliverTo; rw [HM.out]), HH.out.same (Below.refl _ _)⟩)
  | cons m ms =>
    have HM := hid hm
    rw [if_neg (by rw [hm]; simp)] at HOU
    obtain ⟨t, v, l, hv, h1, h2, _, _⟩ := h.first hc hd hcd hm
    have hl := h.link c d hc hd hcd
    rw [hv] at hl
    have HR := hid (receive_q hl)
    have hT := setChan_turned w (x.gc c d) 12 l.toArray false (x.sn c d) (x.rn c d + 1) false
    have hR1 := h.linkTo hc hd hcd hl.taken hT h2
    have hK1 : Keeps F F w _ := keeps_link (F := F) (Below.refl _ _) hT (h.fl c d hc hd hcd).2
    have hi : ∀ k, I k → (w.setChan (x.gc c d) 12 l.toArray false (x.sn c d) (x.rn c d + 1) false).heap[k]? = w.heap[k]? := fun k hk => hK1.other k (h.iI k hk) (h.nI k hk)
    have hmsg := h1.keepI hi hT.size (fun _ y => y)
    obtain ⟨w1, hw1⟩ : ∃ w1, w.setChan (x.gc c d) 12 l.toArray false (x.sn c d) (x.rn c d + 1) false = w1 := ⟨_, rfl⟩
    rw [hw1] at HR hR1 hK1 hi hmsg
    clear hT hw1
    have hmok := ok.msgs c d hc hd hcd m (by rw [hm]; exact List.mem_cons_self)
    have ok1 : RoomOk N M (msTo s c d ms) := ok.ms fun m' h' => ok.msgs c d hc hd hcd m' (by rw [hm]; exact List.mem_cons_of_mem _ h')
    have hHas : ∀ i, i < N → 0 ≤ s.has d i ∧ s.has d i ≤ 60 := fun i hi => by
      have e1 := (ok.copy d hd).hasL i hi
      have e2 := ok.made.len i hi
      omega
    have HKI := hid (And.intro hK1 hi)
    cases m with
    | inl q =>
      obtain ⟨g, cg, e, hkn, hgI⟩ := hmsg
      obtain ⟨hql, hqb⟩ := hmok
      rw [hql] at e hkn
      simp only [Value.iface.injEq] at e
      obtain ⟨rfl, rfl⟩ := e
      have HA := hid (arriveQ_any hR1 hc hd hcd hkn hgI (fun i hi => ⟨(hqb i hi).1, (hHas i hi).2⟩) (fun i hi => by
        have e2 := ok.made.len i hi
        have := (hqb i hi).2
        omega) (fun y hy => (ok.copy d hd).copy ok.made hy) ((ok.copy d hd).ndPl ok.made))
      clear h ok hm h1 h2 hl hv hkn hR1 hK1 hi hqb ok1 hHas hgI
      go_enter Tryz.func39, Tryz.ntmps39
      go_wp2_with fail
      refine HOU.out.mono ?_
      rintro e w2 ⟨rfl, rfl⟩
      go_wp2_with fail
      refine HR.out.mono ?_
      rintro e w3 ⟨rfl, rfl⟩
      go_wp2_with fail
      refine HA.out.mono ?_
      rintro e w4 ⟨⟨v4, rfl⟩, ls, hp, ha, hto⟩
      have HX := hid (And.intro hp (And.intro ha hto)); clear hp ha hto
      go_wp2
      go_ret
      refine (show _ ∧ _ from ⟨by rw [HM.out]; rfl, _, ?_, HX.out.2.2.after HKI.out.1 ⟨fun k hk => ⟨hk, HKI.out.2 k hk⟩, fun _ hk => .inl hk⟩⟩)
      unfold DeliverTo
      rw [HM.out]
      exact ⟨ls, HX.out.1, HX.out.2.1, rfl⟩
    | inr xs =>
      obtain ⟨sv, e, hop⟩ := hmsg
      simp only [Value.iface.injEq] at e
      obtain ⟨rfl, rfl⟩ := e
      obtain ⟨hE, hn⟩ := ok1.wait hd hmok
      obtain ⟨hfin, hlen⟩ := ok1.fin hd hmok
      have HA := hid (arriveB_any hR1 hc hd hcd xs hop (fun y hy => (ok.made.nth (hmok y hy)).2.2) hn (fun p hp => by
        rw [(hE p hp).2]
        exact (ok.made.nth (hE p hp).1).2.1) (fun i hi => by have := hHas i hi; exact ⟨this.1, by show s.has d i ≤ 1000; omega⟩) hfin (Nat.le_trans hlen (by omega)) (fun y hy => by
        obtain ⟨p, hp, rfl⟩ := ready_mem hy
        exact (ok.made.nth (hE p hp).1).2.2))
      clear h ok hm h1 h2 hl hv hR1 hK1 hi ok1 hHas hE hn hfin hlen hop hmok
      go_enter Tryz.func39, Tryz.ntmps39
      go_wp2_with fail
      refine HOU.out.mono ?_
      rintro e w2 ⟨rfl, rfl⟩
      go_wp2_with fail
      refine HR.out.mono ?_
      rintro e w3 ⟨rfl, rfl⟩
      go_wp2_with fail
      refine HA.out.mono ?_
      rintro e w4 ⟨⟨v4, rfl⟩, early', hC, hto⟩
      have HX := hid (And.intro hC hto); clear hC hto
      go_wp2
      go_ret
      refine (show _ ∧ _ from ⟨by rw [HM.out]; rfl, _, ?_, HX.out.2.after HKI.out.1 ⟨fun k hk => ⟨hk, HKI.out.2 k hk⟩, fun _ hk => .inl hk⟩⟩)
      unfold DeliverTo
      rw [HM.out]
      exact ⟨early', HX.out.1, rfl⟩

end Go.Proofs.YtnkpogjiiohapaaGreatDoor

/-! GRoomG: The program's room in general: what its copies show. -/
namespace Go.Proofs.YtnkpogjiiohapaaGreatDoor
open Go.RowKit

/-- THE ROOM, IN ORDER, ITS DOCUMENTS PLAIN. -/
structure RoomD (w : World) (r : Nat) (F I : Nat → Prop) (N sp : Nat) (M : Nat → List MOp) (s : RoomS) (x : RoomX) : Prop where
  m : RoomM w r F I N sp s x
  ok : RoomOk N M s
  md : MadeDoc N M

theorem nodup_len {α : Type} [DecidableEq α] : ∀ {l m : List α}, l.Nodup → (∀ a ∈ l, a ∈ m) → l.length ≤ m.length
  | [], _, _, _ => Nat.zero_le _
  | a :: l, m, h, hs => by
    obtain ⟨h1, h2⟩ := List.nodup_cons.1 h
    have := nodup_len (m := m.erase a) h2 fun b hb => by
      have hne : b ≠ a := fun e => by rw [e] at hb; exact h1 hb
      exact (List.mem_erase_of_ne hne).2 (hs b (List.mem_cons_of_mem _ hb))
    rw [List.length_erase_of_mem (hs a List.mem_cons_self)] at this
    have hm := List.length_pos_of_mem (hs a List.mem_cons_self)
    simp only [List.length_cons]
    omega
/-- The values of a place are few, each with a giver of its own. -/
theorem vals_ok {R : List PObj} {D : QDoc} {ids : List PId} (ha : Agree R D) (hn : QNd D) (hi : InR R ids) (hl : ids.length ≤ 10000) (ob : PId) (key : ByteArray) (el : PId) : (atPl D.1 D.2 ob key el).vs.length ≤ 10000 ∧ ((atPl D.1 D.2 ob key el).vs.map (·.1)).Nodup := by
  have key0 : ∀ (vs : List (PId × PVal)) (hs : List PHeld), vs.Perm (hs.map hpair) → (vs.map (·.1)).Nodup → (∀ y ∈ hs, y.giver ∈ ids) → vs.length ≤ 10000 := fun vs hs hp hnd hg => by
    have := nodup_len (m := ids) hnd fun a haa => by
      obtain ⟨p, hp1, rfl⟩ := List.mem_map.1 haa
      obtain ⟨y, hy, rfl⟩ := List.mem_map.1 (hp.mem_iff.1 hp1)
      exact hg y hy
    rw [List.length_map] at this
    omega
  unfold atPl
  split
  · rename_i hpl
    split
    · split
      · rename_i e he
        have hnd := hn.ev _ (look_mem he)
        refine ⟨?_, hnd⟩
        obtain ⟨o, ho, hol, hm⟩ := ha.el el e he
        obtain ⟨sl, hs, hsid⟩ := List.mem_map.1 hm
        obtain ⟨_, _, hag⟩ := ha.o1 _ o ho
        obtain ⟨_, _, e', he', _, hp⟩ := hag.elems hol sl hs
        rw [hsid, he] at he'
        cases he'
        exact key0 _ _ hp hnd (hi.giver _ o ho sl hs)
      · exact ⟨Nat.zero_le _, List.nodup_nil⟩
    · rename_i hkey
      split
      · rename_i ob' hob
        split
        · rename_i ck hck
          have hnd := hn.kv _ (look_mem hob) _ (look_mem hck)
          refine ⟨?_, hnd⟩
          cases ho : objOf R ob with
          | none => rw [ha.o0 ob ho] at hob; cases hob
          | some o =>
            obtain ⟨ob2, hob2, hag⟩ := ha.o1 ob o ho
            rw [hob] at hob2
            cases hob2
            have hol : o.list = false := by
              unfold hasPl at hpl
              rw [if_neg hkey, hob] at hpl
              simp only [Option.isSome_some, Bool.true_and, qlist, hob, Bool.not_eq_true'] at hpl
              rw [← hag.list]
              exact hpl
            have hp := hag.kval hol key
            rw [hck] at hp
            refine key0 _ _ hp hnd fun y hy => ?_
            unfold heldsAt at hy
            split at hy
            · rename_i sl hsl
              exact hi.giver ob o ho sl (List.mem_of_find?_eq_some hsl) y hy
            · cases hy
        · exact ⟨Nat.zero_le _, List.nodup_nil⟩
      · exact ⟨Nat.zero_le _, List.nodup_nil⟩
  · exact ⟨Nat.zero_le _, List.nodup_nil⟩

section
theorem RoomD.doc {w : World} {r : Nat} {F I : Nat → Prop} {N sp : Nat} {M : Nat → List MOp} {s : RoomS} {x : RoomX} (h : RoomD w r F I N sp M s x) {c : Nat} (hc : c < N) : Agree (ROf (s.ops c)) (x.q c).D ∧ QNd (x.q c).D ∧ InR (ROf (s.ops c)) (((s.ops c).map fun o => o.op.id).reverse) := by
  have hd := (h.m.reps c hc).hist.did
  rw [← List.length_map (f := fun o : MOp => o.op), List.take_length] at hd
  exact doc_agree (h.m.ag c hc).1 (h.m.ag c hc).2.1 (opsOk h.ok.made h.md (h.ok.copy c hc) (h.ok.asc c hc)) hd
theorem RoomD.ag {w : World} {r : Nat} {F I : Nat → Prop} {N sp : Nat} {M : Nat → List MOp} {s : RoomS} {x : RoomX} (h : RoomD w r F I N sp M s x) {c : Nat} (hc : c < N) : Agree (ROf (s.ops c)) (x.q c).D := (h.doc hc).1
theorem RoomD.len {w : World} {r : Nat} {F I : Nat → Prop} {N sp : Nat} {M : Nat → List MOp} {s : RoomS} {x : RoomX} (h : RoomD w r F I N sp M s x) {c : Nat} (hc : c < N) : (s.ops c).length ≤ 240 := by
  have h1 := (h.ok.copy c hc).len h.ok.made
  have h2 := h.m.hN
  omega
theorem RoomD.wri {w : World} {r : Nat} {F I : Nat → Prop} {N sp : Nat} {M : Nat → List MOp} {s : RoomS} {x : RoomX} (h : RoomD w r F I N sp M s x) {c : Nat} (hc : c < N) : Wri c (s.gt c) (s.has c) (s.ops c) (x.q c) := by
  have hlen := h.len hc
  have hN := h.m.hN
  have htot := tot_le h.ok.made.len N (Nat.le_refl _)
  have hg := (h.ok.gtU c hc).2 (tot M N) h.ok.cnt (Int.natCast_nonneg _)
  have h60 := h.ok.made.len c hc
  have hown := h.ok.own c hc
  refine ⟨⟨(h.ok.gtU c hc).1, by omega⟩, ⟨by omega, by omega⟩, (h.ok.copy c hc).gtL, by omega, ?_⟩
  obtain ⟨a, b, d⟩ := h.doc hc
  exact vals_ok a b d (by rw [List.length_reverse, List.length_map]; omega)
theorem RoomD.slots {w : World} {r : Nat} {F I : Nat → Prop} {N sp : Nat} {M : Nat → List MOp} {s : RoomS} {x : RoomX} (h : RoomD w r F I N sp M s x) {c : Nat} (hc : c < N) {y : PId} {o : PObj} (ho : objOf (ROf (s.ops c)) y = some o) (hl : o.list = true) : o.ss.length ≤ 300 := by
  obtain ⟨a, _, d⟩ := h.doc hc
  obtain ⟨ob, hob, hag⟩ := a.o1 y o ho
  have hlen := h.len hc
  have := nodup_len (m := ((s.ops c).map fun o => o.op.id).reverse) (hag.eone hl) fun z hz => by
    obtain ⟨sl, hs, rfl⟩ := List.mem_map.1 hz
    exact (d.slot y o ho sl hs).resolve_left (hag.elems hl sl hs).2.1
  rw [List.length_map, List.length_reverse, List.length_map] at this
  omega
theorem RoomD.keep {w : World} {r : Nat} {F I : Nat → Prop} {N sp : Nat} {M : Nat → List MOp} {s : RoomS} {x : RoomX} (h : RoomD w r F I N sp M s x) {w' : World} (hb : Below w.heap.size w w') : RoomD w' r F I N sp M s x := ⟨h.m.keep hb, h.ok, h.md⟩
end

end Go.Proofs.YtnkpogjiiohapaaGreatDoor

/-! GFindA: The program's room in general: keys, places; which object. -/
namespace Go.Proofs.YtnkpogjiiohapaaGreatDoor
open Go.RowKit
attribute [local go_sem ↓] Go.wp_at_zero Go.wp_at_succ

set_option maxRecDepth 1000000 in
set_option maxHeartbeats 1000000 in
theorem isKey_q (s : ByteArray) (w : World) (hs : s.size ≤ maxLen) :
    Calls Tryz.prog 83 #[.string s] w fun e w' => e = .returned (.bool (keyOk s)) ∧ w' = w := by
  unfold maxLen at hs
  by_cases h0 : 0 < s.size
  · by_cases h4 : s.size ≤ 4
    · go_enter Tryz.func83, Tryz.ntmps83
      go_wp2
      go_loop [14] (fun i => ∃ k : Nat, k ≤ s.size ∧ i = .int .i64 k ∧ Hid (letters (s.data.toList.take k) = true)) (fun i => s.size - (intOf i).toNat)
      case atStart => exact ⟨0, Nat.zero_le _, rfl, rfl⟩
      case round =>
        obtain ⟨k, hk, rfl, hn⟩ := hrel
        by_cases hlt : k < s.size
        · by_cases h1 : (97 : Int) ≤ s[k].toNat
          · by_cases h2 : (s[k].toNat : Int) ≤ 122
            · have HX := hid (letters_yes hlt hn.out h1 h2)
              go_wp2
              go_round
              case rel => exact ⟨k + 1, by omega, by go_num, HX⟩
              case measure => simp [intOf]; omega
            · have HX : Hid _ := letters_no hlt (fun h => h2 h.2)
              go_wp2
              go_ret
              exact ⟨ret_bool HX.out.symm, rfl⟩
          · have HX : Hid _ := letters_no hlt (fun h => h1 h.1)
            go_wp2
            go_ret
            exact ⟨ret_bool HX.out.symm, rfl⟩
        · have e : letters s.data.toList = true := by
            have := hn.out; rwa [List.take_of_length_le (by simp; omega)] at this
          have HX := hid (show keyOk s = true by unfold keyOk; rw [e]; simp [h0, h4])
          clear e
          go_wp2
          go_ret
          exact ⟨ret_bool HX.out.symm, rfl⟩
    · have HX := hid (show keyOk s = false by unfold keyOk; simp [h4])
      go_enter Tryz.func83, Tryz.ntmps83
      go_wp2
      go_ret
      exact ⟨ret_bool HX.out.symm, rfl⟩
  · have HX := hid (show keyOk s = false by unfold keyOk; simp [h0])
    go_enter Tryz.func83, Tryz.ntmps83
    go_wp2
    go_ret
    exact ⟨ret_bool HX.out.symm, rfl⟩

set_option maxRecDepth 1000000 in
set_option maxHeartbeats 1000000 in
theorem keyOf_q (x1 x2 : Int) (key : ByteArray) (w : World) : Calls Tryz.prog 84 #[.agg #[.int .i64 x1, .int .i64 x2], .string key] w fun e w' => e = .returned (.agg #[.int .i64 x1, .int .i64 x2, .string key, .int .i64 0, .int .i64 0]) ∧ Below w.heap.size w w' := by
  have HB := hid (((Below.refl w.heap.size w).alloc (Nat.le_refl _) (.cells #[.int .i64 x1, .int .i64 x2] 36)).alloc (by simp) (.cells #[.int .i64 x1, .int .i64 x2, .string key, .int .i64 0, .int .i64 0] 97))
  go_enter Tryz.func84, Tryz.ntmps84
  go_wp2
  refine bodyPost_ret (v := .agg #[.int .i64 x1, .int .i64 x2, .string key, .int .i64 0, .int .i64 0]) (by simp [results, Tryz.results84, go_sem]) rfl ?_
  exact ⟨rfl, HB.out⟩

set_option maxRecDepth 1000000 in
set_option maxHeartbeats 1000000 in
theorem elementOf_q (x1 x2 y1 y2 : Int) (w : World) : Calls Tryz.prog 63 #[.agg #[.int .i64 x1, .int .i64 x2], .agg #[.int .i64 y1, .int .i64 y2]] w fun e w' => e = .returned (.agg #[.int .i64 x1, .int .i64 x2, .string ⟨#[]⟩, .int .i64 y1, .int .i64 y2]) ∧ Below w.heap.size w w' := by
  have HB := hid ((((Below.refl w.heap.size w).alloc (Nat.le_refl _) (.cells #[.int .i64 x1, .int .i64 x2] 36)).alloc (by simp) (.cells #[.int .i64 y1, .int .i64 y2] 36)).alloc (by simp; omega) (.cells #[.int .i64 x1, .int .i64 x2, .string ⟨#[]⟩, .int .i64 y1, .int .i64 y2] 97))
  go_enter Tryz.func63, Tryz.ntmps63
  go_wp2
  refine bodyPost_ret (v := .agg #[.int .i64 x1, .int .i64 x2, .string ⟨#[]⟩, .int .i64 y1, .int .i64 y2]) (by simp [results, Tryz.results63, go_sem]) rfl ?_
  exact ⟨rfl, HB.out⟩

theorem Agree.has {R : List PObj} {D : QDoc} (h : Agree R D) (x : PId) : (lookI x D.1).isSome = (objOf R x).isSome := by
  cases ho : objOf R x with
  | none => rw [h.o0 x ho]; rfl
  | some o => obtain ⟨ob, hob, _⟩ := h.o1 x o ho; rw [hob]; rfl
theorem Agree.lst {R : List PObj} {D : QDoc} (h : Agree R D) {x : PId} {o : PObj} (ho : objOf R x = some o) : qlist x D.1 = o.list := by
  obtain ⟨ob, hob, hag⟩ := h.o1 x o ho
  unfold qlist; rw [hob]; exact hag.list
/-- What inObject answers. -/
def InObj (R : List PObj) (x : PId) (lst : Bool) (rb : Nat) (e : Ending) : Prop :=
  (∃ m, (m = 3 ∨ m = 4) ∧ objP R x lst = .error m ∧ e = .returned (.tuple #[.pointer none, .int .i64 m])) ∨ ∃ o, objOf R x = some o ∧ o.list = lst ∧ e = .returned (.tuple #[.pointer (some ⟨rb, 0, none⟩), .int .i64 0])

section
set_option maxRecDepth 1000000 in
set_option maxHeartbeats 4000000 in
theorem inObject_any {w : World} {r : Nat} {F I : Nat → Prop} {N sp : Nat} {M : Nat → List MOp} {s : RoomS} {x : RoomX} (h : RoomD w r F I N sp M s x) (c : Nat) (hc : c < N) (x1 x2 : Int) (lst : Bool) :
    Calls Tryz.prog 56 #[.pointer (some ⟨r, 0, none⟩), .int .i64 c, .agg #[.int .i64 x1, .int .i64 x2], .bool lst] w fun e w' => Below w.heap.size w w' ∧ InObj (ROf (s.ops c)) (x1, x2) lst (x.rbs c) e := by
  have hrep := h.m.reps c hc
  have hagr := h.ag hc
  have HB := hid ((Below.refl w.heap.size w).alloc (Nat.le_refl _) (.cells #[.int .i64 x1, .int .i64 x2] 36))
  have HX0 := hid (blk_new w (.cells #[.int .i64 x1, .int .i64 x2] 36))
  have HC := hid (inCopy_any (h.m.keep HB.out) c hc)
  have HD := hid (fun W (hb : Below w.heap.size w W) => document_any (hrep.keep hb))
  have HH := hid (show ∀ W, Below w.heap.size w W → Calls Tryz.prog 89 #[.pointer (some ⟨(x.q c).d, 0, none⟩), .agg #[.int .i64 x1, .int .i64 x2]] W fun e w' => e = .returned (.bool (objOf (ROf (s.ops c)) (x1, x2)).isSome) ∧ Below W.heap.size W w' from fun W hb => by
    rw [← hagr.has]; exact has_q (hrep.hist.q.keep hb) x1 x2)
  have HL := hid (show ∀ o, objOf (ROf (s.ops c)) (x1, x2) = some o → ∀ W, Below w.heap.size w W → Calls Tryz.prog 90 #[.pointer (some ⟨(x.q c).d, 0, none⟩), .agg #[.int .i64 x1, .int .i64 x2]] W fun e w' => e = .returned (.bool o.list) ∧ Below W.heap.size W w' from fun o ho W hb => by
    rw [← hagr.lst ho]; exact isList_q (hrep.hist.q.keep hb) x1 x2)
  have hob := objP_of (ROf (s.ops c)) (x1, x2) lst
  clear hrep h
  generalize ROf (s.ops c) = R at *
  unfold InObj
  rcases hob with ⟨h1, h2⟩ | ⟨o, k, h1, h2, h3⟩
  · rw [h1] at HH
    have HE := hid (And.intro h1 h2); clear h1 h2 HL
    go_enter Tryz.func56, Tryz.ntmps56
    go_wp2_with fail
    refine HC.out.mono ?_
    rintro e w0 ⟨rfl, hw0⟩
    subst hw0
    go_wp2_with fail
    go_region_held3 (fun W => W.cell? ⟨w.heap.size, 0, none⟩ = some (.int .i64 x1) ∧ W.cell? ⟨w.heap.size, 1, none⟩ = some (.int .i64 x2)) (first | exact blk2 HX0.out | exact blk2 HX2.out | exact blk2 HX1.out)
      (first
        | (go_at_call 48; refine (HD.out _ HB.out.drew).mono ?_; rintro e w1 ⟨rfl, hb1⟩; have HX1 := hid (blk_keep HX0.out (Hid.out (below_drew_left hb1))); have HB1 := hid (HB.out.drew.trans (hb1.mono HB.out.size)); clear hb1)
        | (go_at_call 89; refine (HH.out w1 HB1.out).mono ?_; rintro e w2 ⟨rfl, hb2⟩; have HX2 := hid (blk_keep HX1.out hb2); have HB2 := hid (HB1.out.trans (hb2.mono HB1.out.size)); clear hb2))
    all_goals go_wp2
    all_goals go_ret2
    all_goals exact ⟨HB2.out, .inl ⟨3, .inl rfl, HE.out.2, rfl⟩⟩
  · rw [h1] at HH
    have HL2 := hid (HL.out o h1); clear HL
    have HE := hid (And.intro h1 h3); clear h1 h2 h3
    obtain ⟨ol, hol⟩ : ∃ ol, o.list = ol := ⟨_, rfl⟩
    rw [hol] at HL2
    have HOL := hid hol; clear hol
    have hend : (ol = lst ∧ objOf R (x1, x2) = some o ∧ o.list = lst) ∨ (ol ≠ lst ∧ objP R (x1, x2) lst = .error 4) := by
      by_cases e : ol = lst
      · exact .inl ⟨e, HE.out.1, HOL.out.trans e⟩
      · refine .inr ⟨e, ?_⟩
        rw [HE.out.2, if_neg (by rw [HOL.out]; exact e)]
    have HEN := hid hend; clear hend HE HOL
    cases ol <;> cases lst
    all_goals go_enter Tryz.func56, Tryz.ntmps56
    all_goals go_wp2_with fail
    all_goals refine HC.out.mono ?_
    all_goals rintro e w0 ⟨rfl, hw0⟩
    all_goals subst hw0
    all_goals go_wp2_with fail
    all_goals (go_region_held3 (fun W => W.cell? ⟨w.heap.size, 0, none⟩ = some (.int .i64 x1) ∧ W.cell? ⟨w.heap.size, 1, none⟩ = some (.int .i64 x2)) (first | exact blk2 HX0.out | exact blk2 HX2.out | exact blk2 HX1.out)
      (first
        | (go_at_call 48; refine (HD.out _ HB.out.drew).mono ?_; rintro e w1 ⟨rfl, hb1⟩; have HX1 := hid (blk_keep HX0.out (Hid.out (below_drew_left hb1))); have HB1 := hid (HB.out.drew.trans (hb1.mono HB.out.size)); clear hb1)
        | (go_at_call 89; refine (HH.out w1 HB1.out).mono ?_; rintro e w2 ⟨rfl, hb2⟩; have HX2 := hid (blk_keep HX1.out hb2); have HB2 := hid (HB1.out.trans (hb2.mono HB1.out.size)); clear hb2)))
    all_goals go_wp2_with fail
    all_goals (go_region_held3 (fun W => W.cell? ⟨w.heap.size, 0, none⟩ = some (.int .i64 x1) ∧ W.cell? ⟨w.heap.size, 1, none⟩ = some (.int .i64 x2)) (first | exact blk2 HX2.out | exact blk2 HX4.out | exact blk2 HX3.out)
      (first
        | (go_at_call 48; refine (HD.out _ HB2.out.drew).mono ?_; rintro e w3 ⟨rfl, hb3⟩; have HX3 := hid (blk_keep HX2.out (Hid.out (below_drew_left hb3))); have HB3 := hid (HB2.out.drew.trans (hb3.mono HB2.out.size)); clear hb3)
        | (go_at_call 90; refine (HL2.out w3 HB3.out).mono ?_; rintro e w4 ⟨rfl, hb4⟩; have HX4 := hid (blk_keep HX3.out hb4); have HB4 := hid (HB3.out.trans (hb4.mono HB3.out.size)); clear hb4)))
    all_goals go_wp2
    all_goals go_ret2
    all_goals (
      refine ⟨HB4.out, ?_⟩
      rcases HEN.out with ⟨e, he⟩ | ⟨e, he⟩
      · first
          | exact .inr ⟨o, he.1, he.2, rfl⟩
          | (exact absurd e (by decide))
      · first
          | exact .inl ⟨4, .inr rfl, he, rfl⟩
          | (exact absurd rfl e))
end

end Go.Proofs.YtnkpogjiiohapaaGreatDoor

/-! GFindB: The program's room in general: which place of a map. -/
namespace Go.Proofs.YtnkpogjiiohapaaGreatDoor
open Go.RowKit
attribute [local go_sem ↓] Go.wp_at_zero Go.wp_at_succ

theorem keyed_err {R : List PObj} {x : PId} {key : ByteArray} {m : Int} (h : objP R x false = .error m) : keyedP R x key = .error m := by unfold keyedP; rw [h]
theorem keyed_of {R : List PObj} {x : PId} {key : ByteArray} {o : PObj} (ho : objOf R x = some o) (hl : o.list = false) : keyedP R x key = if keyOk key then .ok (heldsAt o key (0, 0)) else .error 5 := by
  unfold keyedP
  rcases objP_of R x false with ⟨h1, _⟩ | ⟨o', k, h1, h2, h3⟩
  · rw [ho] at h1; cases h1
  · rw [ho] at h1
    cases h1
    rw [h3, if_pos hl]
    simp only [h2]
theorem elements_err {R : List PObj} {x : PId} {m : Int} (h : objP R x true = .error m) : elementsP R x = .error m := by unfold elementsP; rw [h]
theorem elements_of {R : List PObj} {x : PId} {o : PObj} (ho : objOf R x = some o) (hl : o.list = true) : elementsP R x = .ok (pseen o) := by
  unfold elementsP
  rcases objP_of R x true with ⟨h1, _⟩ | ⟨o', k, h1, h2, h3⟩
  · rw [ho] at h1; cases h1
  · rw [ho] at h1
    cases h1
    rw [h3, if_pos hl]
    simp only [h2]

theorem below5 {B : Nat} {w W : World} (h : Below B w W) {g : Nat} (hg : B ≤ g) (a b c d e : Value) : Below B w (((((W.setCell ⟨g, 0, none⟩ a).setCell ⟨g, 1, none⟩ b).setCell ⟨g, 2, none⟩ c).setCell ⟨g, 3, none⟩ d).setCell ⟨g, 4, none⟩ e) :=
  ((((h.setCell hg a).setCell hg b).setCell hg c).setCell hg d).setCell hg e
def AtKey (R : List PObj) (x : PId) (key : ByteArray) (rb : Nat) (e : Ending) : Prop :=
  (∃ m, (m = 3 ∨ m = 4 ∨ m = 5) ∧ keyedP R x key = .error m ∧ e = .returned (.tuple #[.pointer none, .agg #[.int .i64 0, .int .i64 0, .string ⟨#[]⟩, .int .i64 0, .int .i64 0], .int .i64 m])) ∨
  ∃ o, objOf R x = some o ∧ o.list = false ∧ keyOk key = true ∧ keyedP R x key = .ok (heldsAt o key (0, 0)) ∧ e = .returned (.tuple #[.pointer (some ⟨rb, 0, none⟩), .agg #[.int .i64 x.1, .int .i64 x.2, .string key, .int .i64 0, .int .i64 0], .int .i64 0])

section
set_option maxRecDepth 1000000 in
set_option maxHeartbeats 4000000 in
theorem atKey_any {w : World} {r : Nat} {F I : Nat → Prop} {N sp : Nat} {M : Nat → List MOp} {s : RoomS} {x : RoomX} (h : RoomD w r F I N sp M s x) (c : Nat) (hc : c < N) (x1 x2 : Int) (key : ByteArray) (hks : key.size ≤ maxLen) :
    Calls Tryz.prog 46 #[.pointer (some ⟨r, 0, none⟩), .int .i64 c, .agg #[.int .i64 x1, .int .i64 x2], .string key] w fun e w' => Below w.heap.size w w' ∧ AtKey (ROf (s.ops c)) (x1, x2) key (x.rbs c) e := by
  have HB := hid (((Below.refl w.heap.size w).alloc (Nat.le_refl _) (.cells #[.int .i64 x1, .int .i64 x2] 36)).alloc (by simp) (.cells #[.int .i64 0, .int .i64 0, .string ⟨#[]⟩, .int .i64 0, .int .i64 0] 97))
  have HX0 := hid (show ((w.alloc (.cells #[.int .i64 x1, .int .i64 x2] 36)).alloc (.cells #[.int .i64 0, .int .i64 0, .string ⟨#[]⟩, .int .i64 0, .int .i64 0] 97)).heap[w.heap.size]? = some (.cells #[.int .i64 x1, .int .i64 x2] 36 (0, 0)) from (alloc_old_r _ _ (by simp)).trans (blk_new w _))
  have HY0 := hid (show ((w.alloc (.cells #[.int .i64 x1, .int .i64 x2] 36)).alloc (.cells #[.int .i64 0, .int .i64 0, .string ⟨#[]⟩, .int .i64 0, .int .i64 0] 97)).heap[w.heap.size + 1]? = some (.cells #[.int .i64 0, .int .i64 0, .string ⟨#[]⟩, .int .i64 0, .int .i64 0] 97 (0, 0)) from (by
    have := blk_new (w.alloc (.cells #[.int .i64 x1, .int .i64 x2] 36)) (.cells #[.int .i64 0, .int .i64 0, .string ⟨#[]⟩, .int .i64 0, .int .i64 0] 97)
    rw [show (w.alloc (.cells #[.int .i64 x1, .int .i64 x2] 36)).heap.size = w.heap.size + 1 by simp] at this
    exact this))
  have HIO := hid (inObject_any (h.keep HB.out) c hc x1 x2 false)
  clear h
  generalize ROf (s.ops c) = R at *
  have HK := hid (fun W => isKey_q key W hks)
  go_enter Tryz.func46, Tryz.ntmps46
  go_wp2_with fail
  refine HIO.out.mono ?_
  rintro e w1 ⟨hb1, hio⟩
  have HX1 := hid (blk_keep HX0.out hb1)
  have HY1 := hid (blk_keep HY0.out hb1)
  have HB1 := hid (HB.out.trans (hb1.mono HB.out.size)); clear hb1
  obtain ⟨x0', x1'⟩ := blk2 HX1.out
  obtain ⟨y0, y1, y2, y3, y4⟩ := blk5 HY1.out
  have yf := blk_fz HY1.out
  have yl := blk_lt HY1.out
  rcases hio with ⟨m, hm, hp, rfl⟩ | ⟨o, ho, hol, rfl⟩
  · have HE := hid (keyed_err (key := key) hp); clear hp
    rcases hm with rfl | rfl
    all_goals go_wp2
    all_goals refine bodyPost_ret (v := .tuple #[.pointer none, .agg #[.int .i64 0, .int .i64 0, .string ⟨#[]⟩, .int .i64 0, .int .i64 0], .int .i64 _]) (by simp [results, Tryz.results46, go_sem, y0, y1, y2, y3, y4]; rfl) rfl ?_
    · exact ⟨below5 HB1.out (by omega) _ _ _ _ _, .inl ⟨3, .inl rfl, HE.out, rfl⟩⟩
    · exact ⟨below5 HB1.out (by omega) _ _ _ _ _, .inl ⟨4, .inr (.inl rfl), HE.out, rfl⟩⟩
  · have HE := hid (keyed_of (key := key) ho hol)
    have HO := hid (And.intro ho hol); clear ho hol
    go_wp2_with fail
    refine (HK.out _).mono ?_
    rintro e w2 ⟨rfl, hw2⟩
    subst hw2
    cases hko : keyOk key
    · have HE2 := hid (show keyedP R (x1, x2) key = .error 5 by rw [HE.out, hko]; simp)
      clear hko
      go_wp2
      refine bodyPost_ret (v := .tuple #[.pointer none, .agg #[.int .i64 0, .int .i64 0, .string ⟨#[]⟩, .int .i64 0, .int .i64 0], .int .i64 5]) (by simp [results, Tryz.results46, go_sem, y0, y1, y2, y3, y4]) rfl ?_
      exact ⟨below5 HB1.out (by omega) _ _ _ _ _, .inl ⟨5, .inr (.inr rfl), HE2.out, rfl⟩⟩
    · have HE2 := hid (show keyOk key = true ∧ keyedP R (x1, x2) key = .ok (heldsAt o key (0, 0)) from ⟨hko, by rw [HE.out, hko]; simp⟩)
      clear hko
      go_wp2_with fail
      refine (keyOf_q x1 x2 key _).mono ?_
      rintro e w3 ⟨rfl, hb3⟩
      have HY3 := hid (blk_keep HY1.out hb3)
      have HB3 := hid (HB1.out.trans (hb3.mono HB1.out.size)); clear hb3
      obtain ⟨z0, z1, z2, z3, z4⟩ := blk5 HY3.out
      have zf := blk_fz HY3.out
      have zl := blk_lt HY3.out
      go_wp2
      refine bodyPost_ret (v := .tuple #[.pointer (some ⟨x.rbs c, 0, none⟩), .agg #[.int .i64 x1, .int .i64 x2, .string key, .int .i64 0, .int .i64 0], .int .i64 0]) (by simp [results, Tryz.results46, go_sem, z0, z1, z2, z3, z4]) rfl ?_
      exact ⟨below5 HB3.out (by omega) _ _ _ _ _, .inr ⟨o, HO.out.1, HO.out.2, HE2.out.1, HE2.out.2, rfl⟩⟩
end

def AtGap (R : List PObj) (x : PId) (i : Int) (rb : Nat) (e : Ending) : Prop :=
  (∃ m, (m = 3 ∨ m = 4) ∧ elementsP R x = .error m ∧ e = .returned (.tuple #[.pointer none, .int .i64 m])) ∨
  ∃ o, objOf R x = some o ∧ o.list = true ∧ elementsP R x = .ok (pseen o) ∧ ((behindP (pseen o) i = none ∧ e = .returned (.tuple #[.pointer none, .int .i64 7])) ∨ ∃ b, behindP (pseen o) i = some b ∧ e = .returned (.tuple #[.pointer (some ⟨rb, 0, none⟩), .int .i64 0]))
def AtEl (R : List PObj) (x : PId) (i : Int) (rb : Nat) (e : Ending) : Prop :=
  (∃ m, (m = 3 ∨ m = 4) ∧ elementsP R x = .error m ∧ e = .returned (.tuple #[.pointer none, .agg #[.int .i64 0, .int .i64 0, .string ⟨#[]⟩, .int .i64 0, .int .i64 0], .int .i64 m])) ∨
  ∃ o, objOf R x = some o ∧ o.list = true ∧ elementsP R x = .ok (pseen o) ∧ (((i < 0 ∨ ((pseen o).length : Int) ≤ i) ∧ e = .returned (.tuple #[.pointer none, .agg #[.int .i64 0, .int .i64 0, .string ⟨#[]⟩, .int .i64 0, .int .i64 0], .int .i64 7])) ∨ (¬ (i < 0 ∨ ((pseen o).length : Int) ≤ i) ∧ ∃ y, (pseen o)[i.toNat]? = some y ∧ e = .returned (.tuple #[.pointer (some ⟨rb, 0, none⟩), .agg #[.int .i64 x.1, .int .i64 x.2, .string ⟨#[]⟩, .int .i64 y.1, .int .i64 y.2], .int .i64 0])))

end Go.Proofs.YtnkpogjiiohapaaGreatDoor
