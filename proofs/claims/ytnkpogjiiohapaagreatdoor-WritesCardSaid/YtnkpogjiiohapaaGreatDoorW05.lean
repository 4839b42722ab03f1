/- Our own text (RefU, RefV, RefW, RefP, RefQ, RefR). -/
import Derived.Lib.ItoaNum
import Derived.Lib.ItoaLen
import Derived.Test.YtnkpogjiiohapaaGreatDoorW04
set_option linter.unusedSimpArgs false
set_option linter.unusedVariables false

/-! RefU: The reference's room in memory, and the contracts of its readers: is, room, has, doc. -/
namespace Go.Proofs.YtnkpogjiiohapaaGreatDoor
open Go.RowKit

/-- The room, as far as its operations and what its copies have are read: N copies; vops: the row of operations of each; cp: what each copy holds. -/
structure isRoom (w : World) (r N : Nat) (vO vC vL : Value) (vops : Nat → Value) (cops : Nat → List COp) (cp : Nat → Nat → Value) (has : Nat → Nat → Nat) : Prop where
  hr : w.heap[r]? = some (.cells #[.int .i64 N, vO, vC, vL] 222 (0, 0))
  hN : N ≤ 4
  hO : w.ownsRow 0 255 1 vO N ((List.range N).map vops)
  hops : ∀ i, i < N → isOps w (vops i) (cops i)
  hC : w.ownsRow 0 225 4 vC N ((List.range N).flatMap fun c => [cp c 0, cp c 1, cp c 2, cp c 3])
  hH : ∀ c, c < N → w.ownsRow 0 3 1 (cp c 0) N ((List.range N).map fun i => Value.int .i64 (has c i))
  hle : ∀ c i, c < N → i < N → has c i ≤ (cops i).length
  hsz : ∀ i, i < N → (cops i).length ≤ 60

theorem isRoom.keep {w w' : World} {r N : Nat} {vO vC vL : Value} {vops : Nat → Value} {cops : Nat → List COp} {cp : Nat → Nat → Value} {has : Nat → Nat → Nat} (h : isRoom w r N vO vC vL vops cops cp has) (hb : Below w.heap.size w w') : isRoom w' r N vO vC vL vops cops cp has :=
  ⟨by rw [hb.block r (Array.getElem?_eq_some_iff.1 h.hr).1]; exact h.hr, h.hN, owns_keep h.hO hb, fun i hi => (h.hops i hi).keep hb, owns_keep h.hC hb, fun c hc => owns_keep (h.hH c hc) hb, h.hle, h.hsz⟩

section
theorem isRoom.c0 {w : World} {r N : Nat} {vO vC vL : Value} {vops : Nat → Value} {cops : Nat → List COp} {cp : Nat → Nat → Value} {has : Nat → Nat → Nat} (h : isRoom w r N vO vC vL vops cops cp has) : w.cell? ⟨r, 0, none⟩ = some (.int .i64 N) := by simp [World.cell?, h.hr]
theorem isRoom.c1 {w : World} {r N : Nat} {vO vC vL : Value} {vops : Nat → Value} {cops : Nat → List COp} {cp : Nat → Nat → Value} {has : Nat → Nat → Nat} (h : isRoom w r N vO vC vL vops cops cp has) : w.cell? ⟨r, 1, none⟩ = some vO := by simp [World.cell?, h.hr]
theorem isRoom.c2 {w : World} {r N : Nat} {vO vC vL : Value} {vops : Nat → Value} {cops : Nat → List COp} {cp : Nat → Nat → Value} {has : Nat → Nat → Nat} (h : isRoom w r N vO vC vL vops cops cp has) : w.cell? ⟨r, 2, none⟩ = some vC := by simp [World.cell?, h.hr]
theorem isRoom.row {w : World} {r N : Nat} {vO vC vL : Value} {vops : Nat → Value} {cops : Nat → List COp} {cp : Nat → Nat → Value} {has : Nat → Nat → Nat} (h : isRoom w r N vO vC vL vops cops cp has) (hN : 0 < N) : ∃ gO cO gC cC, vO = .slice (some ⟨gO, 0, none⟩) N cO ∧ vC = .slice (some ⟨gC, 0, none⟩) N cC ∧ N ≤ cO ∧ N ≤ cC ∧ (∀ i, i < N → w.cell? ⟨gO, i, none⟩ = some (vops i)) ∧ (∀ c, c < N → w.cell? ⟨gC, c * 4, none⟩ = some (cp c 0)) := by
  obtain ⟨a, cO, e1, h1, _, f1⟩ := owns_form h.hO
  obtain ⟨a', cC, e2, h2, _, f2⟩ := owns_form h.hC
  obtain ⟨gO, rfl⟩ := f1 0 hN
  obtain ⟨gC, rfl⟩ := f2 0 hN
  refine ⟨gO, cO, gC, cC, e1, e2, h1, h2, fun i hi => ?_, fun c hc => ?_⟩
  · have := h.hO; rw [e1] at this
    rw [this.cellAt i (by omega)]; simp [hi]
  · have := h.hC; rw [e2] at this
    have := owns_cell (f := fun c => [cp c 0, cp c 1, cp c 2, cp c 3]) (k := 4) (fun _ => rfl) this (by simp) c (by simpa using hc) 0 (by omega)
    rw [Nat.add_zero] at this
    rw [this]; simp
theorem isRoom.hasAt {w : World} {r N : Nat} {vO vC vL : Value} {vops : Nat → Value} {cops : Nat → List COp} {cp : Nat → Nat → Value} {has : Nat → Nat → Nat} (h : isRoom w r N vO vC vL vops cops cp has) {c : Nat} (hc : c < N) : ∃ gH cH, cp c 0 = .slice (some ⟨gH, 0, none⟩) N cH ∧ N ≤ cH ∧ ∀ i, i < N → w.cell? ⟨gH, i, none⟩ = some (.int .i64 (has c i)) := by
  obtain ⟨a, cH, e1, h1, _, f1⟩ := owns_form (h.hH c hc)
  obtain ⟨gH, rfl⟩ := f1 0 (by omega)
  refine ⟨gH, cH, e1, h1, fun i hi => ?_⟩
  have := h.hH c hc; rw [e1] at this
  rw [this.cellAt i (by omega)]; simp [hi]
end

set_option maxRecDepth 1000000 in
set_option maxHeartbeats 400000 in
theorem is_any {w : World} {r N : Nat} {vO vC vL : Value} {vops : Nat → Value} {cops : Nat → List COp} {cp : Nat → Nat → Value} {has : Nat → Nat → Nat} (h : isRoom w r N vO vC vL vops cops cp has) (c : Int) :
    Calls Tryz.prog 151 #[.pointer (some ⟨r, 0, none⟩), .int .i64 c] w fun e w' => e = .returned (.bool (decide (0 ≤ c ∧ c < N))) ∧ w' = w := by
  have c0 := h.c0
  clear h
  by_cases h0 : 0 ≤ c
  · go_enter Tryz.func151, Tryz.ntmps151
    go_wp2
    go_ret
    exact ⟨ret_bool (by simp [h0]), rfl⟩
  · go_enter Tryz.func151, Tryz.ntmps151
    go_wp2
    go_ret
    exact ⟨ret_bool (by simp [show ¬ 0 ≤ c by omega]), rfl⟩

set_option maxRecDepth 1000000 in
set_option maxHeartbeats 400000 in
theorem room_any {w : World} {r N : Nat} {vO vC vL : Value} {vops : Nat → Value} {cops : Nat → List COp} {cp : Nat → Nat → Value} {has : Nat → Nat → Nat} (h : isRoom w r N vO vC vL vops cops cp has) (c : Nat) (hc : c < N) (n : Nat) (hn : n ≤ 10) :
    Calls Tryz.prog 144 #[.pointer (some ⟨r, 0, none⟩), .int .i64 c, .int .i64 n] w fun e w' => e = .returned (.bool (decide ((cops c).length + n ≤ 60))) ∧ w' = w := by
  have c1 := h.c1
  obtain ⟨gO, cO, gC, cC, rfl, rfl, hcO, _, cells, _⟩ := h.row (by omega)
  obtain ⟨va, vc, hv, _, _, _⟩ := owns_form (h.hops c hc).1
  have k0 := cells c hc
  rw [hv] at k0
  have hsz := h.hsz c hc
  have hN := h.hN
  clear h cells hv
  go_enter Tryz.func144, Tryz.ntmps144
  go_wp2
  go_ret
  exact ⟨ret_bool (by rw [decide_eq_decide]; omega), rfl⟩

/-- SEVERAL ELEMENTS MORE, as a step of a region that draws. -/
theorem step_many {α : Type} (f : α → List Value) (size bytes : Nat) (t e : TypeId) (z : Value) (hinfo : (Tryz.prog.info? e).map (fun i => (i.zero, i.size, i.bytes)) = some (some z, size, bytes))
    (ht : Tryz.prog.underlying t = some (.slice e)) (hzs : z.cells.size = size) (hk : 0 < size) (hf : ∀ x, (f x).length = size)
    {ops : Array Oper} {o : Oper} {a : Act} {w : World} {K : Act → World → Prop} {Q : Exit → Act → World → Prop} {E : Prop}
    (hg : o.guard = none) (s x : Operand) (ho : o.op = .call { callee := .builtin .append, args := #[s, x], argTypes := #[t, t] }) (B : Nat) (v : Value) (l l2 : List α) (hs : a.eval s = v)
    (hown : w.ownsRow B e size v l.length (l.flatMap f)) (xv : Value) (hx : a.eval x = xv) (hsrc : srcIs w f xv l2) (h1 : ∀ u ∈ l2.flatMap f, u.oneCell' = true)
    (hlen : (l.length + l2.length) * bytes ≤ 140737488355328) (hlen' : l.length + l2.length ≤ maxLen) (hB : B ≤ w.heap.size)
    (h : ∀ v' w', w'.ownsRow B e size v' (l.length + l2.length) ((l ++ l2).flatMap f) → w.grownBy w' v.ownBlock → K (a.put o.dst v') w') :
    if Region.wanted o (yielded ops a.tmps) = true then Oper.wp Tryz.prog o a w K Q else E := by
  have hw : Region.wanted o (yielded ops a.tmps) = true := by simp [Region.wanted, hg]
  rw [if_pos hw]
  obtain ⟨i, hi, hz, hsz, hby⟩ := info_parts hinfo
  rcases hsrc with ⟨rfl, rfl⟩ | ⟨ad, c, rfl, hc⟩
  · have hr := run_append_owned_none (P := Tryz.prog) w B t o.type e i size ht hi v l.length _ hown
    unfold Oper.wp execOp
    simp only [ho, resolve, invoke, builtin, Sem.run_bind, Sem.run_pure, Result.andThen_ok, List.map_toArray, List.map_cons, List.map_nil, hs, hx, hr]
    exact h v w (by simpa using hown) (World.grownBy.refl w _)
  · obtain ⟨v', w', hr, h2, h3, _⟩ := run_append_own (P := Tryz.prog) w B t o.type e i z size bytes ht hi hz hsz hby hzs hk v l.length (l.flatMap f) hown ad l2.length c (l2.flatMap f) (flat_len f size hf l2) hc h1 hlen' hlen hB
    unfold Oper.wp execOp
    simp only [ho, resolve, invoke, builtin, Sem.run_bind, Sem.run_pure, Result.andThen_ok, List.map_toArray, List.map_cons, List.map_nil, hs, hx, hr]
    exact h v' w' (by simpa using h2) h3

/-- A row of operations of the call's own. -/
def ownOps (B : Nat) (w : World) (v : Value) (l : List COp) : Prop := w.ownsRow B 233 15 v l.length (l.flatMap opC)
theorem ownOps.below {B : Nat} {w0 w w' : World} {v : Value} {l : List COp} (h : ownOps B w v l) (hb : Below B w0 w) (hB : B ≤ w.heap.size) (hg : w.grownBy w' v.ownBlock) : Below B w0 w' :=
  hb.grown hg hB fun k hk => (World.ownsRow.lt h k hk).1
theorem ownOps.drew {B : Nat} {w : World} {v : Value} {l : List COp} (h : ownOps B w v l) : ownOps B w.drew v l := World.ownsRow.drew h
theorem ops_wf {w : World} {l : List COp} (h : ∀ o ∈ l, isIds w o.vold o.p.old) : ∀ u ∈ l.flatMap opC, u.oneCell' = true := by
  intro u hu
  obtain ⟨o, ho, hu⟩ := List.mem_flatMap.1 hu
  obtain ⟨a, c, hv, _⟩ := owns_form (h o ho)
  simp [opC] at hu
  rcases hu with rfl | rfl | rfl | rfl | rfl | rfl | rfl | rfl | rfl | rfl | rfl | rfl | rfl | rfl | rfl <;> first | rfl | (rw [hv]; rfl)

theorem step_ops {ops : Array Oper} {o : Oper} {a : Act} {w : World} {K : Act → World → Prop} {Q : Exit → Act → World → Prop} {E : Prop}
    (hg : o.guard = none) (s x : Operand) (ho : o.op = .call { callee := .builtin .append, args := #[s, x], argTypes := #[255, 255] }) (B : Nat) (v : Value) (l l2 : List COp) (hs : a.eval s = v)
    (hown : ownOps B w v l) (xv : Value) (hx : a.eval x = xv) (hsrc : srcIs w opC xv l2) (h1 : ∀ u ∈ l2.flatMap opC, u.oneCell' = true) (hlen : l.length + l2.length < 100000) (hB : B ≤ w.heap.size)
    (h : ∀ v' w', ownOps B w' v' (l ++ l2) → w.grownBy w' v.ownBlock → K (a.put o.dst v') w') :
    if Region.wanted o (yielded ops a.tmps) = true then Oper.wp Tryz.prog o a w K Q else E :=
  step_many opC 15 144 255 233 (.agg #[.int .i64 0, .int .i64 0, .int .i64 0, .bool false, .int .i64 0, .int .i64 0, .string ⟨#[]⟩, .int .i64 0, .int .i64 0, .int .i64 0, .int .i64 0, .int .i64 0, .int .i64 0, .int .i64 0, .slice none 0 0]) (by kernel_rfl) Tryz.underlying255 rfl (by omega) (fun _ => rfl)
    hg s x ho B v l l2 hs hown xv hx hsrc h1 (by omega) (by unfold maxLen; omega) hB (fun v' w' h2 h3 => h v' w' (by unfold ownOps; simpa using h2) h3)

/-- The operations that a copy has, by the copies that made them. -/
def hasOps (cops : Nat → List COp) (has : Nat → Nat) (k : Nat) : List COp := (List.range k).flatMap fun i => (cops i).take (has i)
theorem hasOps_succ (cops : Nat → List COp) (has : Nat → Nat) (k : Nat) : hasOps cops has (k + 1) = hasOps cops has k ++ (cops k).take (has k) := by
  unfold hasOps; rw [List.range_succ, List.flatMap_append]; simp
theorem hasOps_len (cops : Nat → List COp) (has : Nat → Nat) : ∀ k, (∀ i, i < k → (cops i).length ≤ 60) → (hasOps cops has k).length ≤ 60 * k
  | 0, _ => by simp [hasOps]
  | k + 1, h => by
    rw [hasOps_succ, List.length_append, List.length_take]
    have := hasOps_len cops has k (fun i hi => h i (by omega))
    have := h k (by omega)
    omega

set_option maxRecDepth 1000000 in
set_option maxHeartbeats 1600000 in
theorem has_any {w : World} {r N : Nat} {vO vC vL : Value} {vops : Nat → Value} {cops : Nat → List COp} {cp : Nat → Nat → Value} {has : Nat → Nat → Nat} (h : isRoom w r N vO vC vL vops cops cp has) (c : Nat) (hc : c < N) :
    Calls Tryz.prog 173 #[.pointer (some ⟨r, 0, none⟩), .int .i64 c] w fun e w' =>
      ∃ v, e = .returned v ∧ isOps w' v (hasOps cops (has c) N) ∧ Below w.heap.size w w' := by
  obtain ⟨gO, cO, gC, cC, rfl, rfl, hcO, hcC, cellsO, cellsC⟩ := h.row (by omega)
  obtain ⟨gH, cH, hcp, hcH, cellsH⟩ := h.hasAt hc
  have HC0 := hid h.c0
  have HC1 := hid h.c1
  have HC2 := hid h.c2
  have HCC := hid (show w.cell? ⟨gC, c * 4, none⟩ = some (.slice (some ⟨gH, 0, none⟩) N cH) by rw [cellsC c hc, hcp])
  have hN := h.hN
  have HH := hid h; clear h
  have HCO := hid cellsO; clear cellsO
  have HCH := hid cellsH; clear cellsH
  clear cellsC hcp
  go_enter Tryz.func173, Tryz.ntmps173
  go_wp2
  go_loopw [5, 6] (fun u i wr => ∃ k : Nat, k ≤ N ∧ i = .int .i64 k ∧ ownOps w.heap.size wr u (hasOps cops (has c) k) ∧ Below w.heap.size w wr) (fun _ i _ => N - (intOf i).toNat)
  case atStart => exact ⟨0, Nat.zero_le _, rfl, World.ownsRow_nil _ _ _ _, Below.refl _ _⟩
  case round =>
    obtain ⟨k, hk, rfl, hown, hbel⟩ := hrel
    have c0 := keep hbel HC0.out
    have c1 := keep hbel HC1.out
    have c2 := keep hbel HC2.out
    have cc := keep hbel HCC.out
    by_cases hlt : k < N
    · have hopsk := HH.out.hops k hlt
      obtain ⟨va, vc, hv, hvl, hvm, hvf⟩ := owns_form hopsk.1
      unfold maxLen at hvm
      have co := HCO.out k hlt
      rw [hv] at co hopsk
      replace co := keep hbel co
      have ch := keep hbel (HCH.out k hlt)
      have hle := HH.out.hle c k hc hlt
      have hsz := HH.out.hsz k hlt
      have hll := hasOps_len cops (has c) k (fun i hi => HH.out.hsz i (by omega))
      have HOP := hid (hopsk.keep hbel)
      have HO := hid hown; clear hown hopsk
      have HBEL := hid hbel; clear hbel
      clear hvf
      have hcI : ((has c k : Nat) : Int) ≤ (vc : Int) := by omega
      have hc0 : (0 : Int) ≤ ((has c k : Nat) : Int) := by omega
      have HZ := hid (show has c k = 0 → va = none → vc = 0 from fun _ e => by have := HOP.out.1; rw [e] at this; exact owns_none this)
      go_wp2
      go_region_law (refine step_ops rfl (.tmp 15) (.tmp 34) rfl w.heap.size _ (hasOps cops (has c) k) ((cops k).take (has c k)) (by simp [Act.eval, Act.put]; rfl) ?h1 (.slice va (has c k) vc) (by simp [Act.eval, Act.put]) ?h2 ?h3 ?h4 ?h5 ?_; (case h1 => exact HO.out); (case h2 => exact src_head HOP.out.1 (fun _ => rfl) rfl (has c k) hle vc HZ.out); (case h3 => exact ops_wf (fun o ho => HOP.out.2 o (List.mem_of_mem_take ho))); (case h4 => rw [List.length_take]; omega); (case h5 => exact HBEL.out.size); intro v' w2 hown2 hg2; have HN2 := hid hown2; clear hown2; have HG2 := hid hg2; clear hg2)
      all_goals (try go_wp2)
      all_goals go_roundw
      all_goals first | (simp [intOf]; omega) | exact ⟨k + 1, by omega, by go_num, by rw [hasOps_succ]; exact HN2.out, ownOps.below HO.out.drew HBEL.out.drew HBEL.out.size HG2.out⟩
    · go_wp2
      go_ret
      have e : k = N := by omega
      subst e
      refine ⟨_, rfl, ⟨owns_mono hown (Nat.zero_le _), fun o ho => ?_⟩, hbel⟩
      unfold hasOps at ho
      obtain ⟨i, hi, ho⟩ := List.mem_flatMap.1 ho
      exact ((HH.out.hops i (by simpa using hi)).2 o (List.mem_of_mem_take ho)).keep hbel

end Go.Proofs.YtnkpogjiiohapaaGreatDoor

/-! RefV: The contracts of the reference's doc and object. -/
namespace Go.Proofs.YtnkpogjiiohapaaGreatDoor
open Go.RowKit

theorem isSlots.base {B B' : Nat} {w : World} {v : Value} {l : List CSlot} (h : isSlots B w v l) (hb : B' ≤ B) : isSlots B' w v l := ⟨owns_mono h.1 hb, h.2⟩
theorem isDoc.base {B B' t : Nat} {w : World} {d : Nat} {v : Value} {os : List CObj} (h : isDoc B t w d v os) (hb : B' ≤ B) : isDoc B' t w d v os :=
  ⟨h.hd, Nat.le_trans hb h.hB, ⟨owns_mono h.ho.1 hb, fun o ho => (h.ho.2.1 o ho).base hb, h.ho.2.2⟩, h.hn, h.hs⟩

/-- All that is asked of a room and a copy to know its document. -/
structure Shown (w : World) (r N : Nat) (vO vC vL : Value) (vops : Nat → Value) (cops : Nat → List COp) (cp : Nat → Nat → Value) (has : Nat → Nat → Nat) (c : Nat) (S : List POp) : Prop where
  room : isRoom w r N vO vC vL vops cops cp has
  hc : c < N
  perm : S.Perm ((hasOps cops (has c) N).map COp.p)
  sort : Sorted S
theorem Shown.keep {w w' : World} {r N : Nat} {vO vC vL : Value} {vops : Nat → Value} {cops : Nat → List COp} {cp : Nat → Nat → Value} {has : Nat → Nat → Nat} {c : Nat} {S : List POp} (h : Shown w r N vO vC vL vops cops cp has c S) (hb : Below w.heap.size w w') : Shown w' r N vO vC vL vops cops cp has c S :=
  ⟨h.room.keep hb, h.hc, h.perm, h.sort⟩
theorem Shown.len {w : World} {r N : Nat} {vO vC vL : Value} {vops : Nat → Value} {cops : Nat → List COp} {cp : Nat → Nat → Value} {has : Nat → Nat → Nat} {c : Nat} {S : List POp} (h : Shown w r N vO vC vL vops cops cp has c S) : (hasOps cops (has c) N).length ≤ 240 := by
  have := hasOps_len cops (has c) N (fun i hi => h.room.hsz i hi)
  have := h.room.hN
  omega

section
set_option maxRecDepth 1000000 in
set_option maxHeartbeats 400000 in
theorem doc_any {w : World} {r N : Nat} {vO vC vL : Value} {vops : Nat → Value} {cops : Nat → List COp} {cp : Nat → Nat → Value} {has : Nat → Nat → Nat} {c : Nat} {S : List POp} (h : Shown w r N vO vC vL vops cops cp has c S) : Calls Tryz.prog 152 #[.pointer (some ⟨r, 0, none⟩), .int .i64 c] w fun e w' =>
      ∃ d vd os, e = .returned (.pointer (some ⟨d, 0, none⟩)) ∧ isDoc w.heap.size 240 w' d vd os ∧ os.map CObj.p = S.foldl doesP rootP ∧ Below w.heap.size w w' := by
  have hl := h.len
  have HH := hid h; clear h
  go_enter Tryz.func152, Tryz.ntmps152
  go_wp2_with fail
  refine (has_any HH.out.room c HH.out.hc).mono ?_
  rintro e w1 ⟨v, rfl, hops, hb1⟩
  have HOPS := hid hops; clear hops
  have HB1 := hid hb1; clear hb1
  go_wp2_with fail
  refine (done_any v _ S HH.out.perm HH.out.sort (by omega) w1 HOPS.out).mono ?_
  rintro e w2 ⟨d, vd, os, rfl, hdoc, hos, hb2⟩
  have HDOC := hid (And.intro hdoc (And.intro hos hb2)); clear hdoc hos hb2
  go_wp2
  go_ret
  exact ⟨d, vd, os, rfl, (HDOC.out.1.mono (by omega)).base HB1.out.size, HDOC.out.2.1, HB1.out.trans (HDOC.out.2.2.mono HB1.out.size)⟩
end

set_option maxRecDepth 1000000 in
set_option maxHeartbeats 400000 in
theorem object_nocopy {w : World} {r N : Nat} {vO vC vL : Value} {vops : Nat → Value} {cops : Nat → List COp} {cp : Nat → Nat → Value} {has : Nat → Nat → Nat} (h : isRoom w r N vO vC vL vops cops cp has) (c x1 x2 : Int) (lst : Bool) (hc : ¬ (0 ≤ c ∧ c < N)) :
    Calls Tryz.prog 147 #[.pointer (some ⟨r, 0, none⟩), .int .i64 c, .agg #[.int .i64 x1, .int .i64 x2], .bool lst] w fun e w' =>
      e = .returned (.tuple #[.pointer none, .int .i64 2]) ∧ Below w.heap.size w w' := by
  have HH := hid h; clear h
  have hd : decide (0 ≤ c ∧ c < N) = false := decide_eq_false hc
  have HD := hid hd; clear hd hc
  go_enter Tryz.func147, Tryz.ntmps147
  go_wp2_with fail
  refine (is_any (HH.out.keep ((Below.refl _ w).alloc (Nat.le_refl _) _)) c).mono ?_
  rintro e w1 ⟨he, hw⟩
  rw [HD.out] at he
  subst he; subst hw
  go_wp2
  go_ret2
  exact ⟨rfl, (Below.refl _ _).alloc (Nat.le_refl _) _⟩

/-- Where an object lies. -/
structure ObjAt (w0 w : World) (D : List PObj) (k : Nat) (d : Nat) (go cap : Nat) (os : List CObj) : Prop where
  doc : isDoc w0.heap.size 240 w d (.slice (some ⟨go, 0, none⟩) os.length cap) os
  eq : os.map CObj.p = D
  lt : k < os.length
  below : Below w0.heap.size w0 w

set_option maxRecDepth 1000000 in
set_option maxHeartbeats 800000 in
theorem object_any {w : World} {r N : Nat} {vO vC vL : Value} {vops : Nat → Value} {cops : Nat → List COp} {cp : Nat → Nat → Value} {has : Nat → Nat → Nat} {c : Nat} {S : List POp} (h : Shown w r N vO vC vL vops cops cp has c S) (x1 x2 : Int) (lst : Bool) :
    Calls Tryz.prog 147 #[.pointer (some ⟨r, 0, none⟩), .int .i64 c, .agg #[.int .i64 x1, .int .i64 x2], .bool lst] w fun e w' =>
      (firstI (pobjIs (x1, x2)) (S.foldl doesP rootP) < 0 ∧ e = .returned (.tuple #[.pointer none, .int .i64 3]) ∧ Below w.heap.size w w') ∨
      (∃ k : Nat, firstI (pobjIs (x1, x2)) (S.foldl doesP rootP) = (k : Int) ∧ ∃ hk : k < (S.foldl doesP rootP).length,
        (((S.foldl doesP rootP)[k].list ≠ lst ∧ e = .returned (.tuple #[.pointer none, .int .i64 4]) ∧ Below w.heap.size w w') ∨
         ((S.foldl doesP rootP)[k].list = lst ∧ ∃ d go cap os, e = .returned (.tuple #[.pointer (some ⟨go, k * 4, none⟩), .int .i64 0]) ∧ ObjAt w w' (S.foldl doesP rootP) k d go cap os))) := by
  have hd : decide (0 ≤ (c : Int) ∧ (c : Int) < N) = true := decide_eq_true (by have := h.hc; omega)
  have HD := hid hd; clear hd
  have HH := hid h; clear h
  generalize hDD : S.foldl doesP rootP = DD
  have HDD := hid hDD; clear hDD
  go_enter Tryz.func147, Tryz.ntmps147
  go_wp2_with fail
  refine (is_any (HH.out.room.keep ((Below.refl _ w).alloc (Nat.le_refl _) _)) c).mono ?_
  rintro e w1 ⟨he, hw⟩
  rw [HD.out] at he
  subst he; subst hw
  go_wp2_with fail
  refine (doc_any (HH.out.keep ((Below.refl _ w).alloc (Nat.le_refl _) _))).mono ?_
  rintro e w1 ⟨d, vd, os, rfl, hdoc, hos, hb1⟩
  rw [HDD.out] at hos
  have b0 := keep (a := ⟨w.heap.size, 0, none⟩) (v := .int .i64 x1) hb1 (by simp [go_sem])
  have b1 := keep (a := ⟨w.heap.size, 1, none⟩) (v := .int .i64 x2) hb1 (by simp [go_sem])
  have hbb : Below w.heap.size w w1 := ((Below.refl _ w).alloc (Nat.le_refl _) _).trans (hb1.mono (by simp))
  have HDOC := hid (hdoc.base (B' := w.heap.size) (by simp)); clear hdoc hb1
  have HB1 := hid hbb; clear hbb
  have HOS := hid hos; clear hos
  go_wp2_with fail
  refine (find_any w.heap.size d vd os x1 x2 w1 HDOC.out.cell HDOC.out.ho).mono ?_
  rintro e w2 ⟨rfl, hb2⟩
  have hff : firstI (objIs (x1, x2)) os = firstI (pobjIs (x1, x2)) DD := by rw [← HOS.out, first_o]
  have HFF := hid hff; clear hff
  replace HDOC := hid (HDOC.out.keep hb2)
  have HB2 := hid (HB1.out.trans (hb2.mono HB1.out.size)); clear hb2 b0 b1
  have hlt := firstI_lt (objIs (x1, x2)) os
  have hge := firstI_ge (objIs (x1, x2)) os
  by_cases hn : firstI (objIs (x1, x2)) os < 0
  · have HN := hid hn
    have e1 : firstI (objIs (x1, x2)) os = -1 := by omega
    clear hn hlt hge
    go_wp2
    go_ret2
    exact .inl ⟨by rw [← HFF.out]; exact HN.out, rfl, HB2.out⟩
  · obtain ⟨k, hk⟩ := Int.eq_ofNat_of_zero_le (a := firstI (objIs (x1, x2)) os) (by omega)
    have hkl : k < os.length := by omega
    obtain ⟨go, cap, curO, hv, hBgo, hgo, hoc, hcm, hcs, htk, hol, hos⟩ := HDOC.out.row hkl
    unfold maxLen at hcm
    subst hv
    have c0 := HDOC.out.cell
    have c2 : w2.cell? ⟨go, k * 4 + 2, none⟩ = some (.bool os[k].list) := by simp [World.cell?, hgo, hol]
    have hkd : k < DD.length := by rw [← HOS.out]; simpa using hkl
    have hll : DD[k].list = os[k].list := by
      have : DD[k] = os[k].p := by simp only [← HOS.out, List.getElem_map]
      rw [this]; rfl
    have HLL := hid hll; clear hll
    clear hBgo hgo hcs htk hol hos hlt hge hn
    rw [hk]
    have HK := hid hk; clear hk
    have HKK := hid (show firstI (pobjIs (x1, x2)) DD = (k : Int) by rw [← HFF.out]; exact HK.out)
    generalize os[k].list = ol at *
    cases ol <;> cases lst
    all_goals go_wp2
    all_goals go_ret2
    · exact .inr ⟨k, HKK.out, hkd, .inr ⟨HLL.out, d, go, cap, os, rfl, HDOC.out, HOS.out, hkl, HB2.out⟩⟩
    · exact .inr ⟨k, HKK.out, hkd, .inl ⟨by rw [HLL.out]; simp, rfl, HB2.out⟩⟩
    · exact .inr ⟨k, HKK.out, hkd, .inl ⟨by rw [HLL.out]; simp, rfl, HB2.out⟩⟩
    · exact .inr ⟨k, HKK.out, hkd, .inr ⟨HLL.out, d, go, cap, os, rfl, HDOC.out, HOS.out, hkl, HB2.out⟩⟩

end Go.Proofs.YtnkpogjiiohapaaGreatDoor

/-! RefW: The contracts of the reference's keyed, Elements and Values. -/
namespace Go.Proofs.YtnkpogjiiohapaaGreatDoor
open Go.RowKit

/-- Which object: its place, or the error. -/
def objP (D : List PObj) (x : PId) (lst : Bool) : Except Int Nat :=
  if firstI (pobjIs x) D < 0 then .error 3
  else match D[(firstI (pobjIs x) D).toNat]? with
    | some o => if o.list = lst then .ok (firstI (pobjIs x) D).toNat else .error 4
    | none => .error 3

theorem objP_none {D : List PObj} {x : PId} {lst : Bool} (h : firstI (pobjIs x) D < 0) : objP D x lst = .error 3 := by unfold objP; rw [if_pos h]
theorem objP_some {D : List PObj} {x : PId} {lst : Bool} {k : Nat} (h : firstI (pobjIs x) D = (k : Int)) (hk : k < D.length) : objP D x lst = if D[k].list = lst then .ok k else .error 4 := by
  unfold objP
  rw [if_neg (by omega), h]
  simp [hk]

/-- The values of a key. -/
def heldsAt (o : PObj) (key : ByteArray) (x : PId) : List PHeld := match o.ss.find? (pslotIs key x) with | some s => s.hs | none => []

/-- object, told by the plain function. -/
theorem object_p {w : World} {r N : Nat} {vO vC vL : Value} {vops : Nat → Value} {cops : Nat → List COp} {cp : Nat → Nat → Value} {has : Nat → Nat → Nat} {c : Nat} {S : List POp} (h : Shown w r N vO vC vL vops cops cp has c S) (x1 x2 : Int) (lst : Bool) :
    Calls Tryz.prog 147 #[.pointer (some ⟨r, 0, none⟩), .int .i64 c, .agg #[.int .i64 x1, .int .i64 x2], .bool lst] w fun e w' =>
      (∃ n, objP (S.foldl doesP rootP) (x1, x2) lst = .error n ∧ (n = 3 ∨ n = 4) ∧ e = .returned (.tuple #[.pointer none, .int .i64 n]) ∧ Below w.heap.size w w') ∨
      (∃ k d go cap os, objP (S.foldl doesP rootP) (x1, x2) lst = .ok k ∧ e = .returned (.tuple #[.pointer (some ⟨go, k * 4, none⟩), .int .i64 0]) ∧ ObjAt w w' (S.foldl doesP rootP) k d go cap os) := by
  refine (object_any h x1 x2 lst).mono fun e w' hh => ?_
  rcases hh with ⟨h1, h2, h3⟩ | ⟨k, h1, hk, ⟨h2, h3, h4⟩ | ⟨h2, d, go, cap, os, h3, h4⟩⟩
  · exact .inl ⟨3, objP_none h1, .inl rfl, h2, h3⟩
  · exact .inl ⟨4, by rw [objP_some h1 hk, if_neg h2], .inr rfl, h3, h4⟩
  · exact .inr ⟨k, d, go, cap, os, by rw [objP_some h1 hk, if_pos h2], h3, h4⟩

section
theorem ObjAt.keep {w0 w : World} {D : List PObj} {k d go cap : Nat} {os : List CObj} (h : ObjAt w0 w D k d go cap os) {w' : World} (hb : Below w.heap.size w w') : ObjAt w0 w' D k d go cap os := ⟨h.doc.keep hb, h.eq, h.lt, h.below.trans (hb.mono h.below.size)⟩
theorem ObjAt.slots {w0 w : World} {D : List PObj} {k d go cap : Nat} {os : List CObj} (h : ObjAt w0 w D k d go cap os) : isSlots w0.heap.size w (os[k]'h.lt).slots (os[k]'h.lt).ss := h.doc.ho.2.1 _ (List.getElem_mem _)
theorem ObjAt.cell {w0 w : World} {D : List PObj} {k d go cap : Nat} {os : List CObj} (h : ObjAt w0 w D k d go cap os) : w.cell? ⟨go, k * 4 + 3, none⟩ = some (os[k]'h.lt).slots := (isObjs.cells h.doc.ho rfl k h.lt).2.2.2
theorem ObjAt.ss {w0 w : World} {D : List PObj} {k d go cap : Nat} {os : List CObj} (h : ObjAt w0 w D k d go cap os) : (D[k]?.map PObj.ss) = some ((os[k]'h.lt).ss.map CSlot.p) := by
  obtain ⟨h1, rfl, h3, h4⟩ := h
  simp [h3, CObj.p]
theorem ObjAt.len {w0 w : World} {D : List PObj} {k d go cap : Nat} {os : List CObj} (h : ObjAt w0 w D k d go cap os) : (os[k]'h.lt).ss.length ≤ 240 ∧ ∀ s ∈ (os[k]'h.lt).ss, s.hs.length ≤ 240 := h.doc.hs _ (List.getElem_mem _)
end

theorem first_find_slot {l : List CSlot} {key : ByteArray} {x : PId} : (l.map CSlot.p).find? (pslotIs key x) = if firstI (slotIs key x) l < 0 then none else (l[(firstI (slotIs key x) l).toNat]?).map CSlot.p := by
  have hlt := firstI_lt (slotIs key x) l
  split
  · rename_i hn
    rw [List.find?_eq_none]
    intro s hs
    obtain ⟨c, hc, rfl⟩ := List.mem_map.1 hs
    unfold firstI at hn
    split at hn
    · omega
    · rename_i hnone
      rw [List.findIdx?_eq_none_iff] at hnone
      have := hnone c hc
      show ¬ slotIs key x c = true
      rw [this]; simp
  · rename_i hn
    obtain ⟨k, hk⟩ := Int.eq_ofNat_of_zero_le (a := firstI (slotIs key x) l) (by omega)
    rw [hk]
    have hkl : k < l.length := by omega
    have hf : l.findIdx? (slotIs key x) = some k := by
      unfold firstI at hk
      split at hk
      · rename_i i hi; rw [hi]; congr 1; omega
      · omega
    obtain ⟨_, h1, h2⟩ := List.findIdx?_eq_some_iff_getElem.1 hf
    simp only [Int.ofNat_eq_natCast, Int.toNat_natCast, List.getElem?_eq_getElem hkl, Option.map_some]
    rw [List.find?_eq_some_iff_getElem]
    refine ⟨h1, k, by simpa using hkl, by simp, fun j hj => ?_⟩
    have := h2 j hj
    rw [List.getElem_map]
    show (!slotIs key x l[j]) = true
    simpa using this

def keyedP (D : List PObj) (x : PId) (key : ByteArray) : Except Int (List PHeld) :=
  match objP D x false with
  | .error n => .error n
  | .ok k => if keyOk key then .ok (match D[k]? with | some o => heldsAt o key (0, 0) | none => []) else .error 5

set_option maxRecDepth 1000000 in
set_option maxHeartbeats 1600000 in
theorem keyed_any {w : World} {r N : Nat} {vO vC vL : Value} {vops : Nat → Value} {cops : Nat → List COp} {cp : Nat → Nat → Value} {has : Nat → Nat → Nat} {c : Nat} {S : List POp} (h : Shown w r N vO vC vL vops cops cp has c S) (x1 x2 : Int) (key : ByteArray) (hks : key.size ≤ maxLen) :
    Calls Tryz.prog 143 #[.pointer (some ⟨r, 0, none⟩), .int .i64 c, .agg #[.int .i64 x1, .int .i64 x2], .string key] w fun e w' =>
      Below w.heap.size w w' ∧ ((∃ n, (n = 3 ∨ n = 4 ∨ n = 5) ∧ keyedP (S.foldl doesP rootP) (x1, x2) key = .error n ∧ e = .returned (.tuple #[.slice none 0 0, .int .i64 n])) ∨
      (∃ v hs, keyedP (S.foldl doesP rootP) (x1, x2) key = .ok hs ∧ hs.length ≤ 240 ∧ e = .returned (.tuple #[v, .int .i64 0]) ∧ isHelds w' v hs)) := by
  have HH := hid h; clear h
  generalize hDD : S.foldl doesP rootP = DD
  have HDD := hid hDD; clear hDD
  have HKF := hid (fun W => keyFits_any key W hks)
  clear hks
  go_enter Tryz.func143, Tryz.ntmps143
  go_wp2_with fail
  refine (object_p (HH.out.keep ((Below.refl _ w).alloc (Nat.le_refl _) _)) x1 x2 false).mono ?_
  rw [HDD.out]
  have HB0 := hid ((Below.refl w.heap.size w).alloc (Nat.le_refl _) (.cells #[.int .i64 x1, .int .i64 x2] 36))
  rintro e w1 (⟨n, h1, hn, rfl, hb1⟩ | ⟨k, d, go, cap, os, h1, rfl, hat⟩)
  · have HX := hid (And.intro h1 hb1); clear h1 hb1
    have HN := hid hn
    have hn0 : ¬ n = 0 := by omega
    clear hn
    go_wp2
    go_ret2
    exact ⟨HB0.out.trans (HX.out.2.mono HB0.out.size), .inl ⟨n, by have := HN.out; omega, by unfold keyedP; rw [HX.out.1], rfl⟩⟩
  · have H1 := hid h1; clear h1
    have HAT := hid hat; clear hat
    go_wp2_with fail
    refine (HKF.out _).mono ?_
    rintro e w2 ⟨rfl, hw2⟩
    subst hw2
    cases hko : keyOk key
    · go_wp2
      go_ret2
      exact ⟨HB0.out.trans (HAT.out.below.mono HB0.out.size), .inl ⟨5, by omega, by unfold keyedP; rw [H1.out]; simp [hko], rfl⟩⟩
    · have HSL := hid HAT.out.slots
      have HCE := hid HAT.out.cell
      have hle := HAT.out.len
      have HLE := hid hle; clear hle
      have HSS := hid HAT.out.ss
      have hkp := HAT.out.lt
      generalize os[k] = ob at *
      obtain ⟨va, vc, hv, hvl, hvm, hvf⟩ := owns_form HSL.out.1
      unfold maxLen at hvm
      have c3 := HCE.out
      rw [hv] at c3
      have HOK := hid (show keyedP DD (x1, x2) key = .ok (match (ob.ss.map CSlot.p).find? (pslotIs key (0, 0)) with | some s => s.hs | none => []) by
        unfold keyedP; rw [H1.out]; simp only [hko, if_true]
        have := HSS.out
        cases hd : DD[k]? with
        | none => rw [hd] at this; cases this
        | some o => rw [hd] at this; simp at this; simp only [heldsAt, this])
      go_wp2_with fail
      refine (slot_any _ go (k * 4) _ ob.ss key 0 0 _ HCE.out HSL.out).mono ?_
      rintro e w2 ⟨rfl, hb2⟩
      replace c3 := keep hb2 c3
      have HB2 := hid hb2; clear hb2
      have hlt := firstI_lt (slotIs key (0, 0)) ob.ss
      have hge := firstI_ge (slotIs key (0, 0)) ob.ss
      have HFS := hid (first_find_slot (l := ob.ss) (key := key) (x := (0, 0)))
      have HBW := hid (HB0.out.trans ((HAT.out.below.trans (HB2.out.mono HAT.out.below.size)).mono HB0.out.size))
      by_cases hn : firstI (slotIs key (0, 0)) ob.ss < 0
      · have e1 : firstI (slotIs key (0, 0)) ob.ss = -1 := by omega
        have HN := hid hn
        clear hlt hge hn hvf
        go_wp2
        go_ret2
        refine ⟨HBW.out, .inr ⟨_, [], ?_, by simp, rfl, held_nil _⟩⟩
        rw [HOK.out, HFS.out, if_pos HN.out]
      · obtain ⟨i, hi⟩ := Int.eq_ofNat_of_zero_le (a := firstI (slotIs key (0, 0)) ob.ss) (by omega)
        have hil : i < ob.ss.length := by omega
        obtain ⟨gs, rfl⟩ := hvf i hil
        have HSV := hid (HSL.out.keep HB2.out)
        rw [hv] at HSV
        obtain ⟨k0, k1, k2, k3⟩ := isSlots.cells HSV.out rfl i hil
        have hhd := HSV.out.2 ob.ss[i] (List.getElem_mem _)
        obtain ⟨va', vc', hv', _, _, _⟩ := owns_form hhd
        rw [hv'] at k3 hhd
        have HHD := hid hhd; clear hhd
        have HNN := hid hn
        have HI := hid hi
        clear hlt hge hn hvf k0 k1 k2
        have HV := hid hv; clear hv
        go_wp2
        go_ret2
        refine ⟨HBW.out, .inr ⟨_, ob.ss[i].hs, ?_, HLE.out.2 _ (List.getElem_mem _), rfl, HHD.out⟩⟩
        rw [HOK.out, HFS.out, if_neg (by have := HNN.out; omega), HI.out]
        simp [hil, CSlot.p]

end Go.Proofs.YtnkpogjiiohapaaGreatDoor

/-! RefP: The contract of the reference's Digits: the number's decimal digits. -/
namespace Go.Proofs.YtnkpogjiiohapaaGreatDoor
open Go.RowKit

def digitText (d : Nat) : ByteArray := ⟨#[UInt8.ofNat (48 + d)]⟩
theorem digit_slice : ∀ d : Fin 10, (ByteArray.mk #[48, 49, 50, 51, 52, 53, 54, 55, 56, 57]).extract d.val (d.val + 1) = digitText d.val := by decide +kernel
theorem digit_run0 (W : World) : (Instr.slice 9 (.string ⟨#[48, 49, 50, 51, 52, 53, 54, 55, 56, 57]⟩) (some (.int .i64 0)) (some (.int .i64 1)) none).run Tryz.prog W = .ok (.string (digitText 0)) W := by kernel_rfl
theorem digit_run1 (W : World) : (Instr.slice 9 (.string ⟨#[48, 49, 50, 51, 52, 53, 54, 55, 56, 57]⟩) (some (.int .i64 1)) (some (.int .i64 2)) none).run Tryz.prog W = .ok (.string (digitText 1)) W := by kernel_rfl
theorem digit_run2 (W : World) : (Instr.slice 9 (.string ⟨#[48, 49, 50, 51, 52, 53, 54, 55, 56, 57]⟩) (some (.int .i64 2)) (some (.int .i64 3)) none).run Tryz.prog W = .ok (.string (digitText 2)) W := by kernel_rfl
theorem digit_run3 (W : World) : (Instr.slice 9 (.string ⟨#[48, 49, 50, 51, 52, 53, 54, 55, 56, 57]⟩) (some (.int .i64 3)) (some (.int .i64 4)) none).run Tryz.prog W = .ok (.string (digitText 3)) W := by kernel_rfl
theorem digit_run4 (W : World) : (Instr.slice 9 (.string ⟨#[48, 49, 50, 51, 52, 53, 54, 55, 56, 57]⟩) (some (.int .i64 4)) (some (.int .i64 5)) none).run Tryz.prog W = .ok (.string (digitText 4)) W := by kernel_rfl
theorem digit_run5 (W : World) : (Instr.slice 9 (.string ⟨#[48, 49, 50, 51, 52, 53, 54, 55, 56, 57]⟩) (some (.int .i64 5)) (some (.int .i64 6)) none).run Tryz.prog W = .ok (.string (digitText 5)) W := by kernel_rfl
theorem digit_run6 (W : World) : (Instr.slice 9 (.string ⟨#[48, 49, 50, 51, 52, 53, 54, 55, 56, 57]⟩) (some (.int .i64 6)) (some (.int .i64 7)) none).run Tryz.prog W = .ok (.string (digitText 6)) W := by kernel_rfl
theorem digit_run7 (W : World) : (Instr.slice 9 (.string ⟨#[48, 49, 50, 51, 52, 53, 54, 55, 56, 57]⟩) (some (.int .i64 7)) (some (.int .i64 8)) none).run Tryz.prog W = .ok (.string (digitText 7)) W := by kernel_rfl
theorem digit_run8 (W : World) : (Instr.slice 9 (.string ⟨#[48, 49, 50, 51, 52, 53, 54, 55, 56, 57]⟩) (some (.int .i64 8)) (some (.int .i64 9)) none).run Tryz.prog W = .ok (.string (digitText 8)) W := by kernel_rfl
theorem digit_run9 (W : World) : (Instr.slice 9 (.string ⟨#[48, 49, 50, 51, 52, 53, 54, 55, 56, 57]⟩) (some (.int .i64 9)) (some (.int .i64 10)) none).run Tryz.prog W = .ok (.string (digitText 9)) W := by kernel_rfl
theorem digit_run (d : Nat) (h : d < 10) (W : World) : (Instr.slice 9 (.string ⟨#[48, 49, 50, 51, 52, 53, 54, 55, 56, 57]⟩) (some (.int .i64 (d : Int))) (some (.int .i64 ((d : Int) + 1))) none).run Tryz.prog W = .ok (.string (digitText d)) W := by
  have h' : d = 0 ∨ d = 1 ∨ d = 2 ∨ d = 3 ∨ d = 4 ∨ d = 5 ∨ d = 6 ∨ d = 7 ∨ d = 8 ∨ d = 9 := by omega
  rcases h' with rfl | rfl | rfl | rfl | rfl | rfl | rfl | rfl | rfl | rfl
  · exact digit_run0 W
  · exact digit_run1 W
  · exact digit_run2 W
  · exact digit_run3 W
  · exact digit_run4 W
  · exact digit_run5 W
  · exact digit_run6 W
  · exact digit_run7 W
  · exact digit_run8 W
  · exact digit_run9 W
theorem dec_big {q : Nat} (h : ¬ q < 10) : Lib.decDigits q = Lib.decDigits (q / 10) ++ [UInt8.ofNat (48 + q % 10)] := by rw [Lib.decDigits, dif_neg h]

theorem ba_eq (x : ByteArray) : x = ⟨x.data.toList.toArray⟩ := by cases x; simp
theorem ret_str {a b : ByteArray} (h : a = b) : Ending.returned (.string a) = .returned (.string b) := by rw [h]

def numText (n : Int) : ByteArray := ⟨(Lib.itoa n).toArray⟩

set_option maxRecDepth 1000000 in
set_option maxHeartbeats 800000 in
theorem digits_nat (n0 : Nat) (hn : n0 ≤ 9223372036854775807) (w : World) :
    Calls Tryz.prog 194 #[.int .i64 n0] w fun e w' => e = .returned (.string ⟨(Lib.decDigits n0).toArray⟩) ∧ w' = w := by
  have hlen : (Lib.decDigits n0).length ≤ 20 := by rw [Lib.decDigits_length]; exact Lib.nDigits_le20 n0 (by omega)
  have HL := hid hlen; clear hlen
  have hn1 : ¬ (n0 : Int) = -9223372036854775808 := by omega
  go_enter Tryz.func194, Tryz.ntmps194
  go_wp2
  go_loop [0, 3] (fun nn s => ∃ q : Nat, ∃ t : ByteArray, q ≤ n0 ∧ nn = .int .i64 q ∧ s = .string t ∧ Hid (Lib.decDigits n0 = Lib.decDigits q ++ t.data.toList)) (fun nn _ => (intOf nn).toNat)
  case atStart => exact ⟨n0, ⟨#[]⟩, Nat.le_refl _, rfl, rfl, by simp [Hid]⟩
  case round =>
    obtain ⟨q, t, hq, rfl, rfl, ht⟩ := hrel
    have hts : t.size ≤ 20 := by
      have e := congrArg List.length ht.out
      simp only [List.length_append] at e
      have h3 : t.data.toList.length = t.data.size := Array.length_toList
      have h1 := HL.out
      have h2 : t.data.size = t.size := rfl
      omega
    have hds := fun W => digit_run (q % 10) (by omega) W
    rw [show ((q % 10 : Nat) : Int) = (q : Int) % 10 by omega] at hds
    have hdz : (digitText (q % 10)).size = 1 := rfl
    have htl : (digitText (q % 10) ++ t).data.toList = UInt8.ofNat (48 + q % 10) :: t.data.toList := by
      rw [ByteArray.data_append]; simp [digitText]
    have HTL := hid htl; clear htl
    by_cases hq0 : q < 10
    · have hz : (q : Int) / 10 = 0 := by omega
      go_wp2
      go_ret
      refine ⟨ret_str ?_, rfl⟩
      have e := ht.out
      rw [Lib.decDigits_one hq0] at e
      have e2 := ba_eq (digitText (q % 10) ++ t)
      rw [e, e2, HTL.out, Nat.mod_eq_of_lt hq0]; rfl
    · have hz : ¬ (q : Int) / 10 = 0 := by omega
      go_wp2
      go_round
      case rel =>
        refine ⟨q / 10, _, by omega, by go_num, rfl, ?_⟩
        have e := ht.out
        rw [dec_big hq0] at e
        show _ = _
        rw [e, HTL.out]; simp
      case measure => simp [intOf]; omega


set_option maxRecDepth 1000000 in
set_option maxHeartbeats 800000 in
theorem digits_any (n : Int) (h0 : -9223372036854775808 ≤ n) (h1 : n ≤ 9223372036854775807) (w : World) :
    Calls Tryz.prog 194 #[.int .i64 n] w fun e w' => e = .returned (.string (numText n)) ∧ w' = w := by
  by_cases hneg : n < 0
  · by_cases hmin : n = -9223372036854775808
    · subst hmin
      go_enter Tryz.func194, Tryz.ntmps194
      go_wp2
      go_ret
      exact ⟨ret_str (by decide +kernel), rfl⟩
    · obtain ⟨k, hk⟩ := Int.eq_ofNat_of_zero_le (a := -n) (by omega)
      have hkl : k ≤ 9223372036854775807 := by omega
      have hlen : (Lib.decDigits k).length ≤ 20 := by rw [Lib.decDigits_length]; exact Lib.nDigits_le20 k (by omega)
      have hsz : (ByteArray.mk (Lib.decDigits k).toArray).size ≤ 20 := by show (Lib.decDigits k).toArray.size ≤ 20; simpa using hlen
      have HK := hid hk; clear hk
      have HD := hid (digits_nat k hkl)
      go_enter Tryz.func194, Tryz.ntmps194
      go_wp2_with (go_at_call 194; go_must (rw [HK.out]; refine (HD.out _).mono ?_; rintro e w' ⟨rfl, rfl⟩))
      go_ret
      refine ⟨ret_str ?_, rfl⟩
      have e : Lib.itoa n = 45 :: Lib.decDigits k := by
        unfold Lib.itoa; rw [if_pos hneg]; congr 2; have := HK.out; omega
      unfold numText; rw [e]
      apply ByteArray.ext
      simp
  · obtain ⟨k, hk⟩ := Int.eq_ofNat_of_zero_le (a := n) (by omega)
    subst hk
    refine (digits_nat k (by omega) w).mono fun e w' ⟨he, hw⟩ => ⟨?_, hw⟩
    rw [he]; unfold numText Lib.itoa; rw [if_neg (by omega)]; rfl

theorem numText_size (n : Int) (h0 : -9223372036854775808 ≤ n) (h1 : n ≤ 9223372036854775807) : (numText n).size ≤ 21 := by
  have := Lib.itoa_length_le n h0 h1
  show (Lib.itoa n).toArray.size ≤ 21
  simpa using this

end Go.Proofs.YtnkpogjiiohapaaGreatDoor

/-! RefQ: The contract of the reference's values (of a key or an element, as text), given Text's one level deeper. -/
namespace Go.Proofs.YtnkpogjiiohapaaGreatDoor
open Go.RowKit

def itemText (T : PId → ByteArray) (h : PHeld) : ByteArray := if idEq h.obj.1 h.obj.2 0 0 then numText h.num else T h.obj
def bar : ByteArray := ⟨#[124]⟩
def valsText (T : PId → ByteArray) : List PHeld → ByteArray
  | [] => ⟨#[]⟩
  | h :: r => r.foldl (fun s x => (s ++ bar) ++ itemText T x) (itemText T h)
theorem vals_snoc (T : PId → ByteArray) (l : List PHeld) (x : PHeld) (h : l ≠ []) : valsText T (l ++ [x]) = (valsText T l ++ bar) ++ itemText T x := by
  cases l with
  | nil => exact absurd rfl h
  | cons y l => simp [valsText, List.foldl_append]
theorem vals_one (T : PId → ByteArray) (x : PHeld) : valsText T [x] = itemText T x := rfl
theorem ba_size_append (a b : ByteArray) : (a ++ b).size = a.size + b.size := by
  show (a ++ b).data.size = _
  rw [ByteArray.data_append]; simp
theorem empty_append (x : ByteArray) : (⟨#[]⟩ : ByteArray) ++ x = x := by apply ByteArray.ext; simp
theorem vals_take_succ (T : PId → ByteArray) {hs : List PHeld} {k : Nat} (hk : k < hs.length) (h0 : 0 < k) : valsText T (hs.take (k + 1)) = (valsText T (hs.take k) ++ bar) ++ itemText T hs[k] := by
  rw [List.take_succ_eq_append_getElem hk]
  exact vals_snoc T _ _ (by intro e; have := congrArg List.length e; rw [List.length_take, List.length_nil] at this; omega)
theorem vals_mono (T : PId → ByteArray) (hs : List PHeld) (k : Nat) (hk : k < hs.length) : (valsText T (hs.take k)).size ≤ (valsText T (hs.take (k + 1))).size := by
  by_cases h0 : 0 < k
  · rw [vals_take_succ T hk h0, ba_size_append, ba_size_append]; omega
  · have : k = 0 := by omega
    subst this; show 0 ≤ _; omega
theorem vals_le (T : PId → ByteArray) (hs : List PHeld) : ∀ (j k : Nat), k + j = hs.length → (valsText T (hs.take k)).size ≤ (valsText T hs).size
  | 0, k, h => by rw [List.take_of_length_le (by omega)]; exact Nat.le_refl _
  | j + 1, k, h => Nat.le_trans (vals_mono T hs k (by omega)) (vals_le T hs j (k + 1) (by omega))
theorem item_le (T : PId → ByteArray) (hs : List PHeld) (k : Nat) (hk : k < hs.length) : (itemText T hs[k]).size ≤ (valsText T hs).size := by
  refine Nat.le_trans ?_ (vals_le T hs (hs.length - (k + 1)) (k + 1) (by omega))
  by_cases h0 : 0 < k
  · rw [vals_take_succ T hk h0, ba_size_append]; omega
  · have : k = 0 := by omega
    subst this
    rw [List.take_succ_eq_append_getElem hk]; exact Nat.le_refl _

def intOk (n : Int) : Prop := -9223372036854775808 ≤ n ∧ n ≤ 9223372036854775807

set_option maxRecDepth 1000000 in
set_option maxHeartbeats 1600000 in
theorem values_any (B t d : Nat) (vd : Value) (os : List CObj) (T : PId → ByteArray) (G : PId → Prop) (depth : Nat) (hdp : depth ≤ 4)
    (HT : ∀ (x : PId) (W : World), G x → isDoc B t W d vd os → Calls Tryz.prog 153 #[.pointer (some ⟨d, 0, none⟩), .agg #[.int .i64 x.1, .int .i64 x.2], .int .i64 ((depth : Int) + 1)] W fun e w' => e = .returned (.string (T x)) ∧ Below W.heap.size W w')
    (v : Value) (hs : List PHeld) (w : World) (hd : isDoc B t w d vd os) (h : isHelds w v hs) (hg : ∀ x ∈ hs, idEq x.obj.1 x.obj.2 0 0 = false → G x.obj) (hn : ∀ x ∈ hs, intOk x.num) (hsz : (valsText T hs).size ≤ 1125899906842624) :
    Calls Tryz.prog 177 #[.pointer (some ⟨d, 0, none⟩), v, .int .i64 depth] w fun e w' => e = .returned (.string (valsText T hs)) ∧ Below w.heap.size w w' := by
  obtain ⟨a, cap, rfl, hlc, hcm, hform⟩ := owns_form h
  unfold maxLen at hcm
  have HF := hid hform; clear hform
  have HH := hid h; clear h
  have HD := hid hd; clear hd
  have HTT := hid HT; clear HT
  have HG := hid hg; clear hg
  have HN := hid hn; clear hn
  go_enter Tryz.func177, Tryz.ntmps177
  go_wp2
  go_loopw [7, 8] (fun s i wr => ∃ k : Nat, k ≤ hs.length ∧ i = .int .i64 k ∧ s = .string (valsText T (hs.take k)) ∧ Below w.heap.size w wr) (fun _ i _ => hs.length - (intOf i).toNat)
  case atStart => exact ⟨0, Nat.zero_le _, rfl, rfl, Below.refl _ _⟩
  case round =>
    obtain ⟨k, hk, rfl, rfl, hbel⟩ := hrel
    have hvs := vals_le T hs (hs.length - k) k (by omega)
    by_cases hlt : k < hs.length
    · obtain ⟨g, rfl⟩ := HF.out k hlt
      obtain ⟨d0, d1, d2, d3, d4⟩ := isHelds.cells HH.out rfl k hlt
      replace d2 := keep hbel d2
      replace d3 := keep hbel d3
      replace d4 := keep hbel d4
      clear d0 d1
      have hit := item_le T hs k hlt
      have heq := run_idEq
      have hin := HN.out hs[k] (List.getElem_mem _)
      have hdg := hid (digits_any hs[k].num hin.1 hin.2)
      have hbz : bar.size = 1 := rfl
      have HSUC := hid (fun h0 => vals_take_succ T hlt h0)
      have HONE := hid (show k = 0 → valsText T (hs.take (k + 1)) = itemText T hs[k] from fun e => by subst e; rw [List.take_succ_eq_append_getElem hlt]; rfl)
      have hbe : ((⟨#[124]⟩ : ByteArray)) = bar := rfl
      generalize hS : valsText T (hs.take k) = S at *
      have HS := hid hS; clear hS
      have HE := hid (show k = 0 → ∀ x, S ++ x = x from fun e x => by rw [← HS.out, e]; exact empty_append x)
      have HBEL := hid hbel; clear hbel
      have hSb : (S ++ bar).size = S.size + 1 := ba_size_append _ _
      cases hq : idEq hs[k].obj.1 hs[k].obj.2 0 0
      · have HGx := HG.out hs[k] (List.getElem_mem _) hq
        have HIT := hid (show itemText T hs[k] = T hs[k].obj by unfold itemText; rw [hq]; rfl)
        have hTs : (T hs[k].obj).size ≤ 1125899906842624 := by rw [← HIT.out]; omega
        have HTX := hid (fun W => HTT.out hs[k].obj W HGx)
        by_cases h0 : 0 < k
        · go_wp2_with (go_at_call 153; go_must (refine (HTX.out _ (HD.out.keep HBEL.out)).mono ?_; rintro e w2 ⟨rfl, hb2⟩; have HB2 := hid hb2; clear hb2))
          go_roundw
          case rel => exact ⟨k + 1, by omega, by go_num, by rw [HSUC.out h0, HIT.out], HBEL.out.trans (HB2.out.mono HBEL.out.size)⟩
          case measure => simp [intOf]; omega
        · go_wp2_with (go_at_call 153; go_must (refine (HTX.out _ (HD.out.keep HBEL.out)).mono ?_; rintro e w2 ⟨rfl, hb2⟩; have HB2 := hid hb2; clear hb2))
          go_roundw
          case rel => exact ⟨k + 1, by omega, by go_num, by rw [HONE.out (by omega), HIT.out, HE.out (by omega)], HBEL.out.trans (HB2.out.mono HBEL.out.size)⟩
          case measure => simp [intOf]; omega
      · have HIT := hid (show itemText T hs[k] = numText hs[k].num by unfold itemText; rw [hq]; rfl)
        have hTs := numText_size hs[k].num hin.1 hin.2
        by_cases h0 : 0 < k
        · go_wp2_with (go_at_call 194; go_must (refine (hdg.out _).mono ?_; rintro e w2 ⟨rfl, hw2⟩; subst hw2))
          go_roundw
          case rel => exact ⟨k + 1, by omega, by go_num, by rw [HSUC.out h0, HIT.out], HBEL.out⟩
          case measure => simp [intOf]; omega
        · go_wp2_with (go_at_call 194; go_must (refine (hdg.out _).mono ?_; rintro e w2 ⟨rfl, hw2⟩; subst hw2))
          go_roundw
          case rel => exact ⟨k + 1, by omega, by go_num, by rw [HONE.out (by omega), HIT.out, HE.out (by omega)], HBEL.out⟩
          case measure => simp [intOf]; omega
    · go_wp2
      go_ret
      refine ⟨ret_str ?_, hbel⟩
      rw [List.take_of_length_le (by omega)]

end Go.Proofs.YtnkpogjiiohapaaGreatDoor

/-! RefR: Text of an object: plain functions, and facts on going through keys in their order. -/
namespace Go.Proofs.YtnkpogjiiohapaaGreatDoor
open Go.RowKit

def comma : ByteArray := ⟨#[44]⟩
def colon : ByteArray := ⟨#[58]⟩
/-- One slot more. -/
def objStep (T : PId → ByteArray) (list : Bool) (acc : ByteArray) (s : PSlot) : ByteArray :=
  if s.hs.length = 0 then acc
  else
    let a := if acc.toList.isEmpty then acc else acc ++ comma
    (if list then a else (a ++ s.key) ++ colon) ++ valsText T s.hs
def objBody (T : PId → ByteArray) (list : Bool) (M : List PSlot) : ByteArray := M.foldl (objStep T list) ⟨#[]⟩
def objText (T : PId → ByteArray) (list : Bool) (M : List PSlot) : ByteArray :=
  if list then ((⟨#[91]⟩ : ByteArray) ++ objBody T list M) ++ ⟨#[93]⟩ else ((⟨#[123]⟩ : ByteArray) ++ objBody T list M) ++ ⟨#[125]⟩

theorem body_snoc (T : PId → ByteArray) (list : Bool) {M : List PSlot} {n : Nat} (h : n < M.length) : objBody T list (M.take (n + 1)) = objStep T list (objBody T list (M.take n)) M[n] := by
  unfold objBody; rw [List.take_succ_eq_append_getElem h, List.foldl_append]; rfl
theorem step_ge (T : PId → ByteArray) (list : Bool) (acc : ByteArray) (s : PSlot) : acc.size ≤ (objStep T list acc s).size := by
  unfold objStep
  split
  · exact Nat.le_refl _
  · split <;> split <;> simp only [ba_size_append] <;> omega
theorem body_le (T : PId → ByteArray) (list : Bool) (M : List PSlot) : ∀ (j k : Nat), k + j = M.length → (objBody T list (M.take k)).size ≤ (objBody T list M).size
  | 0, k, h => by rw [List.take_of_length_le (by omega)]; exact Nat.le_refl _
  | j + 1, k, h => by
    refine Nat.le_trans ?_ (body_le T list M j (k + 1) (by omega))
    rw [body_snoc T list (by omega)]; exact step_ge T list _ _
theorem step_vals (T : PId → ByteArray) (list : Bool) (acc : ByteArray) (s : PSlot) (h : ¬ s.hs.length = 0) : (valsText T s.hs).size ≤ (objStep T list acc s).size ∧ (list = false → acc.size + s.key.size + 1 ≤ (objStep T list acc s).size) := by
  unfold objStep
  rw [if_neg h]
  constructor
  · simp only [ba_size_append]; omega
  · intro hl
    rw [hl]
    have : colon.size = 1 := rfl
    simp only [ba_size_append, Bool.false_eq_true, if_false]
    split <;> (try simp only [ba_size_append]) <;> omega
theorem vals_le_body (T : PId → ByteArray) (list : Bool) (M : List PSlot) (n : Nat) (hn : n < M.length) : (valsText T M[n].hs).size ≤ (objBody T list M).size ∧ (list = false → ¬ M[n].hs.length = 0 → M[n].key.size ≤ (objBody T list M).size) := by
  have h1 := body_le T list M (M.length - (n + 1)) (n + 1) (by omega)
  rw [body_snoc T list hn] at h1
  by_cases h : M[n].hs.length = 0
  · have : M[n].hs = [] := List.eq_nil_of_length_eq_zero h
    rw [this]; exact ⟨by show 0 ≤ _; omega, fun _ hx => absurd rfl hx⟩
  · have h2 := step_vals T list (objBody T list (M.take n)) M[n] h
    exact ⟨by omega, fun hl _ => by have := h2.2 hl; omega⟩

def KSorted (M : List CSlot) : Prop := M.Pairwise fun a b => keyLess a.key b.key = true
theorem keyLess_irrefl (a : ByteArray) : keyLess a a = false := less_irrefl _
theorem keyLess_trans {a b c : ByteArray} (h1 : keyLess a b = true) (h2 : keyLess b c = true) : keyLess a c = true := less_trans _ _ _ h1 h2
def lastKey (M : List CSlot) (n : Nat) : ByteArray := if h : 0 < n ∧ n ≤ M.length then (M[n - 1]'(by omega)).key else ⟨#[]⟩
theorem lastKey_zero (M : List CSlot) : lastKey M 0 = ⟨#[]⟩ := by unfold lastKey; rw [dif_neg (by omega)]
theorem lastKey_succ (M : List CSlot) {n : Nat} (h : n < M.length) : lastKey M (n + 1) = M[n].key := by unfold lastKey; rw [dif_pos ⟨by omega, by omega⟩]; rfl

theorem after_next {l M : List CSlot} (hp : M.Perm l) (hs : KSorted M) (hne : ∀ s ∈ l, keyLess ⟨#[]⟩ s.key = true) {n : Nat} (hn : n < l.length) {r : Int} (h : AfterSpec (lastKey M n) l r) :
    ∃ i, ∃ hi : i < l.length, r = (i : Int) ∧ l[i] = M[n]'(by rw [hp.length_eq]; exact hn) := by
  have hnM : n < M.length := by rw [hp.length_eq]; exact hn
  have hlt : ∀ i j (hi : i < M.length) (hj : j < M.length), i < j → keyLess M[i].key M[j].key = true := fun i j hi hj hij => List.pairwise_iff_getElem.1 hs i j hi hj hij
  obtain ⟨j, hj, ej⟩ : ∃ j, ∃ hj : j < l.length, l[j] = M[n] := by
    obtain ⟨j, hj, e⟩ := List.mem_iff_getElem.1 (hp.mem_iff.1 (List.getElem_mem (l := M) hnM))
    exact ⟨j, hj, e⟩
  have hlast : keyLess (lastKey M n) l[j].key = true := by
    rw [ej]
    cases n with
    | zero => rw [lastKey_zero]; rw [← ej]; exact hne _ (List.getElem_mem _)
    | succ n => rw [lastKey_succ M (by omega)]; exact hlt n (n + 1) (by omega) hnM (by omega)
  rcases h with ⟨_, h2⟩ | ⟨i, hi, h1, h2, h3⟩
  · rw [h2 j hj] at hlast; cases hlast
  · refine ⟨i, hi, h1, ?_⟩
    obtain ⟨q, hq, eq⟩ := List.mem_iff_getElem.1 (hp.mem_iff.2 (List.getElem_mem (l := l) hi))
    by_cases hqn : q = n
    · subst hqn; exact eq.symm
    · by_cases hlt' : q < n
      · obtain ⟨n', rfl⟩ : ∃ n', n = n' + 1 := ⟨n - 1, by omega⟩
        rw [lastKey_succ M (by omega), ← eq] at h2
        by_cases e : q = n'
        · subst e; rw [keyLess_irrefl] at h2; cases h2
        · have := keyLess_trans h2 (hlt q n' hq (by omega) (by omega))
          rw [keyLess_irrefl] at this; cases this
      · have := h3 j hj hlast
        rw [ej, ← eq, hlt n q hnM hq (by omega)] at this; cases this

end Go.Proofs.YtnkpogjiiohapaaGreatDoor
