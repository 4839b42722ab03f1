/- Our own text (GGhB, GRoomD, GRoomE, GGhC). -/
import Derived.Test.YtnkpogjiiohapaaGreatDoorA30
set_option linter.unusedSimpArgs false
set_option linter.unusedVariables false

/-! GGhB: Plain: a copy hears of operations that were made. -/
namespace Go.Proofs.YtnkpogjiiohapaaGreatDoor

/-- Those that wait were made, each under its place. -/
def EarlyOk (N : Nat) (M : Nat → List MOp) (m : List (PId × MOp)) : Prop := ∀ p ∈ m, isMade N M p.2 ∧ p.1 = plOf p.2
theorem EarlyOk.all {N : Nat} {M : Nat → List MOp} {has : Nat → Int} {m : List (PId × MOp)} {xs : List MOp} (h : EarlyOk N M m) (hx : ∀ x ∈ xs, isMade N M x) : EarlyOk N M (earlyAll has m xs) := fun p hp => by
  rcases early_mem hp with h1 | ⟨x, h1, rfl⟩
  · exact h p h1
  · exact ⟨hx x h1, rfl⟩

section
theorem MadeOk.nth {N : Nat} {M : Nat → List MOp} (hM : MadeOk N M) {x : MOp} (hx : isMade N M x) : 1 ≤ x.op.nth ∧ x.op.nth ≤ 60 ∧ 0 ≤ x.op.id.2 ∧ x.op.id.2 < N := by
  obtain ⟨c, hc, hm⟩ := hx
  obtain ⟨i, hi, e, a1, a2, _⟩ := hM.at hc hm
  have := hM.len c hc
  omega
theorem MadeOk.atPl {N : Nat} {M : Nat → List MOp} (hM : MadeOk N M) {x : MOp} (hx : isMade N M x) {c k : Nat} (h : plOf x = ((c : Int), (k : Int) + 1)) : ∃ hk : k < (M c).length, x = (M c)[k] := by
  obtain ⟨d, hd, hm⟩ := hx
  obtain ⟨i, hi, e, a1, a2, _⟩ := hM.at hd hm
  unfold plOf at h
  injection h with h1 h2
  have hcd : d = c := by omega
  subst hcd
  have hik : i = k := by omega
  subst hik
  exact ⟨hi, e⟩
theorem run_made {N : Nat} {M : Nat → List MOp} (hM : MadeOk N M) {m : List (PId × MOp)} (hE : EarlyOk N M m) (c : Nat) {n : Int} (hn : 0 ≤ n) (f : Nat) : runOf m (c : Int) n f = ((M c).drop n.toNat).take (runOf m (c : Int) n f).length := by
  have key : ∀ j (hj : j < (runOf m (c : Int) n f).length), ∃ hk : n.toNat + j < (M c).length, (runOf m (c : Int) n f)[j] = (M c)[n.toNat + j] := fun j hj => by
    have hg := look_mem (run_get m c f n j hj)
    obtain ⟨h1, h2⟩ := hE _ hg
    exact hM.atPl h1 (c := c) (k := n.toNat + j) (by rw [← h2]; show ((c : Int), n + 1 + (j : Int)) = _; congr 1; omega)
  apply List.ext_getElem
  · rw [List.length_take, List.length_drop]
    rcases Nat.eq_zero_or_pos (runOf m (c : Int) n f).length with h0 | h0
    · omega
    · obtain ⟨hk, _⟩ := key ((runOf m (c : Int) n f).length - 1) (by omega)
      omega
  · intro j h1 h2
    obtain ⟨hk, e⟩ := key j h1
    rw [e, List.getElem_take, List.getElem_drop]
end

theorem hasAll_app (has : Nat → Int) (a b : List MOp) : hasAll has (a ++ b) = hasAll (hasAll has a) b := by
  unfold hasAll
  rw [List.foldl_append]
theorem has_run {c : Nat} : ∀ (l : List MOp) (h : Nat → Int) (n : Int), h c = n → (∀ j (hj : j < l.length), l[j].op.id.2 = (c : Int) ∧ l[j].op.nth = n + 1 + (j : Int)) → hasAll h l = fun i => if i = c then n + (l.length : Int) else h i
  | [], h, n, hn, _ => by
    funext i
    by_cases hi : i = c
    · subst hi; simp [hasAll, hn]
    · simp [hasAll, hi]
  | x :: l, h, n, hn, hl => by
    have h0 := hl 0 (by simp)
    simp only [List.getElem_cons_zero] at h0
    have hx : x.op.id.2.toNat = c := by omega
    have e : hasAll h (x :: l) = hasAll (upd h c (n + 1)) l := by
      show hasAll (upd h x.op.id.2.toNat x.op.nth) l = _
      rw [hx, h0.2]
      congr 2
      omega
    rw [e, has_run (c := c) l (upd h c (n + 1)) (n + 1) (by simp [upd]) fun j hj => by
      have := hl (j + 1) (by simpa using hj)
      simp only [List.getElem_cons_succ] at this
      exact ⟨this.1, by rw [this.2]; push_cast; omega⟩]
    funext i
    by_cases hi : i = c
    · simp [hi]; omega
    · simp [hi, upd]

/-- How many of each a copy has when it has heard. -/
def heardTo (m : List (PId × MOp)) (has : Nat → Int) (n : Nat) (c : Nat) : Int := if c < n then has c + ((runOf m (c : Int) (has c) 61).length : Int) else has c

theorem heard_has {N : Nat} {M : Nat → List MOp} {has : Nat → Int} {m : List (PId × MOp)} (hE : EarlyOk N M m) : ∀ n, n ≤ N → hasAll has (readyTo m has n) = heardTo m has n
  | 0, _ => by
    funext c
    simp [readyTo, hasAll, heardTo]
  | n + 1, hn => by
    rw [readyTo_succ, hasAll_app, heard_has hE n (by omega)]
    rw [has_run (c := n) (runOf m (n : Int) (has n) 61) (heardTo m has n) (has n) (by simp [heardTo]) fun j hj => by
      have hg := look_mem (run_get m n 61 (has n) j hj)
      obtain ⟨h1, h2⟩ := hE _ hg
      unfold plOf at h2
      injection h2 with h3 h4
      exact ⟨h3.symm, h4.symm⟩]
    funext i
    unfold heardTo
    by_cases hi : i = n
    · subst hi; simp
    · by_cases hl : i < n
      · simp [hi, hl, Nat.lt_succ_of_lt hl]
      · have : ¬ i < n + 1 := by omega
        simp [hi, hl, this]

section
theorem heard_take {N : Nat} {M : Nat → List MOp} (hM : MadeOk N M) {gt : Int} {has : Nat → Int} {ops : List MOp} {early : List (PId × MOp)} (h : CopyOk N M gt has ops early) {m : List (PId × MOp)} (hE : EarlyOk N M m) {c : Nat} (hc : c < N) {n : Nat} : (M c).take (heardTo m has n c).toNat = if c < n then (M c).take (has c).toNat ++ runOf m (c : Int) (has c) 61 else (M c).take (has c).toNat := by
  unfold heardTo
  have h0 := (h.hasL c hc).1
  by_cases hl : c < n
  · rw [if_pos hl, if_pos hl]
    have e : (has c + ((runOf m (c : Int) (has c) 61).length : Int)).toNat = (has c).toNat + (runOf m (c : Int) (has c) 61).length := by omega
    rw [e, List.take_add, ← run_made hM hE c h0 61]
  · rw [if_neg hl, if_neg hl]
theorem heard_perm {N : Nat} {M : Nat → List MOp} (hM : MadeOk N M) {gt : Int} {has : Nat → Int} {ops : List MOp} {early : List (PId × MOp)} (h : CopyOk N M gt has ops early) {m : List (PId × MOp)} (hE : EarlyOk N M m) : ∀ n, n ≤ N → (firsts M (heardTo m has N) n).Perm (readyTo m has n ++ firsts M has n)
  | 0, _ => by simp [firsts, readyTo]
  | n + 1, hn => by
    have hp := heard_perm hM h hE n (by omega)
    rw [firsts_succ, firsts_succ, readyTo_succ, heard_take hM h hE (by omega), if_pos (by omega)]
    refine (hp.append_right _).trans ?_
    simp only [List.append_assoc]
    refine List.Perm.append_left _ ?_
    rw [← List.append_assoc]
    exact List.perm_append_comm
theorem heard_in {N : Nat} {M : Nat → List MOp} (hM : MadeOk N M) {gt : Int} {has : Nat → Int} {ops : List MOp} {early : List (PId × MOp)} (h : CopyOk N M gt has ops early) {m : List (PId × MOp)} (hE : EarlyOk N M m) {c : Nat} (hc : c < N) : 0 ≤ heardTo m has N c ∧ heardTo m has N c ≤ (M c).length ∧ has c ≤ heardTo m has N c := by
  have h0 := h.hasL c hc
  have hr := congrArg List.length (run_made hM hE c h0.1 61)
  rw [List.length_take, List.length_drop] at hr
  unfold heardTo
  rw [if_pos hc]
  omega
end
theorem gtAll_le : ∀ (xs : List MOp) (gt : Int), gt ≤ gtAll gt xs ∧ ∀ x ∈ xs, x.op.id.1 ≤ gtAll gt xs
  | [], gt => ⟨Int.le_refl _, fun x hx => by cases hx⟩
  | y :: xs, gt => by
    obtain ⟨h1, h2⟩ := gtAll_le xs (max gt y.op.id.1)
    have e : gtAll gt (y :: xs) = gtAll (max gt y.op.id.1) xs := rfl
    rw [e]
    refine ⟨by omega, fun x hx => ?_⟩
    rcases List.mem_cons.1 hx with rfl | hx
    · omega
    · exact h2 x hx
theorem gtAll_bound {g : Int} : ∀ (xs : List MOp) (gt : Int), gt ≤ g → (∀ x ∈ xs, x.op.id.1 ≤ g) → gtAll gt xs ≤ g
  | [], gt, h, _ => h
  | y :: xs, gt, h, hx => gtAll_bound xs (max gt y.op.id.1) (by have := hx y List.mem_cons_self; omega) fun x hx' => hx x (List.mem_cons_of_mem _ hx')

/-- WHAT IT HAS WHEN IT HAS HEARD. -/
theorem CopyOk.heard {N : Nat} {M : Nat → List MOp} (hM : MadeOk N M) {gt : Int} {has : Nat → Int} {ops : List MOp} {early : List (PId × MOp)} (h : CopyOk N M gt has ops early) {m m' : List (PId × MOp)} (hE : EarlyOk N M m) (hm : ∀ p ∈ m', p ∈ m) (hk : (m'.map (·.1)).Nodup) :
    CopyOk N M (gtAll gt (readyTo m has N)) (hasAll has (readyTo m has N)) (insAll ops (readyTo m has N)) m' := by
  rw [heard_has hE N (Nat.le_refl _)]
  refine ⟨fun c hc => ⟨(heard_in hM h hE hc).1, (heard_in hM h hE hc).2.1⟩, ?_, fun o ho => ?_, fun p hp => hE p (hm p hp), hk⟩
  · exact (insAll_perm _ _).trans ((List.Perm.append_left _ h.perm).trans (heard_perm hM h hE N (Nat.le_refl _)).symm)
  · obtain ⟨h1, h2⟩ := gtAll_le (readyTo m has N) gt
    rcases List.mem_append.1 ((insAll_perm _ _).mem_iff.1 ho) with ho | ho
    · exact h2 o ho
    · have := h.gtL o ho; omega

end Go.Proofs.YtnkpogjiiohapaaGreatDoor

/-! GRoomD: The program's room in general: Deliver. -/
namespace Go.Proofs.YtnkpogjiiohapaaGreatDoor
open Go.RowKit
attribute [local go_sem ↓] Go.wp_at_zero Go.wp_at_succ

/-- Messages are sent, as far as there is room. -/
def sentM : List Msg → List Msg → List Msg
  | l, [] => l
  | l, m :: ms => sentM (if l.length = 12 then l else l ++ [m]) ms
theorem All2.sent {R : Msg → Value → Prop} : ∀ {bs : List Msg} {us : List Value} {ms : List Msg} {vs : List Value}, All2 R ms vs → All2 R bs us → All2 R (sentM ms bs) (sentTo false vs us)
  | [], [], _, _, h, _ => h
  | [], _ :: _, _, _, _, h2 => h2.elim
  | _ :: _, [], _, _, _, h2 => h2.elim
  | b :: bs, u :: us, ms, vs, h, h2 => by
    unfold sentM sentTo
    have hl := h.len
    by_cases e : ms.length = 12
    · have e' : vs.length = 12 := by omega
      simp only [e, e', if_true, or_true]
      exact All2.sent h h2.2
    · have e' : ¬ vs.length = 12 := by omega
      simp only [e, e', if_false, Bool.false_eq_true, or_false]
      exact All2.sent (All2.snoc h2.1 h) h2.2
theorem All2.maps {α β γ : Type} {R : α → β → Prop} {R' : γ → β → Prop} {f : α → γ} : ∀ {l : List α} {m : List β}, (∀ a ∈ l, ∀ b, R a b → R' (f a) b) → All2 R l m → All2 R' (l.map f) m
  | [], [], _, _ => trivial
  | [], _ :: _, _, h2 => h2.elim
  | _ :: _, [], _, h2 => h2.elim
  | a :: l, b :: m, h, h2 => ⟨h a List.mem_cons_self b h2.1, All2.maps (fun a ha => h a (List.mem_cons_of_mem _ ha)) h2.2⟩
theorem upd_self {α : Type} (f : Nat → α) (c : Nat) : upd f c (f c) = f := by
  funext i
  unfold upd
  split
  · rename_i e; rw [e]
  · rfl
def copyS (s : RoomS) (c : Nat) (gt : Int) (has : Nat → Int) (ops : List MOp) (early : List (PId × MOp)) : RoomS := { s with gt := upd s.gt c gt, has := upd s.has c has, ops := upd s.ops c ops, early := upd s.early c early }
theorem copyS_self (s : RoomS) (c : Nat) : copyS s c (s.gt c) (s.has c) (s.ops c) (s.early c) = s := by
  unfold copyS
  rw [upd_self, upd_self, upd_self, upd_self]

set_option maxRecDepth 1000000 in
set_option maxHeartbeats 400000 in
theorem send_nil {w : World} (gl c : Nat) : Calls Tryz.prog 53 #[.pointer (some ⟨gl, 0, none⟩), .slice none 0 c] w fun e w' => e = .returned (.tuple #[]) ∧ w' = w := by
  go_enter Tryz.func53, Tryz.ntmps53
  go_wp2
  refine wp_loop_rounds 1 ?_
  rw [rounds_succ]
  go_wp2
  go_end0
  exact ⟨rfl, rfl⟩
/-- Messages that lie in a row are sent. -/
theorem send_row {w : World} {B gl gc : Nat} {l : List Value} {s r : Nat} (h : isLink w gl gc l false s r) {v : Value} {vs : List Value} {n : Nat} (hv : w.ownsRow B 147 1 v n vs) (hn : n ≤ 1000) :
    Calls Tryz.prog 53 #[.pointer (some ⟨gl, 0, none⟩), v] w fun e w' => e = .returned (.tuple #[]) ∧ ∃ s', isLink w' gl gc (sentTo false l vs) false s' r ∧ Turned (fun k => k = gc) w w' := by
  have hlen : vs.length = n := by have := hv.1; omega
  rcases hv.2 with ⟨rfl, h0⟩ | ⟨g, cap, cur, rfl, hb, hg, h1, h2, h3, h4⟩
  · have hv0 : vs = [] := List.eq_nil_of_length_eq_zero (by omega)
    subst hv0
    refine (send_nil gl 0).mono ?_
    rintro e w' ⟨rfl, rfl⟩
    exact ⟨rfl, s, h, Turned.of_below (Below.refl _ _)⟩
  · refine (send_q (off := 0) (cap := cap) (n := n) (g := g) h (fun j => vs.getD j .nilIface) hn (fun j hj => by
      have := World.ownsRow.cellAt hv j (by omega)
      have hj' : j < vs.length := by omega
      rw [Nat.zero_add, this]
      simp [List.getD, hj'])).mono ?_
    rintro e w' ⟨rfl, s', hl, ht⟩
    have e : (List.range n).map (fun j => vs.getD j .nilIface) = vs := by
      apply List.ext_getElem
      · simp [hlen]
      · intro i h1 h2
        simp [List.getD, h2]
    rw [e] at hl
    exact ⟨rfl, s', hl, ht⟩

theorem blk1' {w : World} {g : Nat} {a : Value} {t : TypeId} {f : Nat × Nat} (h : w.heap[g]? = some (.cells #[a] t f)) : w.cell? ⟨g, 0, none⟩ = some a := by simp [World.cell?, h]

theorem nilQ (a : Option Addr) (n c : Nat) (W : World) : (nilAhead 501 115 (.slice a n c) "quire/quire.arrive").run Tryz.prog W = .ok (some false) W := by kernel_rfl
theorem nilB (a : Option Addr) (n c : Nat) (W : World) : (nilAhead 501 382 (.slice a n c) "quire/quire.arrive").run Tryz.prog W = .ok (some false) W := by kernel_rfl

set_option maxRecDepth 1000000 in
set_option maxHeartbeats 2000000 in
/-- A QUESTION ARRIVES IN THE ROOM. -/
theorem arriveQ_any {w : World} {r : Nat} {F I : Nat → Prop} {N sp : Nat} {s : RoomS} {x : RoomX} (h : RoomM w r F I N sp s x) {c d : Nat} (hc : c < N) (hd : d < N) (hcd : c ≠ d) {known : Nat → Int} {gk ck : Nat} (hkn : isKn w gk ck N known) (hgI : I gk) (hhas : ∀ i, i < N → 0 ≤ known i ∧ s.has d i ≤ 60) (hk60 : ∀ i, i < N → known i ≤ 60) (hcp : ∀ x ∈ s.ops d, 0 ≤ x.op.id.2 ∧ x.op.id.2 < N) (hnd : ((s.ops d).map plOf).Nodup) :
    Calls Tryz.prog 75 #[.pointer (some ⟨r, 0, none⟩), .iface 115 (.slice (some ⟨gk, 0, none⟩) N ck), .int .i64 c, .int .i64 d] w fun e w' => (∃ v, e = .returned v) ∧ ∃ ls, ls.Perm ((s.ops d).filter (isBey known)) ∧ AscP ls ∧ RoomTo r N sp F I w w' (msTo s d c (sentM (s.ms d c) ((batsOf ls known (s.has d) N).map (batOf ls)))) := by
  obtain ⟨gr, hgr⟩ := h.nk d c hd hc (Ne.symm hcd)
  have HQA := hid (fun W (hb : Below w.heap.size w W) => qArrive_any ((h.keep hb).reps d hd) (c : Int) hgr (hkn.keep hb) hgI hhas hk60 hcp hnd)
  obtain ⟨c0, c2⟩ := blk2 h.blk
  have c1 := h.cell hd
  have hcap := h.cap
  have hN := h.hN
  unfold maxLen at hcap
  have hd0 : (0 : Int) ≤ (d : Int) := Int.natCast_nonneg _
  have hd1 : (d : Int) < (N : Int) := by omega
  have HH := hid h
  clear h hkn hhas hk60 hcp hnd hgI hgr
  go_enter Tryz.func75, Tryz.ntmps75
  have hnil := nilQ
  have HCH := hid (fun x hx => (HH.out.reps d hd).hist.chg x hx)
  have HGO := hid (fun (w1 : World) (q1 : RQ) (hM1 : RepM w1 (x.rbs d) (x.Fc d) I N sp d (s.gt d) (s.has d) (s.ops d) (s.early d) q1) (e0 : q1.D0 = (x.q d).D0) (en : q1.ns = (x.q d).ns) (hT1 : Turned (fun k => k = gr) w w1) (hF1 : x.Fc d gr) => show ∃ x1, RoomM w1 r F I N sp s x1 ∧ Keeps F F w w1 ∧ x1.gl = x.gl ∧ x1.gc = x.gc ∧ x1.vals = x.vals by
    have hK : Keeps (x.Fc d) (x.Fc d) w w1 := ⟨hT1.os, hT1.tape, hT1.output, hT1.size, fun k hk hF => hT1.other k hk fun e => hF (e ▸ hF1), fun k hk => .inl hk⟩
    obtain ⟨x1, hR1, hK1, _, e2, e3, e4, _⟩ := HH.out.copyTo hd hM1 hK (fun _ y => y) (fun _ y => .inl y) e0 en
    have hFF : (fun k => F k ∨ x.Fc d k) = F := by
      funext k
      exact propext ⟨fun hk => hk.elim id (HH.out.sub d hd k), .inl⟩
    rw [show ({ s with gt := upd s.gt d (s.gt d), has := upd s.has d (s.has d), ops := upd s.ops d (s.ops d), early := upd s.early d (s.early d) } : RoomS) = s from copyS_self s d, hFF] at hR1
    rw [hFF] at hK1
    exact ⟨x1, hR1, hK1, e2, e3, e4⟩)
  go_wp2_with fail
  go_region_with (first | (go_at_call 273; refine (HQA.out _ (Below.refl _ _).drew).mono ?_; rintro e w1 ⟨v, vs, ls, av, cv, rfl, hp, ha, hao, hM1, hT1, hF1⟩; obtain ⟨x1, hR1, hK1, eg, ec, ev⟩ := HGO.out w1 _ hM1 rfl rfl ⟨hT1.os, hT1.tape, hT1.output, hT1.size, hT1.other⟩ hF1; have HX := hid (And.intro hp (And.intro ha (And.intro hao (And.intro hR1 (And.intro hK1 (And.intro eg (And.intro ec ev))))))); have hl1 := hR1.find hd hc (Ne.symm hcd) false w1 (Below.refl _ _); simp only [Bool.false_eq_true, if_false] at hl1; replace c2 := (blk2 hR1.blk).2; have HSD := hid (send_row (hR1.link d c hd hc (Ne.symm hcd)) hao.2.1 (Nat.le_trans (Nat.le_of_eq (ans_len _ _ _)) (by rw [List.length_range]; omega))); clear hp ha hao hM1 hT1 hF1 hR1 hK1 eg ec ev))
  all_goals clear c0 c1
  all_goals go_wp2_with fail
  all_goals refine HSD.out.mono ?_
  all_goals rintro e w2 ⟨rfl, sn, hl2, hT2⟩
  all_goals (have HY := hid (And.intro hl2 hT2); clear hl2 hT2)
  all_goals go_wp2
  all_goals go_end0
  all_goals
    obtain ⟨hp, ha, hao, hR1, hK1, eg, ec, ev⟩ := HX.out
    obtain ⟨hl2, hT2⟩ := HY.out
    have hblk : ∀ k, (Value.slice av ls.length cv).ownBlock = some k → w.heap.size ≤ k ∧ k < w1.heap.size := fun k hk => World.ownsRow.lt hao.1 k hk
    have hI' := hR1.moreI (I' := fun k => I k ∨ (Value.slice av ls.length cv).ownBlock = some k) (fun k hk => .inl hk) (fun k hk => hk.elim (hR1.iI k) fun h2 => (hblk k h2).2) (fun k hk hF => hk.elim (fun h1 => HH.out.nI k h1 hF) fun h2 => by have := (hblk k h2).1; have := HH.out.lt k hF; omega)
    have hlen : ls.length ≤ 300 := by
      have h1 := hp.length_eq
      have h2 := List.length_filter_le (isBey known) (s.ops d)
      have h3 := (HH.out.reps d hd).hist.len
      omega
    have hchg : ∀ y ∈ ls, isChgI w1 (fun k => I k ∨ (Value.slice av ls.length cv).ownBlock = some k) (.iface y.t y.v) y.op.chg := fun y hy => (HCH.out y (List.mem_filter.1 (hp.mem_iff.1 hy)).1).keepI (fun k hk => hK1.other k (HH.out.iI k hk) (HH.out.nI k hk)) (fun k hk => .inl hk)
    have hms : All2 (msgV w1 (fun k => I k ∨ (Value.slice av ls.length cv).ownBlock = some k)) ((batsOf ls known (s.has d) N).map (batOf ls)) vs := All2.maps (fun b hb u hu => bat_msg hao.1 hlen hchg (fun k hk => .inr hk) (ans_in hb) hu) hao.2.2
    have hR2 := hI'.linkTo hd hc (Ne.symm hcd) hl2 hT2 ((hI'.mss d c hd hc (Ne.symm hcd)).sent hms)
    refine ⟨⟨_, rfl⟩, ls, hp, ha, F, _, _, hR2, ?_, fun k hk => ⟨.inl hk, ?_⟩⟩
    · have hk2 := keeps_link (F := F) (Below.refl _ _) hT2 (hR1.fl d c hd hc (Ne.symm hcd)).2
      exact hK1.trans hk2
    · exact (hT2.other k (hR1.iI k hk) fun e => hR1.nI k hk (e ▸ (hR1.fl d c hd hc (Ne.symm hcd)).2)).trans (hK1.other k (HH.out.iI k hk) (HH.out.nI k hk))

end Go.Proofs.YtnkpogjiiohapaaGreatDoor

/-! GRoomE: The program's room in general: operations arrive; Deliver. -/
namespace Go.Proofs.YtnkpogjiiohapaaGreatDoor
open Go.RowKit
attribute [local go_sem ↓] Go.wp_at_zero Go.wp_at_succ

/-- All that waits with a copy when operations have come; those of it that no longer wait. -/
def waitS (s : RoomS) (d : Nat) (xs : List MOp) : List (PId × MOp) := earlyAll (s.has d) (s.early d) xs
def rdyS (N : Nat) (s : RoomS) (d : Nat) (xs : List MOp) : List MOp := readyTo (waitS s d xs) (s.has d) N
def hearS (N : Nat) (s : RoomS) (d : Nat) (xs : List MOp) (early : List (PId × MOp)) : RoomS := copyS s d (gtAll (s.gt d) (rdyS N s d xs)) (hasAll (s.has d) (rdyS N s d xs)) (insAll (s.ops d) (rdyS N s d xs)) early

set_option maxRecDepth 1000000 in
set_option maxHeartbeats 2000000 in
/-- OPERATIONS ARRIVE IN THE ROOM. -/
theorem arriveB_any {w : World} {r : Nat} {F I : Nat → Prop} {N sp : Nat} {s : RoomS} {x : RoomX} (h : RoomM w r F I N sp s x) {c d : Nat} (hc : c < N) (hd : d < N) (hcd : c ≠ d) (xs : List MOp) {v : Value} (hv : opsV w I v xs) (hcp : ∀ y ∈ xs, 0 ≤ y.op.id.2 ∧ y.op.id.2 < N)
    (hnd : ((waitS s d xs).map (·.1)).Nodup) (hk60 : ∀ p ∈ waitS s d xs, p.1.2 ≤ 60) (hhas : ∀ i, i < N → 0 ≤ s.has d i ∧ s.has d i ≤ 1000)
    (hfin : ((rdyS N s d xs ++ s.ops d).map fun o => o.op.id).Nodup) (hlen : (s.ops d).length + (rdyS N s d xs).length ≤ 300) (hcp2 : ∀ y ∈ rdyS N s d xs, 0 ≤ y.op.id.2 ∧ y.op.id.2 < N) :
    Calls Tryz.prog 75 #[.pointer (some ⟨r, 0, none⟩), .iface 382 v, .int .i64 c, .int .i64 d] w fun e w' => (∃ v, e = .returned v) ∧ ∃ early', CutOf (waitS s d xs) (goneTo (waitS s d xs) (s.has d) N) early' ∧ RoomTo r N sp F I w w' (hearS N s d xs early') := by
  have HBA := hid (fun W (hb : Below w.heap.size w W) => bArrive_any ((h.keep hb).reps d hd) xs (hv.keepI (fun k hk => hb.block k (h.iI k hk)) (fun _ y => y)) hcp hnd hk60 hhas hfin hlen hcp2 (c : Int))
  obtain ⟨av, cv, rfl, _⟩ := hv
  obtain ⟨c0, c2⟩ := blk2 h.blk
  have c1 := h.cell hd
  have hcap := h.cap
  have hN := h.hN
  unfold maxLen at hcap
  have hd0 : (0 : Int) ≤ (d : Int) := Int.natCast_nonneg _
  have hd1 : (d : Int) < (N : Int) := by omega
  have HH := hid h
  clear h hcp hnd hk60 hhas hfin hlen hcp2
  go_enter Tryz.func75, Tryz.ntmps75
  have hnil := nilB
  go_wp2_with fail
  go_region_with (first | (go_at_call 308; refine (HBA.out _ (Below.refl _ _).drew).mono ?_; rintro e w1 ⟨rfl, F', q', early', hM1, hC1, hS1, hK1⟩; obtain ⟨x1, hR1, hK2, _, eg, ec, ev, _⟩ := HH.out.copyTo hd hM1 (hK1.before (Below.refl _ _).drew) (fun _ y => y) (fun _ y => .inl y) hS1.1 hS1.2.1; have HX := hid (And.intro hC1 (And.intro hR1 hK2)); have hl1 := hR1.find hd hc (Ne.symm hcd) false w1 (Below.refl _ _); simp only [Bool.false_eq_true, if_false] at hl1; replace c2 := (blk2 hR1.blk).2; clear hM1 hC1 hS1 hK1 hR1 hK2 eg ec ev))
  all_goals clear c0 c1
  all_goals go_wp2_with fail
  all_goals refine (send_nil _ _).mono ?_
  all_goals rintro e w2 ⟨rfl, rfl⟩
  all_goals go_wp2
  all_goals go_end0
  all_goals
    obtain ⟨hC1, hR1, hK2⟩ := HX.out
    exact ⟨⟨_, rfl⟩, early', hC1, _, I, x1, hR1, hK2, fun k hk => ⟨hk, hK2.other k (HH.out.iI k hk) (HH.out.nI k hk)⟩⟩

end Go.Proofs.YtnkpogjiiohapaaGreatDoor

/-! GGhC: Plain: the room: what copies have made, what they have, what waits on the links. -/
namespace Go.Proofs.YtnkpogjiiohapaaGreatDoor

def MsgOk (N : Nat) (M : Nat → List MOp) : Msg → Prop
  | .inl l => l.length = N ∧ ∀ i, i < N → 0 ≤ rowOf l i ∧ rowOf l i ≤ (M i).length
  | .inr xs => ∀ y ∈ xs, isMade N M y
/-- How many operations there are. -/
def tot (M : Nat → List MOp) : Nat → Nat
  | 0 => 0
  | n + 1 => tot M n + (M n).length
/-- THE ROOM IS IN ORDER. -/
structure RoomOk (N : Nat) (M : Nat → List MOp) (s : RoomS) : Prop where
  made : MadeOk N M
  copy : ∀ c, c < N → CopyOk N M (s.gt c) (s.has c) (s.ops c) (s.early c)
  own : ∀ c, c < N → s.has c c = (M c).length
  asc : ∀ c, c < N → AscO (s.ops c)
  gtU : ∀ c, c < N → 0 ≤ s.gt c ∧ ∀ g : Int, (∀ e, e < N → ∀ y ∈ M e, y.op.id.1 ≤ g) → 0 ≤ g → s.gt c ≤ g
  cnt : ∀ e, e < N → ∀ y ∈ M e, y.op.id.1 ≤ (tot M N : Int)
  msgs : ∀ c d, c < N → d < N → c ≠ d → ∀ m ∈ s.ms c d, MsgOk N M m

theorem RoomOk.ms {N : Nat} {M : Nat → List MOp} {s : RoomS} (h : RoomOk N M s) {c d : Nat} {l : List Msg} (hl : ∀ m ∈ l, MsgOk N M m) : RoomOk N M (msTo s c d l) := by
  refine ⟨h.made, h.copy, h.own, h.asc, h.gtU, h.cnt, fun a b ha hb hab m hm => ?_⟩
  unfold msTo at hm
  simp only at hm
  by_cases e1 : a = c
  · subst e1
    by_cases e2 : b = d
    · subst e2
      rw [upd_same, upd_same] at hm
      exact hl m hm
    · rw [upd_same, upd_ne _ _ e2] at hm
      exact h.msgs a b ha hb hab m hm
  · rw [upd_ne _ _ e1] at hm
    exact h.msgs a b ha hb hab m hm
theorem rowOf_has {N : Nat} {has : Nat → Int} {i : Nat} (hi : i < N) : rowOf (hasL N has) i = has i := by simp [rowOf, hasL, hi]
theorem RoomOk.ask {N : Nat} {M : Nat → List MOp} {s : RoomS} (h : RoomOk N M s) {c d : Nat} (hc : c < N) (hd : d < N) (hcd : c ≠ d) : RoomOk N M (askS N s c d) := by
  unfold askS
  split
  · exact h
  · refine h.ms fun m hm => ?_
    rcases List.mem_append.1 hm with hm | hm
    · exact h.msgs c d hc hd hcd m hm
    · obtain rfl := List.mem_singleton.1 hm
      refine ⟨hasL_len _ _, fun i hi => ?_⟩
      rw [rowOf_has hi]
      exact (h.copy c hc).hasL i hi
theorem RoomOk.lose {N : Nat} {M : Nat → List MOp} {s : RoomS} (h : RoomOk N M s) {c d : Nat} (hc : c < N) (hd : d < N) (hcd : c ≠ d) : RoomOk N M (loseS s c d) := by
  have hm := h.msgs c d hc hd hcd
  unfold loseS
  split
  · exact h
  · rename_i m l e
    rw [e] at hm
    exact h.ms fun m' h' => hm m' (List.mem_cons_of_mem _ h')
theorem RoomOk.later {N : Nat} {M : Nat → List MOp} {s : RoomS} (h : RoomOk N M s) {c d : Nat} (hc : c < N) (hd : d < N) (hcd : c ≠ d) : RoomOk N M (laterS s c d) := by
  have hm := h.msgs c d hc hd hcd
  unfold laterS
  split
  · exact h
  · rename_i m l e
    rw [e] at hm
    refine h.ms fun m' h' => hm m' ?_
    rcases List.mem_append.1 h' with h' | h'
    · exact List.mem_cons_of_mem _ h'
    · obtain rfl := List.mem_singleton.1 h'; exact List.mem_cons_self
theorem RoomOk.again {N : Nat} {M : Nat → List MOp} {s : RoomS} (h : RoomOk N M s) {c d : Nat} (hc : c < N) (hd : d < N) (hcd : c ≠ d) : RoomOk N M (againS s c d) := by
  have hm := h.msgs c d hc hd hcd
  unfold againS
  split
  · exact h
  · rename_i m l e
    rw [e] at hm
    split
    · exact h
    · refine h.ms fun m' h' => hm m' ?_
      rcases List.mem_append.1 h' with h' | h'
      · exact h'
      · obtain rfl := List.mem_singleton.1 h'; exact List.mem_cons_self

theorem sentM_mem {m : Msg} : ∀ {bs ms : List Msg}, m ∈ sentM ms bs → m ∈ ms ∨ m ∈ bs
  | [], _, h => .inl h
  | b :: bs, ms, h => by
    unfold sentM at h
    rcases sentM_mem h with h | h
    · split at h
      · exact .inl h
      · rcases List.mem_append.1 h with h | h
        · exact .inl h
        · exact .inr (by rw [List.mem_singleton.1 h]; exact List.mem_cons_self)
    · exact .inr (List.mem_cons_of_mem _ h)
/-- WHAT A DELIVERY MAKES. -/
def DeliverTo (N : Nat) (s : RoomS) (c d : Nat) (s' : RoomS) : Prop := match s.ms c d with
  | [] => s' = s
  | .inl l :: ms => ∃ ls, ls.Perm ((s.ops d).filter (isBey (rowOf l))) ∧ AscP ls ∧ s' = msTo (msTo s c d ms) d c (sentM ((msTo s c d ms).ms d c) ((batsOf ls (rowOf l) (s.has d) N).map (batOf ls)))
  | .inr xs :: ms => ∃ early', CutOf (waitS s d xs) (goneTo (waitS s d xs) (s.has d) N) early' ∧ s' = hearS N (msTo s c d ms) d xs early'

theorem RoomOk.wait {N : Nat} {M : Nat → List MOp} {s : RoomS} (h : RoomOk N M s) {d : Nat} (hd : d < N) {xs : List MOp} (hx : ∀ y ∈ xs, isMade N M y) : EarlyOk N M (waitS s d xs) ∧ ((waitS s d xs).map (·.1)).Nodup := ⟨EarlyOk.all (h.copy d hd).earlyL hx, early_keys (h.copy d hd).keysL⟩
theorem RoomOk.hear {N : Nat} {M : Nat → List MOp} {s : RoomS} (h : RoomOk N M s) {d : Nat} (hd : d < N) {xs : List MOp} (hx : ∀ y ∈ xs, isMade N M y) {early' : List (PId × MOp)} (hC : CutOf (waitS s d xs) (goneTo (waitS s d xs) (s.has d) N) early') : RoomOk N M (hearS N s d xs early') ∧ ((rdyS N s d xs ++ s.ops d).map fun o => o.op.id).Nodup := by
  obtain ⟨hE, hn⟩ := h.wait hd hx
  have hc' := (h.copy d hd).heard h.made hE hC.sub hC.nd
  have hnd : ((rdyS N s d xs ++ s.ops d).map fun o => o.op.id).Nodup := ((insAll_perm (rdyS N s d xs) (s.ops d)).map _).nodup_iff.1 (hc'.ndId h.made)
  refine ⟨⟨h.made, fun c hc => ?_, fun c hc => ?_, fun c hc => ?_, fun c hc => ?_, h.cnt, h.msgs⟩, hnd⟩
  · unfold hearS copyS
    by_cases e : c = d
    · subst e
      simp only [upd_same]
      exact hc'
    · simp only [upd_ne _ _ e]
      exact h.copy c hc
  · unfold hearS copyS
    by_cases e : c = d
    · subst e
      simp only [upd_same]
      have h1 := heard_has (has := s.has c) hE N (Nat.le_refl _)
      show hasAll (s.has c) (rdyS N s c xs) c = _
      unfold rdyS
      rw [h1]
      have h2 := heard_in h.made (h.copy c hc) hE hc
      have h3 := h.own c hc
      omega
    · simp only [upd_ne _ _ e]
      exact h.own c hc
  · unfold hearS copyS
    by_cases e : c = d
    · subst e
      simp only [upd_same]
      exact insAll_asc _ _ (h.asc c hc) hnd
    · simp only [upd_ne _ _ e]
      exact h.asc c hc
  · unfold hearS copyS
    by_cases e : c = d
    · subst e
      simp only [upd_same]
      obtain ⟨g0, g1⟩ := h.gtU c hc
      refine ⟨Int.le_trans g0 (gtAll_le _ _).1, fun g hg h0 => gtAll_bound _ _ (g1 g hg h0) fun y hy => ?_⟩
      obtain ⟨p, hp, rfl⟩ := ready_mem hy
      obtain ⟨e, he, hm⟩ := (hE p hp).1
      exact hg e he _ hm
    · simp only [upd_ne _ _ e]
      exact h.gtU c hc
theorem RoomOk.fin {N : Nat} {M : Nat → List MOp} {s : RoomS} (h : RoomOk N M s) {d : Nat} (hd : d < N) {xs : List MOp} (hx : ∀ y ∈ xs, isMade N M y) : ((rdyS N s d xs ++ s.ops d).map fun o => o.op.id).Nodup ∧ (s.ops d).length + (rdyS N s d xs).length ≤ N * 60 := by
  obtain ⟨hE, hn⟩ := h.wait hd hx
  have hc' := (h.copy d hd).heard h.made hE (m' := []) (fun p (hp : p ∈ []) => absurd hp List.not_mem_nil) List.nodup_nil
  refine ⟨((insAll_perm (rdyS N s d xs) (s.ops d)).map _).nodup_iff.1 (hc'.ndId h.made), ?_⟩
  have h1 := hc'.len h.made
  rw [insAll_len] at h1
  exact h1
theorem RoomOk.deliver {N : Nat} {M : Nat → List MOp} {s s' : RoomS} (h : RoomOk N M s) {c d : Nat} (hc : c < N) (hd : d < N) (hcd : c ≠ d) (hs : DeliverTo N s c d s') : RoomOk N M s' := by
  have hm := h.msgs c d hc hd hcd
  unfold DeliverTo at hs
  cases e : s.ms c d with
  | nil => rw [e] at hs; rw [hs]; exact h
  | cons m ms =>
    rw [e] at hs hm
    have h1 : RoomOk N M (msTo s c d ms) := h.ms fun m' h' => hm m' (List.mem_cons_of_mem _ h')
    cases m with
    | inl l =>
      obtain ⟨ls, hp, ha, rfl⟩ := hs
      refine h1.ms fun m' h' => ?_
      rcases sentM_mem h' with h' | h'
      · exact h1.msgs d c hd hc (Ne.symm hcd) m' h'
      · obtain ⟨b, hb, rfl⟩ := List.mem_map.1 h'
        intro y hy
        have hy' := List.mem_of_mem_drop (List.mem_of_mem_take hy)
        exact (h.copy d hd).made (List.mem_filter.1 (hp.mem_iff.1 hy')).1
    | inr xs =>
      obtain ⟨early', hC, rfl⟩ := hs
      exact (h1.hear hd (hm _ List.mem_cons_self) hC).1

end Go.Proofs.YtnkpogjiiohapaaGreatDoor
