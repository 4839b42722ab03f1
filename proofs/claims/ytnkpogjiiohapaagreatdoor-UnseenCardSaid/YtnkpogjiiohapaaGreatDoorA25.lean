/- Our own text (GArrA, TLinkA, TLinkB, GPlA). -/
import Derived.Conc.LoneCalls
import Derived.Conc.LoneSelectN
import Derived.Test.YtnkpogjiiohapaaGreatDoorA24
import Derived.Test.YtnkpogjiiohapaaGreatDoorA19
import Derived.Test.YtnkpogjiiohapaaGreatDoorA05
import Derived.Test.YtnkpogjiiohapaaGreatDoorA10
set_option linter.unusedSimpArgs false
set_option linter.unusedVariables false

/-! GArrA: Messages: what they are, and how they arrive at a copy. -/
namespace Go.Proofs.YtnkpogjiiohapaaGreatDoor
open Go.RowKit
attribute [local go_sem ↓] Go.wp_at_zero Go.wp_at_succ

/-- A message: a question (how many of each), or operations. -/
abbrev Msg := List Int ⊕ List MOp
def rowOf (l : List Int) (i : Nat) : Int := l.getD i 0
def msgV (w : World) (I : Nat → Prop) : Msg → Value → Prop
  | .inl l, u => ∃ g c, u = .iface 115 (.slice (some ⟨g, 0, none⟩) l.length c) ∧ isKn w g c l.length (rowOf l) ∧ I g
  | .inr xs, u => ∃ s, u = .iface 382 s ∧ opsV w I s xs
theorem isKn.keepI {w w' : World} {g cap N : Nat} {known : Nat → Int} (h : isKn w g cap N known) (hg : w'.heap[g]? = w.heap[g]?) (hs : w.heap.size ≤ w'.heap.size) : isKn w' g cap N known :=
  ⟨fun i hi => by have := h.cells i hi; simpa [World.cell?, hg] using this, h.capL, h.capM, Nat.lt_of_lt_of_le h.lt hs⟩
theorem msgV.keepI {w w' : World} {I I' : Nat → Prop} : ∀ {m : Msg} {u : Value}, msgV w I m u → (∀ k, I k → w'.heap[k]? = w.heap[k]?) → w.heap.size ≤ w'.heap.size → (∀ k, I k → I' k) → msgV w' I' m u
  | .inl l, u, ⟨g, c, h1, h2, h3⟩, hi, hs, hI => ⟨g, c, h1, h2.keepI (hi g h3) hs, hI g h3⟩
  | .inr xs, u, ⟨s, h1, h2⟩, hi, _, hI => ⟨s, h1, h2.keepI hi hI⟩

theorem step_in (ls : List MOp) (pls : List PId) : ∀ (ks : List Nat) (s : Nat × List (Nat × Nat)), s.1 ≤ ls.length → (∀ b ∈ s.2, b.1 + b.2 ≤ ls.length) → ∀ b ∈ (ks.foldl (ansStep ls pls) s).2, b.1 + b.2 ≤ ls.length
  | [], s, _, h => h
  | k :: ks, s, h0, h => by
    have hc := cut_le (ls.drop s.1) (partOf pls k)
    rw [List.length_drop] at hc
    refine step_in ls pls ks (ansStep ls pls s k) (by unfold ansStep; simp only; omega) fun b hb => ?_
    unfold ansStep at hb
    rcases List.mem_append.1 hb with hb | hb
    · exact h b hb
    · obtain rfl := List.mem_singleton.1 hb
      simp only
      omega
theorem ans_in {ls : List MOp} {pls : List PId} {ks : List Nat} {b : Nat × Nat} (h : b ∈ (ansTo ls pls ks).2) : b.1 + b.2 ≤ ls.length := step_in ls pls ks (0, []) (Nat.zero_le _) (fun _ hb => by cases hb) b h

def batOf (ls : List MOp) (b : Nat × Nat) : Msg := .inr ((ls.drop b.1).take b.2)
theorem bat_msg {B : Nat} {w : World} {av : Option Addr} {cv : Nat} {ls : List MOp} {I : Nat → Prop} (h : ownMOps B w (.slice av ls.length cv) ls) (hl : ls.length ≤ 300) (hc : ∀ x ∈ ls, isChgI w I (.iface x.t x.v) x.op.chg) (hI : ∀ k, (Value.slice av ls.length cv).ownBlock = some k → I k) {b : Nat × Nat} (hb : b.1 + b.2 ≤ ls.length) {u : Value} (hu : BatV av b u) : msgV w I (batOf ls b) u := by
  obtain ⟨a, c, rfl, h1, h2, h3⟩ := hu
  have hlen : ((ls.drop b.1).take b.2).length = b.2 := by rw [List.length_take, List.length_drop]; omega
  refine ⟨_, rfl, a, c, by rw [hlen], by rw [hlen]; exact h1, h2, fun h0 => ?_, fun x hx => hc x (List.mem_of_mem_drop (List.mem_of_mem_take hx))⟩
  rw [hlen] at h0
  obtain ⟨p, hp, ha⟩ := h3 h0
  subst hp
  obtain ⟨g, hpg⟩ : ∃ g, p = ⟨g, 0, none⟩ := by
    rcases h.2 with ⟨e1, _⟩ | ⟨g, cap, cur, e1, _⟩
    · cases e1
    · simp only [Value.slice.injEq, Option.some.injEq] at e1
      exact ⟨g, e1.1⟩
  subst hpg
  refine ⟨g, b.1 * 4, ha, ⟨fun k hk => ?_, hI g rfl, by omega⟩⟩
  rw [hlen] at hk
  have hk' : b.1 + k < ls.length := by omega
  have e : ((ls.drop b.1).take b.2)[k]'(by rw [hlen]; exact hk) = ls[b.1 + k] := by simp
  obtain ⟨e0, e1, e2, e3⟩ := ownMOps.cells h (b.1 + k) hk'
  rw [show (b.1 + k) * 4 = b.1 * 4 + k * 4 by omega] at e0 e1 e2 e3
  rw [e]
  exact ⟨e0, e1, e2, e3⟩

/-- What an answer is. -/
def AnsOut (B : Nat) (w : World) (v : Value) (ls : List MOp) (av : Option Addr) (cv : Nat) (bs : List (Nat × Nat)) (vs : List Value) : Prop := ownMOps B w (.slice av ls.length cv) ls ∧ w.ownsRow B 147 1 v bs.length vs ∧ All2 (BatV av) bs vs
/-- The messages of an answer. -/
def batsOf (ls : List MOp) (known has : Nat → Int) (N : Nat) : List (Nat × Nat) := (ansTo ls (beyTo known has N) (List.range (min (chunks (beyTo known has N).length) 3))).2

set_option maxRecDepth 1000000 in
set_option maxHeartbeats 1000000 in
/-- A QUESTION ARRIVES. -/
theorem qArrive_any {w : World} {rb : Nat} {F I : Nat → Prop} {N sp c : Nat} {gt : Int} {has : Nat → Int} {ops : List MOp} {early : List (PId × MOp)} {q : RQ} (h : RepM w rb F I N sp c gt has ops early q) (d : Int) {gr : Nat} (hd : lookI d q.ns = some gr) {gk ck : Nat} {known : Nat → Int} (hkn : isKn w gk ck N known) (hgI : I gk) (hhas : ∀ i, i < N → 0 ≤ known i ∧ has i ≤ 60) (hk60 : ∀ i, i < N → known i ≤ 60) (hcp : ∀ x ∈ ops, 0 ≤ x.op.id.2 ∧ x.op.id.2 < N) (hnd : (ops.map plOf).Nodup) :
    Calls Tryz.prog 273 #[.slice (some ⟨gk, 0, none⟩) N ck, .pointer (some ⟨rb, 0, none⟩), .int .i64 d] w fun e w' => ∃ v vs ls av cv, e = .returned v ∧ ls.Perm (ops.filter (isBey known)) ∧ AscP ls ∧ AnsOut w.heap.size w' v ls av cv (batsOf ls known has N) vs ∧ RepM w' rb F I N sp c gt has ops early { q with nv := fun b => if b = gr then mindTo (q.nv gr) known N else q.nv b } ∧ Turned (fun k => k = gr) w w' ∧ F gr := by
  have HKM := hid (keepInMind_any h d hd hkn hgI)
  have HAN := hid (fun W (hM : RepM W rb F I N sp c gt has ops early { q with nv := fun b => if b = gr then mindTo (q.nv gr) known N else q.nv b }) (hk : isKn W gk ck N known) => answer_any hM hk hhas hk60 hcp hnd)
  have HNE := hid (show ∀ k, F k → gk ≠ k from fun k hF e => h.nI _ hgI (e ▸ hF))
  have HKN := hid hkn
  clear h hkn hhas hk60 hcp hnd hgI hd
  go_enter Tryz.func273, Tryz.ntmps273
  go_wp2_with fail
  refine HKM.out.mono ?_
  rintro e w1 ⟨⟨r, rfl⟩, hM1, hT1, hF1⟩
  have HA := hid (HAN.out w1 hM1 (HKN.out.keepI (hT1.other gk HKN.out.lt (HNE.out gr hF1)) hT1.size))
  have HX := hid (And.intro hM1 (And.intro hT1 hF1)); clear hM1 hT1 hF1
  go_wp2_with fail
  refine HA.out.mono ?_
  rintro e w2 ⟨v, vs, ls, av, cv, bs, rfl, ho, hp, ha, hbs, hr, hb, hbel⟩
  have HY := hid (And.intro ho (And.intro hp (And.intro ha (And.intro hbs (And.intro hr (And.intro hb hbel)))))); clear ho hp ha hbs hr hb hbel
  go_wp2
  go_ret
  obtain ⟨ho, hp, ha, hbs, hr, hb, hbel⟩ := HY.out
  obtain ⟨hM1, hT1, hF1⟩ := HX.out
  subst hbs
  exact ⟨v, vs, ls, av, cv, rfl, hp, ha, ⟨owns_mono ho hT1.size, owns_mono hr hT1.size, hb⟩, hM1.keep hbel, hT1.trans (Turned.of_below hbel), hF1⟩

set_option maxRecDepth 1000000 in
set_option maxHeartbeats 1000000 in
/-- OPERATIONS ARRIVE. -/
theorem bArrive_any {w : World} {rb : Nat} {F I : Nat → Prop} {N sp c : Nat} {gt : Int} {has : Nat → Int} {ops : List MOp} {early : List (PId × MOp)} {q : RQ} (h : RepM w rb F I N sp c gt has ops early q) (xs : List MOp) {v : Value} (hv : opsV w I v xs) (hcp : ∀ x ∈ xs, 0 ≤ x.op.id.2 ∧ x.op.id.2 < N)
    (hnd : ((earlyAll has early xs).map (·.1)).Nodup) (hk60 : ∀ p ∈ earlyAll has early xs, p.1.2 ≤ 60) (hhas : ∀ i, i < N → 0 ≤ has i ∧ has i ≤ 1000)
    (hfin : ((readyTo (earlyAll has early xs) has N ++ ops).map fun o => o.op.id).Nodup) (hlen : ops.length + (readyTo (earlyAll has early xs) has N).length ≤ 300) (hcp2 : ∀ x ∈ readyTo (earlyAll has early xs) has N, 0 ≤ x.op.id.2 ∧ x.op.id.2 < N) (d : Int) :
    Calls Tryz.prog 308 #[v, .pointer (some ⟨rb, 0, none⟩), .int .i64 d] w fun e w' => e = .returned (.slice none 0 0) ∧ ∃ F' q' early', RepM w' rb F' I N sp c (gtAll gt (readyTo (earlyAll has early xs) has N)) (hasAll has (readyTo (earlyAll has early xs) has N)) (insAll ops (readyTo (earlyAll has early xs) has N)) early' q' ∧ CutOf (earlyAll has early xs) (goneTo (earlyAll has early xs) has N) early' ∧ sameQ q q' ∧ Keeps F F' w w' := by
  have HH := hid (hear_any h xs hv hcp hnd hk60 hhas hfin hlen hcp2)
  obtain ⟨a, cap, rfl, _⟩ := hv
  clear h hcp hnd hk60 hhas hfin hlen hcp2
  go_enter Tryz.func308, Tryz.ntmps308
  go_wp2_with fail
  refine HH.out.mono ?_
  rintro e w1 ⟨⟨r, rfl⟩, hx⟩
  have HX := hid hx; clear hx
  go_wp2
  go_ret
  exact ⟨rfl, HX.out⟩

end Go.Proofs.YtnkpogjiiohapaaGreatDoor

/-! TLinkA: Links: one message is taken (Talks). -/
namespace Go.Proofs.YtnkpogjiiohapaaGreatDoor
open Go.RowKit Go.Conc

/-- A link in memory: its channel (twelve places), what waits on it, and whether it is shut. -/
structure isLink (w : World) (gl gc : Nat) (l : List Value) (shut : Bool) (s r : Nat) : Prop where
  blk : w.heap[gl]? = some (.cells #[.chan (some gc), .bool shut] 153 (0, 0))
  ch : w.heap[gc]? = some (.chan 12 l.toArray shut s r false)
  len : l.length ≤ 12

set_option maxRecDepth 100000 in
theorem receive_q {w : World} {gl gc : Nat} {x : Value} {l : List Value} {shut : Bool} {s r : Nat} (h : isLink w gl gc (x :: l) shut s r) :
    Calls Tryz.prog 76 #[.pointer (some ⟨gl, 0, none⟩)] w fun e w' => e = .returned x ∧ w' = w.setChan gc 12 l.toArray shut s (r + 1) false := by
  refine calls_of_loneTo fun cs => ?_
  have e : Frame.enter Tryz.prog 76 #[.pointer (some ⟨gl, 0, none⟩)] .normal = (base 76).at ⟨#[.pointer (some ⟨gl, 0, none⟩), undef, undef, undef, undef, undef, undef, undef], []⟩ [.code (Tryz.f76.body.getD .skip)] := by
    simp [Frame.enter, Frame.at, Tryz.func76, base, Tryz.f76]
  rw [e]
  have c0 : w.cell? ⟨gl, 0, none⟩ = some (.chan (some gc)) := by simp [World.cell?, h.blk]
  refine LoneTo.goes (n := 30) ?_
  simp only [Tryz.f76, Option.getD_some]
  s_c stepG_seq
  s_reg
  s_op
  s_c stepG_region_end
  s_c stepG_seq
  s_reg
  s_op
  s_op
  s_op
  s_op
  s_stop
  refine LoneTo.step (step_lone_recv_buf false (c := gc) (z := .nilIface) (stepG_comm (cases := #[rcase gc .nilIface]) (blocking := true) (shape := .recv false) (w' := w) rfl rfl (by decide) (by simp [go_sem, rcase])) h.ch (by simp)) ?_
  rw [Frame.finish_at]
  have e1 : (x :: l).toArray.getD 0 undef = x := by simp
  have e2 : (x :: l).toArray.extract 1 (x :: l).toArray.size = l.toArray := by simp
  rw [e1, e2]
  simp only [got]
  walk_nrm
  refine LoneTo.goes (n := 4) ?_
  s_op
  s_c stepG_region_end
  s_c stepG_ret'
  s_stop
  exact LoneTo.done ⟨.returned x, _, rfl, ⟨rfl, rfl⟩, rfl, rfl, rfl, rfl, _, Tryz.func76, by simp [results, Tryz.f76, Frame.at]⟩

set_option maxRecDepth 1000000 in
theorem waiting_q {w : World} {gl gc : Nat} {l : List Value} {shut : Bool} {s r : Nat} (h : isLink w gl gc l shut s r) :
    Calls Tryz.prog 129 #[.pointer (some ⟨gl, 0, none⟩)] w fun e w' => e = .returned (.int .i64 l.length) ∧ w' = w := by
  have c0 : w.cell? ⟨gl, 0, none⟩ = some (.chan (some gc)) := by simp [World.cell?, h.blk]
  have hln := fun ty => run_len_chan (P := Tryz.prog) 151 ty Tryz.underlying151 h.ch
  have hcp := fun ty => run_cap_chan (P := Tryz.prog) 151 ty Tryz.underlying151 h.ch
  simp only [List.size_toArray] at hln
  go_enter Tryz.func129, Tryz.ntmps129
  go_wp2
  go_ret
  exact ⟨rfl, rfl⟩

set_option maxRecDepth 1000000 in
theorem refusal_q {w : World} {gl gc : Nat} {l : List Value} {shut : Bool} {s r : Nat} (h : isLink w gl gc l shut s r) :
    Calls Tryz.prog 52 #[.pointer (some ⟨gl, 0, none⟩)] w fun e w' => e = .returned (.int .i64 (if shut then 10 else if l.length = 12 then 8 else 0)) ∧ Below w.heap.size w w' := by
  have c0 : w.cell? ⟨gl, 0, none⟩ = some (.chan (some gc)) := by simp [World.cell?, h.blk]
  have c1 : w.cell? ⟨gl, 1, none⟩ = some (.bool shut) := by simp [World.cell?, h.blk]
  have hln := fun ty => run_len_chan (P := Tryz.prog) 151 ty Tryz.underlying151 h.ch
  have hcp := fun ty => run_cap_chan (P := Tryz.prog) 151 ty Tryz.underlying151 h.ch
  have hlnd := fun ty => run_len_chan (P := Tryz.prog) (w := w.drew) 151 ty Tryz.underlying151 h.ch
  have hcpd := fun ty => run_cap_chan (P := Tryz.prog) (w := w.drew) 151 ty Tryz.underlying151 h.ch
  simp only [List.size_toArray] at hln hlnd
  cases shut with
  | true =>
    go_enter Tryz.func52, Tryz.ntmps52
    go_wp2
    go_ret
    exact ⟨rfl, Below.refl _ _⟩
  | false =>
    by_cases hf : l.length = 12
    · go_enter Tryz.func52, Tryz.ntmps52
      go_wp2
      go_region
      all_goals (go_wp2; go_ret)
      all_goals exact ⟨by simp [hf], Below.drew (Below.refl _ _)⟩
    · go_enter Tryz.func52, Tryz.ntmps52
      go_wp2
      go_region
      all_goals (go_wp2; go_ret)
      all_goals exact ⟨by simp [hf], Below.drew (Below.refl _ _)⟩

end Go.Proofs.YtnkpogjiiohapaaGreatDoor

/-! TLinkB: Links: messages are sent (Talks). -/
namespace Go.Proofs.YtnkpogjiiohapaaGreatDoor
open Go.RowKit Go.Conc

/-- A call by its contract, in the machine of one. -/
theorem LoneTo_call {P : Program} {Q : Goroutine → World → Prop} {f : FuncId} {args : Array Value} {fr : Frame} {cs : List Frame} {w : World} {v : Value} {R : World → Prop} (hc : Calls P f args w fun e w' => e = .returned v ∧ R w') {fr0 : Frame} (he : fr0 = Frame.enter P f args .normal) (h : ∀ w', R w' → LoneTo P Q (G (fr.finish v) cs) w') : LoneTo P Q (G fr0 (fr :: cs)) w := by
  subst he
  obtain ⟨e, w', fr', ⟨rfl, hR⟩, hs, _, hl⟩ := hc (fr :: cs)
  have hst := step_leave_returned (c := fr) (cs := cs) hl
  obtain ⟨g2, w2, hs2, hq⟩ := LoneTo.step (P := P) (Q := Q) (g := G fr' (fr :: cs)) (w := w') (g' := G (fr.finish v) cs) (w' := w') hst (h w' hR)
  exact ⟨g2, w2, Steps.trans hs hs2, hq⟩

def sndSeq : Code → Code | .seq _ b => b | c => c
def unBlock : Code → Code | .block _ c => c | c => c
def unLoop : Code → Code | .loop c => c | c => c

/-- What waits behind a sending. -/
def sentTo (shut : Bool) : List Value → List Value → List Value
  | l, [] => l
  | l, m :: ms => sentTo shut (if shut = true ∨ l.length = 12 then l else l ++ [m]) ms
/-- What a sending leaves. -/
def Sent (gl gc : Nat) (l : List Value) (shut : Bool) (r : Nat) (w w' : World) : Prop := ∃ s', isLink w' gl gc l shut s' r ∧ Turned (fun k => k = gc) w w'
def SentEnds (f : FuncId) (cs : List Frame) (R : World → Prop) (g' : Goroutine) (w' : World) : Prop := ∃ e fr, g' = G fr cs ∧ (e = .returned (.tuple #[]) ∧ R w') ∧ fr.fn = f ∧ fr.leaving Tryz.prog w' e

theorem isLink.keep {w w' : World} {gl gc : Nat} {l : List Value} {shut : Bool} {s r : Nat} (h : isLink w gl gc l shut s r) (hb : Below w.heap.size w w') : isLink w' gl gc l shut s r :=
  ⟨(hb.block gl (blk_lt h.blk)).trans h.blk, (hb.block gc (blk_lt h.ch)).trans h.ch, h.len⟩

theorem setChan_other (w : World) {c k : Nat} (cap : Nat) (buf : Array Value) (cl : Bool) (s r : Nat) (tm : Bool) (h : k ≠ c) : (w.setChan c cap buf cl s r tm).heap[k]? = w.heap[k]? := by
  simp only [World.setChan]
  rw [Array.getElem?_setIfInBounds_ne (fun e => h e.symm)]
theorem setChan_turned (w : World) (c cap : Nat) (buf : Array Value) (cl : Bool) (s r : Nat) (tm : Bool) : Turned (fun k => k = c) w (w.setChan c cap buf cl s r tm) :=
  ⟨rfl, rfl, rfl, by rw [size_setChan]; exact Nat.le_refl _, fun k _ hk => setChan_other w cap buf cl s r tm hk⟩
theorem isLink.ne {w : World} {gl gc : Nat} {l : List Value} {shut : Bool} {s r : Nat} (h : isLink w gl gc l shut s r) {g i : Nat} {v : Value} (hc : w.cell? ⟨g, i, none⟩ = some v) : g ≠ gc := fun e => by
  subst e
  simp [World.cell?, h.ch] at hc
theorem isLink.sent {w : World} {gl gc : Nat} {l : List Value} {shut : Bool} {s r : Nat} (h : isLink w gl gc l shut s r) (m : Value) (s' r' : Nat) (hl : l.length < 12) : isLink (w.setChan gc 12 (l ++ [m]).toArray shut s' r' false) gl gc (l ++ [m]) shut s' r' :=
  ⟨(setChan_other w _ _ _ _ _ _ (h.ne (i := 0) (v := .chan (some gc)) (by simp [World.cell?, h.blk]))).trans h.blk, by rw [heap_setChan _ _ _ _ _ _ _ _ (blk_lt h.ch)], by simp; omega⟩
theorem cell_setChan {w : World} {g i : Nat} {v : Value} {c : Nat} (cap : Nat) (buf : Array Value) (cl : Bool) (s r : Nat) (tm : Bool) (hne : g ≠ c) (h : w.cell? ⟨g, i, none⟩ = some v) : (w.setChan c cap buf cl s r tm).cell? ⟨g, i, none⟩ = some v := by
  have e := setChan_other w cap buf cl s r tm hne
  simp only [World.cell?] at h ⊢
  rw [e]
  exact h

set_option maxRecDepth 100000 in
theorem send_exit {B : Code} (hB : B = unLoop (unBlock (sndSeq (Tryz.f53.body.getD .skip)))) {R : World → Prop} {w : World} (hR : R w) (cs : List Frame) (n : Nat) (a0 a1 j2 j3 j4 j5 j6 j9 j10 j11 j12 j13 j14 j15 j16 j17 j18 j19 j20 : Value) :
    LoneTo Tryz.prog (SentEnds 53 cs R) (G ((base 53).at ⟨#[a0, a1, j2, j3, j4, j5, j6, .int .i64 n, .int .i64 n, j9, j10, j11, j12, j13, j14, j15, j16, j17, j18, j19, j20], []⟩ [.code B, .inLoop B, .inBlock 0]) cs) w := by
  refine LoneTo.goes (n := 20) ?_
  simp only [hB, Tryz.f53, Option.getD_some, sndSeq, unBlock, unLoop]
  s_c stepG_seq
  s_reg
  s_op
  s_c stepG_region_end
  s_c stepG_seq
  have hnn : decide ((n : Int) < (n : Int)) = false := by simp
  s_cond false
  s_exit
  s_c stepG_end
  s_stop
  exact LoneTo.done ⟨.returned (.tuple #[]), _, rfl, ⟨rfl, hR⟩, rfl, rfl, rfl, rfl, _, Tryz.func53, by simp [results, Tryz.f53, Frame.at]⟩

set_option maxRecDepth 100000 in
theorem send_loop {B : Code} (hB : B = unLoop (unBlock (sndSeq (Tryz.f53.body.getD .skip)))) {gl gc g off cap n r : Nat} {shut : Bool} (cs : List Frame) (M : Nat → Value) (hn : n ≤ 1000) :
    ∀ (k i : Nat) (l : List Value) (s : Nat) (w : World) (R : World → Prop) (j2 j3 j4 j5 j9 j10 j11 j12 j13 j14 j15 j16 j17 j18 j19 j20 : Value), i + k = n → isLink w gl gc l shut s r → (∀ j, j < n → w.cell? ⟨g, off + j, none⟩ = some (M j)) →
      (∀ w', Sent gl gc (sentTo shut l ((List.range k).map fun j => M (i + j))) shut r w w' → R w') →
      LoneTo Tryz.prog (SentEnds 53 cs R) (G ((base 53).at ⟨#[.pointer (some ⟨gl, 0, none⟩), .slice (some ⟨g, off, none⟩) n cap, j2, j3, j4, j5, .slice (some ⟨g, off, none⟩) n cap, .int .i64 n, .int .i64 i, j9, j10, j11, j12, j13, j14, j15, j16, j17, j18, j19, j20], []⟩ [.code B, .inLoop B, .inBlock 0]) cs) w := by
  intro k
  induction k with
  | zero =>
    intro i l s w R j2 j3 j4 j5 j9 j10 j11 j12 j13 j14 j15 j16 j17 j18 j19 j20 hi hl hM hR
    obtain rfl : i = n := by omega
    exact send_exit hB (hR w ⟨s, hl, Turned.of_below (Below.refl _ _)⟩) cs i _ _ _ _ _ _ _ _ _ _ _ _ _ _ _ _ _ _ _
  | succ k ih =>
    intro i l s w R j2 j3 j4 j5 j9 j10 j11 j12 j13 j14 j15 j16 j17 j18 j19 j20 hi hl hM hR
    have hin : i < n := by omega
    have hlt : decide ((i : Int) < (n : Int)) = true := by simp; omega
    have hi0 : (0 : Int) ≤ (i : Int) := Int.natCast_nonneg _
    have hi1 : (i : Int) < (n : Int) := by omega
    have cm := hM i hin
    have c0 : w.cell? ⟨gl, 0, none⟩ = some (.chan (some gc)) := by simp [World.cell?, hl.blk]
    refine LoneTo.goes (n := 40) ?_
    simp only [hB, Tryz.f53, Option.getD_some, sndSeq, unBlock, unLoop]
    s_c stepG_seq
    s_reg
    s_op
    s_c stepG_region_end
    s_c stepG_seq
    s_cond true
    s_c stepG_skip
    s_c stepG_seq
    s_c stepG_block
    s_c stepG_seq
    s_reg
    s_op
    s_op
    s_op
    s_c stepG_region_end
    s_c stepG_seq
    s_reg
    s_op
    s_in
    refine goes_call rfl rfl (by decide) rfl Tryz.func52 (by decide) rfl ⟨trivial, ?_⟩
    s_stop
    refine LoneTo_call (refusal_q hl) (by simp [Frame.enter, Frame.at, Tryz.func52, base, Tryz.f52, Act.eval]) fun w1 hb1 => ?_
    rw [Frame.finish_at]
    walk_nrm
    have hl1 := hl.keep hb1
    have c1 : w1.cell? ⟨gl, 0, none⟩ = some (.chan (some gc)) := by simp [World.cell?, hl1.blk]
    have hM1 : ∀ j, j < n → w1.cell? ⟨g, off + j, none⟩ = some (M j) := fun j hj => keep hb1 (hM j hj)
    have hw1 : IntKind.i64.wrap ((i : Int) + 1) = ((i + 1 : Nat) : Int) := by rw [Go.IntWalk.i64_in _ (by omega)]; simp
    have hrange : (List.range (k + 1)).map (fun j => M (i + j)) = M i :: (List.range k).map fun j => M (i + 1 + j) := by
      rw [List.range_succ_eq_map, List.map_cons, List.map_map]
      simp [Function.comp_def, Nat.add_comm, Nat.add_left_comm]
    rw [hrange] at hR
    by_cases href : shut = true ∨ l.length = 12
    · obtain ⟨q, hq, hq0⟩ : ∃ q : Int, (if shut = true then 10 else if l.length = 12 then 8 else 0) = q ∧ ¬ (q = 0) := by
        by_cases hs : shut = true
        · exact ⟨10, by rw [if_pos hs], by omega⟩
        · rcases href with h | h
          · exact absurd h hs
          · exact ⟨8, by rw [if_neg hs, if_pos h], by omega⟩
      rw [hq]
      have hqb : (q == 0) = false := by simpa using hq0
      refine LoneTo.goes (n := 20) ?_
      s_op
      s_c stepG_region_end
      s_cond false
      s_c stepG_skip
      s_c stepG_inBlock
      s_reg
      s_op
      s_op
      s_c stepG_region_end
      s_c stepG_inLoop
      s_stop
      have h2 := ih (i + 1) l s w1 R j2 j3 j4 (M i) (.bool true) (.pointer (some ⟨g, off + i, none⟩)) (M i) (.pointer (some ⟨gl, 0, none⟩)) (.int .i64 q) (.bool false) j15 j16 j17 j18 j19 (.int .i64 ((i : Int) + 1)) (by omega) hl1 hM1 fun w' ⟨s', h3, h4⟩ => hR w' ⟨s', by unfold sentTo; rw [if_pos href]; exact h3, (Turned.of_below hb1).trans h4⟩
      simp only [hB, Tryz.f53, Option.getD_some, sndSeq, unBlock, unLoop, Int.natCast_add, Int.natCast_one] at h2
      exact h2
    · have hs : shut = false := by
        cases shut with
        | false => rfl
        | true => exact absurd (.inl rfl) href
      have hl12 : ¬ (l.length = 12) := fun h => href (.inr h)
      have hlen := hl1.len
      subst hs
      have e0 : (if false = true then (10 : Int) else if l.length = 12 then 8 else 0) = 0 := by rw [if_neg (by simp), if_neg hl12]
      rw [e0]
      refine LoneTo.goes (n := 20) ?_
      s_op
      s_c stepG_region_end
      s_cond true
      s_reg
      s_op
      s_op
      s_op
      s_op
      s_op
      s_stop
      refine LoneTo.step (step_lone_send_room (c := gc) (cap := 12) (buf := l.toArray) (s := s) (r := r) (tm := false) (stepG_comm (cases := #[scase gc (M i) (.tuple #[])]) (blocking := true) (shape := .send) (w' := w1) rfl rfl (by decide) (by simp [execOp, scase, Act.eval])) hl1.ch (by simp; omega)) ?_
      rw [Frame.finish_at]
      walk_nrm
      refine LoneTo.goes (n := 20) ?_
      s_c stepG_region_end
      s_c stepG_inBlock
      s_reg
      s_op
      s_op
      s_c stepG_region_end
      s_c stepG_inLoop
      s_stop
      have h2 := ih (i + 1) (l ++ [M i]) (s + 1) (w1.setChan gc 12 (l ++ [M i]).toArray false (s + 1) r false) R j2 j3 j4 (M i) (.bool true) (.pointer (some ⟨g, off + i, none⟩)) (M i) (.pointer (some ⟨gl, 0, none⟩)) (.int .i64 0) (.bool true) (.pointer (some ⟨gl, 0, none⟩)) (.pointer (some ⟨gl, 0, none⟩)) (.pointer (some ⟨gl, 0, none⟩)) (.chan (some gc)) (M i) (.int .i64 ((i : Int) + 1)) (by omega) (hl1.sent (M i) (s + 1) r (by omega)) (fun j hj => cell_setChan _ _ _ _ _ _ (hl1.ne (hM1 j hj)) (hM1 j hj)) fun w' ⟨s', h3, h4⟩ => hR w' ⟨s', by unfold sentTo; rw [if_neg href]; exact h3, ((Turned.of_below hb1).trans (setChan_turned _ _ _ _ _ _ _ _)).trans h4⟩
      simp only [hB, Tryz.f53, Option.getD_some, sndSeq, unBlock, unLoop, Int.natCast_add, Int.natCast_one] at h2
      exact h2

set_option maxRecDepth 100000 in
/-- send: what may be sent waits behind the others. -/
theorem send_q {w : World} {gl gc g off cap n : Nat} {l : List Value} {shut : Bool} {s r : Nat} (h : isLink w gl gc l shut s r) (M : Nat → Value) (hn : n ≤ 1000) (hM : ∀ j, j < n → w.cell? ⟨g, off + j, none⟩ = some (M j)) :
    Calls Tryz.prog 53 #[.pointer (some ⟨gl, 0, none⟩), .slice (some ⟨g, off, none⟩) n cap] w fun e w' => e = .returned (.tuple #[]) ∧ Sent gl gc (sentTo shut l ((List.range n).map M)) shut r w w' := by
  refine calls_of_loneTo fun cs => ?_
  have e : Frame.enter Tryz.prog 53 #[.pointer (some ⟨gl, 0, none⟩), .slice (some ⟨g, off, none⟩) n cap] .normal = (base 53).at ⟨#[.pointer (some ⟨gl, 0, none⟩), .slice (some ⟨g, off, none⟩) n cap, undef, undef, undef, undef, undef, undef, undef, undef, undef, undef, undef, undef, undef, undef, undef, undef, undef, undef, undef], []⟩ [.code (Tryz.f53.body.getD .skip)] := by
    simp [Frame.enter, Frame.at, Tryz.func53, base, Tryz.f53]
  rw [e]
  refine LoneTo.goes (n := 20) ?_
  simp only [Tryz.f53, Option.getD_some]
  s_c stepG_seq
  s_reg
  s_op
  s_op
  s_op
  s_c stepG_region_end
  s_c stepG_block
  s_c stepG_loop
  s_stop
  have h2 := send_loop rfl (cap := cap) (off := off) (g := g) (n := n) (r := r) (gl := gl) (gc := gc) (shut := shut) cs M hn n 0 l s w (Sent gl gc (sentTo shut l ((List.range n).map M)) shut r w) undef undef undef undef undef undef undef undef undef undef undef undef undef undef undef undef (by omega) h hM (fun w' hs => by simpa using hs)
  simp only [Tryz.f53, Option.getD_some, sndSeq, unBlock, unLoop, Int.natCast_zero] at h2
  exact h2

end Go.Proofs.YtnkpogjiiohapaaGreatDoor

/-! GPlA: Plain: one operation, whether it finds its place or not: the two documents say the same behind it. -/
namespace Go.Proofs.YtnkpogjiiohapaaGreatDoor
open Go.RowKit

theorem Agree.congr {R R' : List PObj} {D : QDoc} (h : Agree R D) (he : ∀ y, objOf R' y = objOf R y) : Agree R' D :=
  ⟨fun x o ho => h.o1 x o ((he x).symm.trans ho), fun x hx => h.o0 x ((he x).symm.trans hx), fun y e hy => by
    obtain ⟨o, h1, h2⟩ := h.el y e hy
    exact ⟨o, (he _).trans h1, h2⟩⟩
theorem does_same {R : List PObj} {p : POp} (hk : p.kind ≠ 1) (h : ∀ o, objOf R p.object = some o → doesAt p o = o) : ∀ y, objOf (doesP R p) y = objOf R y := by
  intro y
  rw [does_obj hk]
  by_cases e : y = p.object
  · subst e
    rw [if_pos rfl]
    cases ho : objOf R p.object with
    | none => rfl
    | some o => simp [h o ho]
  · rw [if_neg e]

/-- What is asked of an operation that is new: its Id is no other's; the object that it gives is there. -/
structure Fresh (R : List PObj) (p : POp) : Prop where
  kind : p.kind = 1 ∨ p.kind = 2 ∨ p.kind = 3 ∨ p.kind = 4
  make : p.kind = 1 → objOf R p.id = none
  lay : p.kind = 2 → p.id ≠ (0, 0) ∧ ∀ x o, objOf R x = some o → p.id ∉ o.ss.map PSlot.id
  place : p.kind = 3 ∨ p.kind = 4 → p.key ≠ ⟨#[]⟩ → p.element = (0, 0)
  giver : p.kind = 3 ∨ p.kind = 4 → ∀ x o, objOf R x = some o → ∀ s ∈ o.ss, ∀ h ∈ s.hs, h.giver ≠ p.id
  obj : p.kind = 3 → ∃ o, objOf R p.obj = some o

theorem first_no {l : List PSlot} {key : ByteArray} {x : PId} (h : x ∉ l.map PSlot.id) : firstI (pslotIs key x) l < 0 := by
  have : firstI (pslotIs key x) l = -1 := by
    refine firstI_none fun j hj => ?_
    cases hp : pslotIs key x l[j] with
    | false => rfl
    | true =>
      exfalso
      unfold pslotIs at hp
      rw [Bool.and_eq_true, idEq_true] at hp
      have e : l[j].id = x := hp.2
      exact h (e ▸ List.mem_map.2 ⟨_, List.getElem_mem hj, rfl⟩)
  omega

theorem Agree.any {R : List PObj} {D D' : QDoc} (h : Agree R D) (hn : QNd D) {p : POp} {n : Int} (hf : Fresh R p) (hs : StepTo D (qopOf p n) D') : Agree (doesP R p) D' := by
  rcases hf.kind with hk | hk | hk
  · exact h.step hn ⟨hf.kind, hf.make, fun e => by omega, fun e => by omega, fun e => by omega⟩ hs
  · by_cases hfit : ∃ o, objOf R p.object = some o ∧ o.list = true ∧ (p.behind = (0, 0) ∨ p.behind ∈ o.ss.map PSlot.id)
    · exact h.step hn ⟨hf.kind, hf.make, fun e => ⟨(hf.lay e).1, (hf.lay e).2, hfit⟩, fun e => by omega, fun e => by omega⟩ hs
    · have hD : D' = D := by
        have h1 : ¬ p.kind = 1 := by omega
        unfold StepTo qopOf chgOf at hs
        simp only [h1, hk, if_true, if_false] at hs
        simp at hs
        rw [hs]
        unfold layQ
        cases hl : lookI p.object D.1 with
        | none => rfl
        | some ob =>
          cases ho : objOf R p.object with
          | none => rw [h.o0 _ ho] at hl; cases hl
          | some o =>
            obtain ⟨ob', hob', hag⟩ := h.o1 _ _ ho
            rw [hl] at hob'
            cases hob'
            by_cases hli : ob.list = false
            · simp [hli]
            · have hol : o.list = true := by rw [← hag.list]; simpa using hli
              have hb0 : ¬ p.behind = (0, 0) := fun e => hfit ⟨o, ho, hol, .inl e⟩
              simp only [hli, hb0, if_false]
              cases hb : lookI p.behind D.2 with
              | none => rfl
              | some e =>
                by_cases hel : e.list = p.object
                · exfalso
                  obtain ⟨o', h1, h2, h3⟩ := h.el _ _ hb
                  rw [hel, ho] at h1
                  cases h1
                  exact hfit ⟨o, ho, hol, .inr h3⟩
                · simp [hel]
      rw [hD]
      refine h.congr (does_same (by omega) fun o ho => ?_)
      unfold doesAt
      rw [if_pos hk]
      by_cases hol : o.list = true
      · rw [if_pos hol]
        have hb0 : ¬ p.behind = (0, 0) := fun e => hfit ⟨o, ho, hol, .inl e⟩
        have hno := first_no (key := ⟨#[]⟩) (fun e => hfit ⟨o, ho, hol, .inr e⟩)
        have hz : idEq p.behind.1 p.behind.2 0 0 = false := by
          cases hq : idEq p.behind.1 p.behind.2 0 0 with
          | false => rfl
          | true =>
            exfalso
            exact hb0 (show p.behind = (0, 0) from idEq_true.1 hq)
        unfold laidP
        rw [hz, if_neg (by simp), if_pos hno]
      · rw [if_neg hol]
  · have hk34 : p.kind = 3 ∨ p.kind = 4 := hk
    by_cases hfit : ∃ o, objOf R p.object = some o ∧ ((o.list = false ∧ p.key ≠ ⟨#[]⟩ ∧ p.element = (0, 0)) ∨ (o.list = true ∧ p.key = ⟨#[]⟩ ∧ p.element ∈ o.ss.map PSlot.id))
    · obtain ⟨o, ho, hc⟩ := hfit
      refine h.step hn ⟨hf.kind, hf.make, fun e => by omega, fun _ => ⟨o, ho, hc, fun x hx => ?_⟩, hf.obj⟩ hs
      unfold heldsAt at hx
      split at hx
      · rename_i s hfs
        exact hf.giver hk34 _ _ ho s (List.mem_of_find?_eq_some hfs) x hx
      · cases hx
    · have hpl : hasPl D.1 D.2 p.object p.key p.element = false := by
        unfold hasPl
        by_cases hkey : p.key = ⟨#[]⟩
        · rw [if_pos hkey]
          cases hl : lookI p.element D.2 with
          | none => rfl
          | some e =>
            by_cases hel : e.list = p.object
            · exfalso
              obtain ⟨o, h1, h2, h3⟩ := h.el _ _ hl
              rw [hel] at h1
              exact hfit ⟨o, h1, .inr ⟨h2, hkey, h3⟩⟩
            · simp [hel]
        · rw [if_neg hkey]
          cases hl : lookI p.object D.1 with
          | none => rfl
          | some ob =>
            cases ho : objOf R p.object with
            | none => rw [h.o0 _ ho] at hl; cases hl
            | some o =>
              obtain ⟨ob', hob', hag⟩ := h.o1 _ _ ho
              rw [hl] at hob'
              cases hob'
              have hol : o.list = true := by
                cases hq : o.list with
                | true => rfl
                | false => exact absurd ⟨o, ho, .inl ⟨hq, hkey, hf.place hk34 hkey⟩⟩ hfit
              have : qlist p.object D.1 = true := by
                unfold qlist
                rw [hl]
                simp [hag.list, hol]
              simp [this]
      have hD : D' = D := by
        have h1 : ¬ p.kind = 1 := by omega
        have h2 : ¬ p.kind = 2 := by omega
        unfold StepTo qopOf chgOf at hs
        rcases hk with hk | hk
        · simp only [h1, h2, hk, if_true, if_false, GiveTo] at hs
          have hg : giveOk D p.object p.key p.element p.obj = false := by unfold giveOk; rw [hpl]; rfl
          simpa [hg] using hs
        · have h3 : ¬ p.kind = 3 := by omega
          simp only [h1, h2, h3, if_false, TakeTo, hpl] at hs
          simpa using hs
      rw [hD]
      refine h.congr (does_same (by omega) fun o ho => ?_)
      have h2 : ¬ p.kind = 2 := by omega
      unfold doesAt
      rw [if_neg h2]
      by_cases hc : o.list = p.key.toList.isEmpty
      · rw [if_pos hc]
        cases hol : o.list with
        | true =>
          have hkey : p.key = ⟨#[]⟩ := by
            by_cases e : p.key = ⟨#[]⟩
            · exact e
            · rw [hol, key_ne e] at hc; cases hc
          have hno := first_no (key := p.key) (fun e => hfit ⟨o, ho, .inr ⟨hol, hkey, e⟩⟩)
          unfold valuedP
          rw [if_pos hno, if_pos rfl]
          cases o
          simp at hol
          simp [hol]
        | false =>
          exfalso
          have hkey : p.key ≠ ⟨#[]⟩ := fun e => by
            rw [hol, e, nil_toList] at hc
            cases hc
          exact hfit ⟨o, ho, .inl ⟨hol, hkey, hf.place hk34 hkey⟩⟩
      · rw [if_neg hc]

end Go.Proofs.YtnkpogjiiohapaaGreatDoor
