/- Our own text (GRoomB, GLinkC, GRoomC). -/
import Derived.Test.YtnkpogjiiohapaaGreatDoorA26
set_option linter.unusedSimpArgs false
set_option linter.unusedVariables false

/-! GRoomB: The program's room in general: its copies and links are found; Heard, Ask. -/
namespace Go.Proofs.YtnkpogjiiohapaaGreatDoor
open Go.RowKit
attribute [local go_sem ↓] Go.wp_at_zero Go.wp_at_succ

section
set_option maxRecDepth 1000000 in
set_option maxHeartbeats 1000000 in
theorem inCopy_any {w : World} {r : Nat} {F I : Nat → Prop} {N sp : Nat} {s : RoomS} {x : RoomX} (h : RoomM w r F I N sp s x) (c : Nat) (hc : c < N) :
    Calls Tryz.prog 44 #[.pointer (some ⟨r, 0, none⟩), .int .i64 c] w fun e w' => e = .returned (.tuple #[.pointer (some ⟨x.rbs c, 0, none⟩), .int .i64 0]) ∧ w' = w := by
  have c0 := (blk2 h.blk).1
  have c1 := h.cell hc
  have hcap := h.cap
  have hN := h.hN
  unfold maxLen at hcap
  have hc0 : (0 : Int) ≤ (c : Int) := Int.natCast_nonneg _
  have hc1 : (c : Int) < (N : Int) := by omega
  clear h
  go_enter Tryz.func44, Tryz.ntmps44
  go_wp2
  go_ret2
  exact ⟨rfl, rfl⟩

theorem RoomM.find {w : World} {r : Nat} {F I : Nat → Prop} {N sp : Nat} {s : RoomS} {x : RoomX} (h : RoomM w r F I N sp s x) {c d : Nat} (hc : c < N) (hd : d < N) (hcd : c ≠ d) (b : Bool) (W : World) (hb : Below w.heap.size w W) : (Instr.lookup 117 (.map (some x.bl)) (.agg #[.int .i64 c, .int .i64 d]) b).run Tryz.prog W = .ok (if b then .tuple #[.pointer (some ⟨x.gl c d, 0, none⟩), .bool true] else .pointer (some ⟨x.gl c d, 0, none⟩)) W := by
  obtain ⟨es, clk, hm⟩ := h.lmap
  have := run_lookI endsKey (hm.keep hb) Tryz.underlying117 (show (zeroValue 110).run Tryz.prog W = .ok (.pointer none) W by kernel_rfl) ((c : Int), (d : Int)) b
  rw [h.look c d hc hd hcd] at this
  cases b with
  | true => exact this
  | false => exact this

set_option maxRecDepth 1000000 in
set_option maxHeartbeats 1000000 in
theorem onLink_any {w : World} {r : Nat} {F I : Nat → Prop} {N sp : Nat} {s : RoomS} {x : RoomX} (h : RoomM w r F I N sp s x) {c d : Nat} (hc : c < N) (hd : d < N) (hcd : c ≠ d) :
    Calls Tryz.prog 51 #[.pointer (some ⟨r, 0, none⟩), .int .i64 c, .int .i64 d] w fun e w' => e = .returned (.tuple #[.pointer (some ⟨x.gl c d, 0, none⟩), .int .i64 0]) ∧ w' = w := by
  have c0 := (blk2 h.blk).2
  have hl := h.find hc hd hcd true w (Below.refl _ _)
  simp only [if_true] at hl
  clear h hc hd hcd
  go_enter Tryz.func51, Tryz.ntmps51
  go_wp2
  go_ret2
  exact ⟨rfl, rfl⟩

set_option maxRecDepth 1000000 in
set_option maxHeartbeats 1000000 in
theorem onUsedLink_any {w : World} {r : Nat} {F I : Nat → Prop} {N sp : Nat} {s : RoomS} {x : RoomX} (h : RoomM w r F I N sp s x) {c d : Nat} (hc : c < N) (hd : d < N) (hcd : c ≠ d) :
    Calls Tryz.prog 74 #[.pointer (some ⟨r, 0, none⟩), .int .i64 c, .int .i64 d] w fun e w' => e = .returned (if s.ms c d = [] then .tuple #[.pointer none, .int .i64 12] else .tuple #[.pointer (some ⟨x.gl c d, 0, none⟩), .int .i64 0]) ∧ w' = w := by
  have HOL := hid (onLink_any h hc hd hcd)
  have HWA := hid (waiting_q (h.link c d hc hd hcd))
  have hlen := (h.mss c d hc hd hcd).len
  clear h
  by_cases hm : s.ms c d = []
  · rw [if_pos hm]
    rw [hm] at hlen
    rw [← hlen] at HWA
    clear hlen hm
    go_enter Tryz.func74, Tryz.ntmps74
    go_wp2_with fail
    refine HOL.out.mono ?_
    rintro e w1 ⟨rfl, rfl⟩
    go_wp2_with fail
    refine HWA.out.mono ?_
    rintro e w2 ⟨rfl, rfl⟩
    go_wp2
    go_ret2
    exact ⟨rfl, rfl⟩
  · rw [if_neg hm]
    have hz : ¬ (x.vals c d).length = 0 := by
      rw [← hlen]
      exact fun e => hm (List.eq_nil_of_length_eq_zero e)
    clear hlen hm
    go_enter Tryz.func74, Tryz.ntmps74
    go_wp2_with fail
    refine HOL.out.mono ?_
    rintro e w1 ⟨rfl, rfl⟩
    go_wp2_with fail
    refine HWA.out.mono ?_
    rintro e w2 ⟨rfl, rfl⟩
    go_wp2
    go_ret2
    exact ⟨rfl, rfl⟩

set_option maxRecDepth 1000000 in
set_option maxHeartbeats 1000000 in
/-- HEARD. -/
theorem heard_any {w : World} {r : Nat} {F I : Nat → Prop} {N sp : Nat} {s : RoomS} {x : RoomX} (h : RoomM w r F I N sp s x) (c : Nat) (hc : c < N) :
    Calls Tryz.prog 25 #[.pointer (some ⟨r, 0, none⟩), .int .i64 c] w fun e w' => ∃ u, e = .returned (.tuple #[u, .int .i64 0]) ∧ ownInts w.heap.size w' u (hasL N (s.has c)) ∧ Below w.heap.size w w' := by
  have HIC := hid (inCopy_any h c hc)
  obtain ⟨c0, c1, c2, c3, c4, c5⟩ := (h.reps c hc).cells
  have HCL := hid (cloneInts_q (h.reps c hc).ints (by rw [hasL_len]; have := h.hN; omega))
  rw [hasL_len] at HCL
  clear h c0 c1 c3 c4 c5
  go_enter Tryz.func25, Tryz.ntmps25
  go_wp2_with fail
  refine HIC.out.mono ?_
  rintro e w1 ⟨rfl, rfl⟩
  go_wp2_with fail
  refine HCL.out.mono ?_
  rintro e w2 ⟨u, rfl, hu, hb⟩
  have HX := hid (And.intro hu hb); clear hu hb
  go_wp2
  go_ret2
  exact ⟨u, rfl, HX.out.1, HX.out.2⟩
end

theorem keeps_link {F : Nat → Prop} {w W w' : World} {g : Nat} (hb : Below w.heap.size w W) (ht : Turned (fun k => k = g) W w') (hg : F g) : Keeps F F w w' :=
  ⟨ht.os.trans hb.os, ht.tape.trans hb.tape, ht.output.trans hb.output, Nat.le_trans hb.size ht.size, fun k hk hF => (ht.other k (Nat.lt_of_lt_of_le hk hb.size) fun e => hF (e ▸ hg)).trans (hb.block k hk), fun k hk => .inl hk⟩
/-- A question is asked. -/
def askS (N : Nat) (s : RoomS) (c d : Nat) : RoomS := if (s.ms c d).length = 12 then s else { s with ms := upd s.ms c (upd (s.ms c) d (s.ms c d ++ [.inl (hasL N (s.has c))])) }
/-- What stays for ever: no less of it, and no more but what is new. -/
def IGo (I I' : Nat → Prop) (w w' : World) : Prop := (∀ k, I k → I' k ∧ w'.heap[k]? = w.heap[k]?) ∧ ∀ k, I' k → I k ∨ w.heap.size ≤ k
theorem IGo.trans {I I1 I2 : Nat → Prop} {w w1 w2 : World} (h : IGo I I1 w w1) (k : IGo I1 I2 w1 w2) (hs : w.heap.size ≤ w1.heap.size) : IGo I I2 w w2 := ⟨fun b hb => ⟨(k.1 b (h.1 b hb).1).1, (k.1 b (h.1 b hb).1).2.trans (h.1 b hb).2⟩, fun b hb => (k.2 b hb).elim (h.2 b) fun h1 => .inr (Nat.le_trans hs h1)⟩
/-- What a call leaves of a room. -/
def RoomTo (r N sp : Nat) (F I : Nat → Prop) (w w' : World) (s' : RoomS) : Prop := ∃ F' I' x', RoomM w' r F' I' N sp s' x' ∧ Keeps F F' w w' ∧ IGo I I' w w'

theorem RoomM.same {w w' : World} {r : Nat} {F I : Nat → Prop} {N sp : Nat} {s : RoomS} {x : RoomX} (h : RoomM w r F I N sp s x) (hb : Below w.heap.size w w') : RoomTo r N sp F I w w' s :=
  ⟨F, I, x, h.keep hb, Keeps.of_below hb, fun k hk => ⟨hk, hb.block k (h.iI k hk)⟩, fun _ hk => .inl hk⟩
theorem ownInts.msg {B : Nat} {w : World} {u : Value} {l : List Int} (h : ownInts B w u l) (h0 : 0 < l.length) (h9 : l.length ≤ 1000) : ∃ g c, u = .slice (some ⟨g, 0, none⟩) l.length c ∧ B ≤ g ∧ g < w.heap.size ∧ isKn w g c l.length (rowOf l) := by
  obtain ⟨g, c, rfl, h1, h2, h3, h4, h5⟩ := h.kn h0 h9
  refine ⟨g, c, rfl, h3, h4, ⟨fun i hi => ?_, h1, h2, h4⟩⟩
  rw [h5 i hi]
  simp [rowOf, hi]

set_option maxRecDepth 1000000 in
set_option maxHeartbeats 2000000 in
/-- ASK. -/
theorem ask_any {w : World} {r : Nat} {F I : Nat → Prop} {N sp : Nat} {s : RoomS} {x : RoomX} (h : RoomM w r F I N sp s x) {c d : Nat} (hc : c < N) (hd : d < N) (hcd : c ≠ d) :
    Calls Tryz.prog 27 #[.pointer (some ⟨r, 0, none⟩), .int .i64 c, .int .i64 d] w fun e w' => e = .returned (.int .i64 (if (s.ms c d).length = 12 then 8 else 0)) ∧ RoomTo r N sp F I w w' (askS N s c d) := by
  have HOL := hid (onLink_any h hc hd hcd)
  have HRF := hid (refusal_q (h.link c d hc hd hcd))
  have hlen := (h.mss c d hc hd hcd).len
  have HQ := hid (fun W (hb : Below w.heap.size w W) => question_any ((h.keep hb).reps c hc))
  have c0 := (blk2 h.blk).1
  have c1 := h.cell hc
  have hcap := h.cap
  have hN := h.hN
  unfold maxLen at hcap
  have hc0 : (0 : Int) ≤ (c : Int) := Int.natCast_nonneg _
  have hc1 : (c : Int) < (N : Int) := by omega
  have HH := hid h
  clear h
  unfold askS
  simp only [Bool.false_eq_true, if_false] at HRF
  rw [← hlen] at HRF
  by_cases hf : (s.ms c d).length = 12
  · rw [if_pos hf] at HRF ⊢
    rw [if_pos hf]
    clear hf hlen
    go_enter Tryz.func27, Tryz.ntmps27
    go_wp2_with fail
    refine HOL.out.mono ?_
    rintro e w1 ⟨rfl, rfl⟩
    go_wp2_with fail
    refine HRF.out.mono ?_
    rintro e w2 ⟨rfl, hb⟩
    have HB := hid hb; clear hb
    go_wp2
    go_ret
    exact ⟨rfl, HH.out.same HB.out⟩
  · rw [if_neg hf] at HRF ⊢
    rw [if_neg hf]
    have HF := hid (And.intro hf hlen)
    clear hf hlen
    go_enter Tryz.func27, Tryz.ntmps27
    go_wp2_with fail
    refine HOL.out.mono ?_
    rintro e w1 ⟨rfl, rfl⟩
    go_wp2_with fail
    refine HRF.out.mono ?_
    rintro e w2 ⟨rfl, hb⟩
    replace c0 := keep hb c0
    replace c1 := keep hb c1
    have HB := hid hb; clear hb
    go_wp2_with fail
    refine (HQ.out _ HB.out).mono ?_
    rintro e w3 ⟨u, rfl, hu, hb3⟩
    obtain ⟨g, cg, hue, hg1, hg2, hkn⟩ := hu.msg (by rw [hasL_len]; omega) (by rw [hasL_len]; omega)
    rw [hasL_len] at hue
    subst hue
    have HB3 := hid (HB.out.trans (hb3.mono HB.out.size))
    have HU := hid (And.intro hg1 (And.intro hg2 (And.intro hkn hb3))); clear hu hb3 hkn hg1 hg2
    have HBA := hid (HB3.out.alloc HB3.out.size (.cells #[.iface 115 (.slice (some ⟨g, 0, none⟩) N cg)] 147))
    have HSD := hid (send_q (off := 0) (cap := 1) (n := 1) (g := w3.heap.size) ((HH.out.keep HBA.out).link c d hc hd hcd) (fun _ => .iface 115 (.slice (some ⟨g, 0, none⟩) N cg)) (by omega) (fun j hj => by
      obtain rfl : j = 0 := by omega
      exact (blk1 (blk_new w3 _))))
    go_wp2_with fail
    refine HSD.out.mono ?_
    rintro e w4 ⟨rfl, sn, hl4, hT4⟩
    have HX := hid (And.intro hl4 hT4); clear hl4 hT4
    go_wp2
    go_ret
    obtain ⟨hg1, hg2, hkn, hb3⟩ := HU.out
    have hz := HB.out.size
    have hM2 := HH.out.keep HBA.out
    have hI' := hM2.moreI (I' := fun k => I k ∨ k = g) (fun k hk => .inl hk) (fun k hk => by
      rcases hk with hk | rfl
      · exact hM2.iI k hk
      · simp only [World.size_alloc]; omega) (fun k hk hF => by
      rcases hk with hk | rfl
      · exact HH.out.nI k hk hF
      · have := HH.out.lt _ hF; omega)
    have hl := HX.out.1
    rw [show sentTo false (x.vals c d) ((List.range 1).map fun _ => Value.iface 115 (.slice (some ⟨g, 0, none⟩) N cg)) = x.vals c d ++ [.iface 115 (.slice (some ⟨g, 0, none⟩) N cg)] by
      have h1 : ¬ (x.vals c d).length = 12 := by rw [← HF.out.2]; exact HF.out.1
      simp [sentTo, h1, List.range_succ]] at hl
    have hmsg : msgV (w3.alloc (.cells #[.iface 115 (.slice (some ⟨g, 0, none⟩) N cg)] 147)) (fun k => I k ∨ k = g) (.inl (hasL N (s.has c))) (.iface 115 (.slice (some ⟨g, 0, none⟩) N cg)) := by
      refine ⟨g, cg, by rw [hasL_len], ?_, .inr rfl⟩
      exact hkn.keep ((Below.refl w3.heap.size w3).alloc (Nat.le_refl _) _)
    have hR := hI'.linkTo hc hd hcd hl HX.out.2 (All2.snoc hmsg (hI'.mss c d hc hd hcd))
    refine ⟨rfl, F, _, _, hR, keeps_link HBA.out HX.out.2 (HH.out.fl c d hc hd hcd).2, fun k hk => ⟨.inl hk, ?_⟩, fun k hk => hk.imp id fun e => (by rw [e]; omega)⟩
    exact (HX.out.2.other k (Nat.lt_of_lt_of_le (HH.out.iI k hk) HBA.out.size) fun e => HH.out.nI k hk (e ▸ (HH.out.fl c d hc hd hcd).2)).trans (HBA.out.block k (HH.out.iI k hk))

end Go.Proofs.YtnkpogjiiohapaaGreatDoor

/-! GLinkC: Links: later, again. -/
namespace Go.Proofs.YtnkpogjiiohapaaGreatDoor
open Go.RowKit
attribute [local go_sem ↓] Go.wp_at_zero Go.wp_at_succ

theorem isLink.taken {w : World} {gl gc : Nat} {x : Value} {l : List Value} {shut : Bool} {s r : Nat} (h : isLink w gl gc (x :: l) shut s r) : isLink (w.setChan gc 12 l.toArray shut s (r + 1) false) gl gc l shut s (r + 1) :=
  ⟨(setChan_other w _ _ _ _ _ _ (h.ne (i := 0) (v := .chan (some gc)) (by simp [World.cell?, h.blk]))).trans h.blk, by rw [Go.Conc.heap_setChan _ _ _ _ _ _ _ _ (blk_lt h.ch)], by have := h.len; simp at this; omega⟩
theorem sent_one {l : List Value} {m : Value} (h : l.length < 12) : sentTo false l ((List.range 1).map fun _ => m) = l ++ [m] := by
  have h1 : ¬ l.length = 12 := by omega
  simp [sentTo, h1, List.range_succ]
/-- One message more is sent. -/
theorem send_one {w : World} {gl gc g : Nat} {l : List Value} {s r : Nat} (h : isLink w gl gc l false s r) (hl : l.length < 12) (m : Value) (hg : w.heap[g]? = some (.cells #[m] 147 (0, 0))) :
    Calls Tryz.prog 53 #[.pointer (some ⟨gl, 0, none⟩), .slice (some ⟨g, 0, none⟩) 1 1] w fun e w' => e = .returned (.tuple #[]) ∧ ∃ s', isLink w' gl gc (l ++ [m]) false s' r ∧ Turned (fun k => k = gc) w w' := by
  refine (send_q (off := 0) (cap := 1) (n := 1) h (fun _ => m) (by omega) (fun j hj => by
    obtain rfl : j = 0 := by omega
    exact blk1 hg)).mono ?_
  rintro e w' ⟨rfl, s', hl', ht⟩
  rw [sent_one hl] at hl'
  exact ⟨rfl, s', hl', ht⟩

set_option maxRecDepth 1000000 in
set_option maxHeartbeats 1000000 in
theorem later_q {w : World} {gl gc : Nat} {t : TypeId} {v : Value} {l : List Value} {s r : Nat} (h : isLink w gl gc (.iface t v :: l) false s r) :
    Calls Tryz.prog 80 #[.pointer (some ⟨gl, 0, none⟩)] w fun e w' => (∃ u, e = .returned u) ∧ ∃ s' r', isLink w' gl gc (l ++ [.iface t v]) false s' r' ∧ Turned (fun k => k = gc) w w' := by
  have HR := hid (receive_q h)
  have hl : l.length < 12 := by have := h.len; simp at this; omega
  have HT1 := hid (setChan_turned w gc 12 l.toArray false s (r + 1) false)
  have HL1 := hid h.taken
  clear h
  obtain ⟨w1, hw1⟩ : ∃ w1, w.setChan gc 12 l.toArray false s (r + 1) false = w1 := ⟨_, rfl⟩
  rw [hw1] at HR HT1 HL1
  clear hw1
  have HBA := hid ((Below.refl w1.heap.size w1).alloc (Nat.le_refl _) (.cells #[.iface t v] 147))
  have HS := hid (send_one (HL1.out.keep HBA.out) hl (.iface t v) (blk_new w1 _))
  go_enter Tryz.func80, Tryz.ntmps80
  go_wp2_with fail
  refine HR.out.mono ?_
  rintro e w2 ⟨rfl, rfl⟩
  go_wp2_with fail
  refine HS.out.mono ?_
  rintro e w3 ⟨rfl, s', hl3, ht3⟩
  have HX := hid (And.intro hl3 ht3); clear hl3 ht3
  go_wp2
  go_end0
  exact ⟨⟨_, rfl⟩, s', _, HX.out.1, HT1.out.trans ((Turned.of_below HBA.out).trans HX.out.2)⟩

set_option maxRecDepth 1000000 in
set_option maxHeartbeats 2000000 in
theorem again_q {w : World} {gl gc : Nat} {t : TypeId} {v : Value} {l : List Value} {s r : Nat} (h : isLink w gl gc (.iface t v :: l) false s r) (hl : l.length < 11) (hi : ∀ u ∈ l, ∃ t v, u = .iface t v) :
    Calls Tryz.prog 79 #[.pointer (some ⟨gl, 0, none⟩)] w fun e w' => (∃ u, e = .returned u) ∧ ∃ s' r', isLink w' gl gc (.iface t v :: l ++ [.iface t v]) false s' r' ∧ Turned (fun k => k = gc) w w' := by
  have HR := hid (receive_q h)
  have HT1 := hid (setChan_turned w gc 12 l.toArray false s (r + 1) false)
  have HL1 := hid h.taken
  have HI := hid hi; clear hi
  clear h
  obtain ⟨w1, hw1⟩ : ∃ w1, w.setChan gc 12 l.toArray false s (r + 1) false = w1 := ⟨_, rfl⟩
  rw [hw1] at HR HT1 HL1
  clear hw1
  have HBA := hid ((Below.refl w1.heap.size w1).alloc (Nat.le_refl _) (.cells #[.iface t v] 147))
  have HS := hid (send_one (HL1.out.keep HBA.out) (by omega) (.iface t v) (blk_new w1 _))
  go_enter Tryz.func79, Tryz.ntmps79
  go_wp2_with fail
  refine HR.out.mono ?_
  rintro e w2 ⟨rfl, rfl⟩
  go_wp2_with fail
  refine HS.out.mono ?_
  rintro e w3 ⟨rfl, s', hl3, ht3⟩
  have HW := hid (waiting_q hl3)
  rw [List.length_append, List.length_singleton] at HW
  have HX := hid (And.intro hl3 (HT1.out.trans ((Turned.of_below HBA.out).trans ht3))); clear hl3 ht3
  go_wp2_with fail
  refine HW.out.mono ?_
  rintro e w4 ⟨rfl, rfl⟩
  go_wp2_with fail
  go_loopw [12] (fun i wr => ∃ k s' r', k ≤ l.length ∧ i = .int .i64 (k : Nat) ∧ isLink wr gl gc (l.drop k ++ [.iface t v] ++ l.take k) false s' r' ∧ Turned (fun k => k = gc) w wr) (fun i _ => l.length - (intOf i).toNat)
  case atStart => exact ⟨0, s', _, Nat.zero_le _, rfl, by simpa using HX.out.1, HX.out.2⟩
  case round =>
    obtain ⟨k, s2, r2, hk, rfl, hlk, hT⟩ := hrel
    by_cases hlt : k < l.length
    · obtain ⟨t2, v2, hu⟩ := HI.out l[k] (List.getElem_mem hlt)
      rw [List.drop_eq_getElem_cons hlt, hu, List.cons_append, List.cons_append] at hlk
      have HLA := hid (later_q hlk)
      have HTT := hid hT; clear hT hlk
      have HTK := hid (show l.take (k + 1) = l.take k ++ [.iface t2 v2] by rw [List.take_succ_eq_append_getElem hlt, hu]); clear hu
      go_wp2_with fail
      refine HLA.out.mono ?_
      rintro e w5 ⟨⟨u, rfl⟩, s5, r5, hl5, ht5⟩
      have HY := hid (And.intro hl5 ht5); clear hl5 ht5
      go_wp2
      go_roundw
      case rel =>
        refine ⟨k + 1, s5, r5, hlt, by go_num, ?_, HTT.out.trans HY.out.2⟩
        rw [HTK.out]
        have := HY.out.1
        simpa using this
      case measure => simp [intOf]; omega
    · have hke : k = l.length := by omega
      subst hke
      rw [List.drop_length, List.take_length] at hlk
      have HBB := hid ((Below.refl wr.heap.size wr).alloc (Nat.le_refl _) (.cells #[.iface t v] 147))
      have HS2 := hid (send_one (hlk.keep HBB.out) (by simp; omega) (.iface t v) (blk_new wr _))
      have HTT := hid hT; clear hT hlk
      go_wp2_with fail
      refine HS2.out.mono ?_
      rintro e w5 ⟨rfl, s5, hl5, ht5⟩
      have HY := hid (And.intro hl5 ht5); clear hl5 ht5
      go_wp2
      go_end0
      refine ⟨⟨_, rfl⟩, s5, r2, ?_, HTT.out.trans ((Turned.of_below HBB.out).trans HY.out.2)⟩
      have := HY.out.1
      simpa using this

end Go.Proofs.YtnkpogjiiohapaaGreatDoor

/-! GRoomC: The program's room in general: Lose, Later, Again. -/
namespace Go.Proofs.YtnkpogjiiohapaaGreatDoor
open Go.RowKit
attribute [local go_sem ↓] Go.wp_at_zero Go.wp_at_succ

theorem msgV.face {w : World} {I : Nat → Prop} : ∀ {m : Msg} {u : Value}, msgV w I m u → ∃ t v, u = .iface t v
  | .inl _, _, ⟨_, _, h, _⟩ => ⟨_, _, h⟩
  | .inr _, _, ⟨_, h, _⟩ => ⟨_, _, h⟩
theorem All2.faces {w : World} {I : Nat → Prop} : ∀ {ms : List Msg} {l : List Value}, All2 (msgV w I) ms l → ∀ u ∈ l, ∃ t v, u = .iface t v
  | [], [], _, _, hu => by cases hu
  | [], _ :: _, h, _, _ => h.elim
  | _ :: _, [], h, _, _ => h.elim
  | _ :: _, _ :: _, h, u, hu => by
    rcases List.mem_cons.1 hu with rfl | hu
    · exact h.1.face
    · exact All2.faces h.2 u hu

/-- On a link other messages wait. -/
def msTo (s : RoomS) (c d : Nat) (l : List Msg) : RoomS := { s with ms := upd s.ms c (upd (s.ms c) d l) }
theorem RoomM.linked {w w' : World} {r : Nat} {F I : Nat → Prop} {N sp : Nat} {s : RoomS} {x : RoomX} (h : RoomM w r F I N sp s x) {c d : Nat} (hc : c < N) (hd : d < N) (hcd : c ≠ d) {l : List Value} {ms : List Msg} {sn rn : Nat} (hl : isLink w' (x.gl c d) (x.gc c d) l false sn rn) (ht : Turned (fun k => k = x.gc c d) w w') (hm : All2 (msgV w I) ms l) : RoomTo r N sp F I w w' (msTo s c d ms) :=
  ⟨F, I, _, h.linkTo hc hd hcd hl ht hm, keeps_link (Below.refl _ _) ht (h.fl c d hc hd hcd).2, fun k hk => ⟨hk, ht.other k (h.iI k hk) fun e => h.nI k hk (e ▸ (h.fl c d hc hd hcd).2)⟩, fun _ hk => .inl hk⟩
/-- What waits first on a link that is used. -/
theorem RoomM.first {w : World} {r : Nat} {F I : Nat → Prop} {N sp : Nat} {s : RoomS} {x : RoomX} (h : RoomM w r F I N sp s x) {c d : Nat} (hc : c < N) (hd : d < N) (hcd : c ≠ d) {m : Msg} {ms : List Msg} (hm : s.ms c d = m :: ms) : ∃ t v l, x.vals c d = .iface t v :: l ∧ msgV w I m (.iface t v) ∧ All2 (msgV w I) ms l ∧ ms.length = l.length ∧ ∀ u ∈ l, ∃ t v, u = .iface t v := by
  have h2 := h.mss c d hc hd hcd
  rw [hm] at h2
  cases hv : x.vals c d with
  | nil => rw [hv] at h2; exact h2.elim
  | cons u l =>
    rw [hv] at h2
    obtain ⟨t, v, rfl⟩ := h2.1.face
    exact ⟨t, v, l, rfl, h2.1, h2.2, h2.2.len, h2.2.faces⟩

def loseS (s : RoomS) (c d : Nat) : RoomS := match s.ms c d with
  | [] => s
  | _ :: l => msTo s c d l
def laterS (s : RoomS) (c d : Nat) : RoomS := match s.ms c d with
  | [] => s
  | m :: l => msTo s c d (l ++ [m])
def againS (s : RoomS) (c d : Nat) : RoomS := match s.ms c d with
  | [] => s
  | m :: l => if l.length = 11 then s else msTo s c d (m :: l ++ [m])

section
set_option maxRecDepth 1000000 in
set_option maxHeartbeats 1000000 in
/-- LOSE. -/
theorem lose_any {w : World} {r : Nat} {F I : Nat → Prop} {N sp : Nat} {s : RoomS} {x : RoomX} (h : RoomM w r F I N sp s x) {c d : Nat} (hc : c < N) (hd : d < N) (hcd : c ≠ d) : Calls Tryz.prog 41 #[.pointer (some ⟨r, 0, none⟩), .int .i64 c, .int .i64 d] w fun e w' => (∃ v, e = .returned v) ∧ RoomTo r N sp F I w w' (loseS s c d) := by
  have HOU := hid (onUsedLink_any h hc hd hcd)
  unfold loseS
  cases hm : s.ms c d with
  | nil =>
    rw [if_pos hm] at HOU
    have HH := hid h; clear h hm
    go_enter Tryz.func41, Tryz.ntmps41
    go_wp2_with fail
    refine HOU.out.mono ?_
    rintro e w1 ⟨rfl, rfl⟩
    go_wp2
    go_ret
    exact ⟨⟨_, rfl⟩, HH.out.same (Below.refl _ _)⟩
  | cons m ms =>
    rw [if_neg (by rw [hm]; simp)] at HOU
    obtain ⟨t, v, l, hv, h1, h2, _, _⟩ := h.first hc hd hcd hm
    have hl := h.link c d hc hd hcd
    rw [hv] at hl
    have HR := hid (receive_q hl)
    have HT := hid (h.linked hc hd hcd hl.taken (setChan_turned w _ 12 l.toArray false _ _ false) h2)
    clear h hm h1 h2 hl hv
    go_enter Tryz.func41, Tryz.ntmps41
    go_wp2_with fail
    refine HOU.out.mono ?_
    rintro e w1 ⟨rfl, rfl⟩
    go_wp2_with fail
    refine HR.out.mono ?_
    rintro e w2 ⟨rfl, rfl⟩
    go_wp2
    go_ret
    exact ⟨⟨_, rfl⟩, HT.out⟩

set_option maxRecDepth 1000000 in
set_option maxHeartbeats 1000000 in
/-- LATER. -/
theorem later_any {w : World} {r : Nat} {F I : Nat → Prop} {N sp : Nat} {s : RoomS} {x : RoomX} (h : RoomM w r F I N sp s x) {c d : Nat} (hc : c < N) (hd : d < N) (hcd : c ≠ d) : Calls Tryz.prog 43 #[.pointer (some ⟨r, 0, none⟩), .int .i64 c, .int .i64 d] w fun e w' => (∃ v, e = .returned v) ∧ RoomTo r N sp F I w w' (laterS s c d) := by
  have HOU := hid (onUsedLink_any h hc hd hcd)
  unfold laterS
  cases hm : s.ms c d with
  | nil =>
    rw [if_pos hm] at HOU
    have HH := hid h; clear h hm
    go_enter Tryz.func43, Tryz.ntmps43
    go_wp2_with fail
    refine HOU.out.mono ?_
    rintro e w1 ⟨rfl, rfl⟩
    go_wp2
    go_ret
    exact ⟨⟨_, rfl⟩, HH.out.same (Below.refl _ _)⟩
  | cons m ms =>
    rw [if_neg (by rw [hm]; simp)] at HOU
    obtain ⟨t, v, l, hv, h1, h2, _, _⟩ := h.first hc hd hcd hm
    have hl := h.link c d hc hd hcd
    rw [hv] at hl
    have s1 : w.cell? ⟨x.gl c d, 1, none⟩ = some (.bool false) := by simp [World.cell?, hl.blk]
    have HR := hid (later_q hl)
    have HH := hid (And.intro h (And.intro h1 h2))
    clear h hm h1 h2 hl hv
    go_enter Tryz.func43, Tryz.ntmps43
    go_wp2_with fail
    refine HOU.out.mono ?_
    rintro e w1 ⟨rfl, rfl⟩
    go_wp2_with fail
    refine HR.out.mono ?_
    rintro e w2 ⟨⟨u, rfl⟩, s', r', hl2, ht2⟩
    have HX := hid (And.intro hl2 ht2); clear hl2 ht2
    go_wp2
    go_ret
    exact ⟨⟨_, rfl⟩, HH.out.1.linked hc hd hcd HX.out.1 HX.out.2 (All2.snoc HH.out.2.1 HH.out.2.2)⟩

set_option maxRecDepth 1000000 in
set_option maxHeartbeats 1000000 in
/-- AGAIN. -/
theorem again_any {w : World} {r : Nat} {F I : Nat → Prop} {N sp : Nat} {s : RoomS} {x : RoomX} (h : RoomM w r F I N sp s x) {c d : Nat} (hc : c < N) (hd : d < N) (hcd : c ≠ d) : Calls Tryz.prog 42 #[.pointer (some ⟨r, 0, none⟩), .int .i64 c, .int .i64 d] w fun e w' => (∃ v, e = .returned v) ∧ RoomTo r N sp F I w w' (againS s c d) := by
  have HOU := hid (onUsedLink_any h hc hd hcd)
  unfold againS
  cases hm : s.ms c d with
  | nil =>
    rw [if_pos hm] at HOU
    have HH := hid h; clear h hm
    go_enter Tryz.func42, Tryz.ntmps42
    go_wp2_with fail
    refine HOU.out.mono ?_
    rintro e w1 ⟨rfl, rfl⟩
    go_wp2
    go_ret
    exact ⟨⟨_, rfl⟩, HH.out.same (Below.refl _ _)⟩
  | cons m ms =>
    rw [if_neg (by rw [hm]; simp)] at HOU
    obtain ⟨t, v, l, hv, h1, h2, hln, hfc⟩ := h.first hc hd hcd hm
    have hl := h.link c d hc hd hcd
    rw [hv] at hl
    have HRF := hid (refusal_q hl)
    simp only [Bool.false_eq_true, if_false, List.length_cons] at HRF
    have hlen := hl.len
    simp only [List.length_cons] at hlen
    by_cases hf : ms.length = 11
    · simp only [if_pos hf]
      have hf' : l.length + 1 = 12 := by omega
      rw [if_pos hf'] at HRF
      have HH := hid h
      clear h hm h1 h2 hl hv hf hf' hln hlen
      go_enter Tryz.func42, Tryz.ntmps42
      go_wp2_with fail
      refine HOU.out.mono ?_
      rintro e w1 ⟨rfl, rfl⟩
      go_wp2_with fail
      refine HRF.out.mono ?_
      rintro e w2 ⟨rfl, hb⟩
      have HB := hid hb; clear hb
      go_wp2
      go_ret
      exact ⟨⟨_, rfl⟩, HH.out.same HB.out⟩
    · simp only [if_neg hf]
      have hf' : ¬ l.length + 1 = 12 := by omega
      rw [if_neg hf'] at HRF
      have hl11 : l.length < 11 := by omega
      have HR := hid (fun W (hb : Below w.heap.size w W) => again_q (hl.keep hb) hl11 hfc)
      have HH := hid (And.intro h (And.intro h1 h2))
      clear h hm h1 h2 hl hv hf hf' hln hlen hl11
      go_enter Tryz.func42, Tryz.ntmps42
      go_wp2_with fail
      refine HOU.out.mono ?_
      rintro e w1 ⟨rfl, rfl⟩
      go_wp2_with fail
      refine HRF.out.mono ?_
      rintro e w2 ⟨rfl, hb⟩
      have HB := hid hb; clear hb
      go_wp2_with fail
      refine (HR.out _ HB.out).mono ?_
      rintro e w3 ⟨⟨u, rfl⟩, s', r', hl2, ht2⟩
      have HX := hid (And.intro hl2 ht2); clear hl2 ht2
      go_wp2
      go_ret
      obtain ⟨F', I', x', hR, hK, hI⟩ := ((HH.out.1.keep HB.out).linked hc hd hcd HX.out.1 HX.out.2 (All2.snoc (l := _ :: _) (m := _ :: _) (HH.out.2.1.keepI (fun k hk => HB.out.block k (HH.out.1.iI k hk)) HB.out.size (fun _ y => y)) ⟨HH.out.2.1.keepI (fun k hk => HB.out.block k (HH.out.1.iI k hk)) HB.out.size (fun _ y => y), HH.out.2.2.imp fun m u hm => hm.keepI (fun k hk => HB.out.block k (HH.out.1.iI k hk)) HB.out.size (fun _ y => y)⟩))
      exact ⟨⟨_, rfl⟩, F', I', x', hR, hK.before HB.out, fun k hk => ⟨(hI.1 k hk).1, (hI.1 k hk).2.trans (HB.out.block k (HH.out.1.iI k hk))⟩, fun k hk => (hI.2 k hk).imp id fun h => Nat.le_trans HB.out.size h⟩
end

end Go.Proofs.YtnkpogjiiohapaaGreatDoor
