/- Our own text (GLinkC, GRoomC, GGhA). -/
import Derived.Test.YtnkpogjiiohapaaGreatDoorA29
import Derived.Test.YtnkpogjiiohapaaGreatDoorA23
set_option linter.unusedSimpArgs false
set_option linter.unusedVariables false

/-! GLinkC: Links: later, again. -/
namespace Go.Proofs.YtnkpogjiiohapaaGreatDoor
open Go.RowKit
attribute [local go_sem ↓] Go.wp_at_zero Go.wp_at_succ

theorem isLink.taken {w : World} {gl gc : Nat} {x : Value} {l : List Value} {shut : Bool} {s r : Nat} (h : isLink w gl gc (x :: l) shut s r) : isLink (w.setChan gc 12 l.toArray shut s (r + 1) false) gl gc l shut s (r + 1) :=
  ⟨(setChan_other w _ _ _ _ _ _ (h.ne (i := 0) (v := .chan (some gc)) (by simp [World.cell?, h.blk]))).trans h.blk, by rw [Go.Conc.heap_setChan _ _ _ _ _ _ _ _ (blk_lt h.ch)], by have := h.len; simp at this; omega⟩
theorem sent_one {l : List Value} {m : Value} (h : l.length < 12) : sentTo false l ((List.range 1).map fun _ => m) = l ++ [m] := by
  have h1 : ¬ l.length = 12 := by omega
  simp [sentTo, h1, List.range_succ]
/-- One message more is sent. -/
theorem send_one {w : World} {gl gc g : Nat} {l : List Value} {s r : Nat} (h : isLink w gl gc l false s r) (hl : l.length < 12) (m : Value) (hg : w.heap[g]? = some (.cells #[m] 147 (0, 0))) :
    Calls Tryz.prog 53 #[.pointer (some ⟨gl, 0, none⟩), .slice (some ⟨g, 0, none⟩) 1 1] w fun e w' => e = .returned (.tuple #[]) ∧ ∃ s', isLink w' gl gc (l ++ [m]) false s' r ∧ Turned (fun k => k = gc) w w' := by
  refine (send_q (off := 0) (cap := 1) (n := 1) h (fun _ => m) (by omega) (fun j hj => by
    obtain rfl : j = 0 := by omega
    exact blk1 hg)).mono ?_
  rintro e w' ⟨rfl, s', hl', ht⟩
  rw [sent_one hl] at hl'
  exact ⟨rfl, s', hl', ht⟩

set_option maxRecDepth 1000000 in
set_option maxHeartbeats 1000000 in
theorem later_q {w : World} {gl gc : Nat} {t : TypeId} {v : Value} {l : List Value} {s r : Nat} (h : isLink w gl gc (.iface t v :: l) false s r) :
    Calls Tryz.prog 80 #[.pointer (some ⟨gl, 0, none⟩)] w fun e w' => (∃ u, e = .returned u) ∧ ∃ s' r', isLink w' gl gc (l ++ [.iface t v]) false s' r' ∧ Turned (fun k => k = gc) w w' := by
  have HR := hid (receive_q h)
  have hl : l.length < 12 := by have := h.len; simp at this; omega
  have HT1 := hid (setChan_turned w gc 12 l.toArray false s (r + 1) false)
  have HL1 := hid h.taken
  clear h
  obtain ⟨w1, hw1⟩ : ∃ w1, w.setChan gc 12 l.toArray false s (r + 1) false = w1 := ⟨_, rfl⟩
  rw [hw1] at HR HT1 HL1
  clear hw1
  have HBA := hid ((Below.refl w1.heap.size w1).alloc (Nat.le_refl _) (.cells #[.iface t v] 147))
  have HS := hid (send_one (HL1.out.keep HBA.out) hl (.iface t v) (blk_new w1 _))
  go_enter Tryz.func80, Tryz.ntmps80
  go_wp2_with fail
  refine HR.out.mono ?_
  rintro e w2 ⟨rfl, rfl⟩
  go_wp2_with fail
  refine HS.out.mono ?_
  rintro e w3 ⟨rfl, s', hl3, ht3⟩
  have HX := hid (And.intro hl3 ht3); clear hl3 ht3
  go_wp2
  go_end0
  exact ⟨⟨_, rfl⟩, s', _, HX.out.1, HT1.out.trans ((Turned.of_below HBA.out).trans HX.out.2)⟩

set_option maxRecDepth 1000000 in
set_option maxHeartbeats 2000000 in
theorem again_q {w : World} {gl gc : Nat} {t : TypeId} {v : Value} {l : List Value} {s r : Nat} (h : isLink w gl gc (.iface t v :: l) false s r) (hl : l.length < 11) (hi : ∀ u ∈ l, ∃ t v, u = .iface t v) :
    Calls Tryz.prog 79 #[.pointer (some ⟨gl, 0, none⟩)] w fun e w' => (∃ u, e = .returned u) ∧ ∃ s' r', isLink w' gl gc (.iface t v :: l ++ [.iface t v]) false s' r' ∧ Turned (fun k => k = gc) w w' := by
  have HR := hid (receive_q h)
  have HT1 := hid (setChan_turned w gc 12 l.toArray false s (r + 1) false)
  have HL1 := hid h.taken
  have HI := hid hi; clear hi
  clear h
  obtain ⟨w1, hw1⟩ : ∃ w1, w.setChan gc 12 l.toArray false s (r + 1) false = w1 := ⟨_, rfl⟩
  rw [hw1] at HR HT1 HL1
  clear hw1
  have HBA := hid ((Below.refl w1.heap.size w1).alloc (Nat.le_refl _) (.cells #[.iface t v] 147))
  have HS := hid (send_one (HL1.out.keep HBA.out) (by omega) (.iface t v) (blk_new w1 _))
  go_enter Tryz.func79, Tryz.ntmps79
  go_wp2_with fail
  refine HR.out.mono ?_
  rintro e w2 ⟨rfl, rfl⟩
  go_wp2_with fail
  refine HS.out.mono ?_
  rintro e w3 ⟨rfl, s', hl3, ht3⟩
  have HW := hid (waiting_q hl3)
  rw [List.length_append, List.length_singleton] at HW
  have HX := hid (And.intro hl3 (HT1.out.trans ((Turned.of_below HBA.out).trans ht3))); clear hl3 ht3
  go_wp2_with fail
  refine HW.out.mono ?_
  rintro e w4 ⟨rfl, rfl⟩
  go_wp2_with fail
  go_loopw [12] (fun i wr => ∃ k s' r', k ≤ l.length ∧ i = .int .i64 (k : Nat) ∧ isLink wr gl gc (l.drop k ++ [.iface t v] ++ l.take k) false s' r' ∧ Turned (fun k => k = gc) w wr) (fun i _ => l.length - (intOf i).toNat)
  case atStart => exact ⟨0, s', _, Nat.zero_le _, rfl, by simpa using HX.out.1, HX.out.2⟩
  case round =>
    obtain ⟨k, s2, r2, hk, rfl, hlk, hT⟩ := hrel
    by_cases hlt : k < l.length
    · obtain ⟨t2, v2, hu⟩ := HI.out l[k] (List.getElem_mem hlt)
      rw [List.drop_eq_getElem_cons hlt, hu, List.cons_append, List.cons_append] at hlk
      have HLA := hid (later_q hlk)
      have HTT := hid hT; clear hT hlk
      have HTK := hid (show l.take (k + 1) = l.take k ++ [.iface t2 v2] by rw [List.take_succ_eq_append_getElem hlt, hu]); clear hu
      go_wp2_with fail
      refine HLA.out.mono ?_
      rintro e w5 ⟨⟨u, rfl⟩, s5, r5, hl5, ht5⟩
      have HY := hid (And.intro hl5 ht5); clear hl5 ht5
      go_wp2
      go_roundw
      case rel =>
        refine ⟨k + 1, s5, r5, hlt, by go_num, ?_, HTT.out.trans HY.out.2⟩
        rw [HTK.out]
        have := HY.out.1
        simpa using this
      case measure => simp [intOf]; omega
    · have hke : k = l.length := by omega
      subst hke
      rw [List.drop_length, List.take_length] at hlk
      have HBB := hid ((Below.refl wr.heap.size wr).alloc (Nat.le_refl _) (.cells #[.iface t v] 147))
      have HS2 := hid (send_one (hlk.keep HBB.out) (by simp; omega) (.iface t v) (blk_new wr _))
      have HTT := hid hT; clear hT hlk
      go_wp2_with fail
      refine HS2.out.mono ?_
      rintro e w5 ⟨rfl, s5, hl5, ht5⟩
      have HY := hid (And.intro hl5 ht5); clear hl5 ht5
      go_wp2
      go_end0
      refine ⟨⟨_, rfl⟩, s5, r2, ?_, HTT.out.trans ((Turned.of_below HBB.out).trans HY.out.2)⟩
      have := HY.out.1
      simpa using this

end Go.Proofs.YtnkpogjiiohapaaGreatDoor

/-! GRoomC: The program's room in general: Lose, Later, Again. -/
namespace Go.Proofs.YtnkpogjiiohapaaGreatDoor
open Go.RowKit
attribute [local go_sem ↓] Go.wp_at_zero Go.wp_at_succ

theorem msgV.face {w : World} {I : Nat → Prop} : ∀ {m : Msg} {u : Value}, msgV w I m u → ∃ t v, u = .iface t v
  | .inl _, _, ⟨_, _, h, _⟩ => ⟨_, _, h⟩
  | .inr _, _, ⟨_, h, _⟩ => ⟨_, _, h⟩
theorem All2.faces {w : World} {I : Nat → Prop} : ∀ {ms : List Msg} {l : List Value}, All2 (msgV w I) ms l → ∀ u ∈ l, ∃ t v, u = .iface t v
  | [], [], _, _, hu => by cases hu
  | [], _ :: _, h, _, _ => h.elim
  | _ :: _, [], h, _, _ => h.elim
  | _ :: _, _ :: _, h, u, hu => by
    rcases List.mem_cons.1 hu with rfl | hu
    · exact h.1.face
    · exact All2.faces h.2 u hu

/-- On a link other messages wait. -/
def msTo (s : RoomS) (c d : Nat) (l : List Msg) : RoomS := { s with ms := upd s.ms c (upd (s.ms c) d l) }
theorem RoomM.linked {w w' : World} {r : Nat} {F I : Nat → Prop} {N sp : Nat} {s : RoomS} {x : RoomX} (h : RoomM w r F I N sp s x) {c d : Nat} (hc : c < N) (hd : d < N) (hcd : c ≠ d) {l : List Value} {ms : List Msg} {sn rn : Nat} (hl : isLink w' (x.gl c d) (x.gc c d) l false sn rn) (ht : Turned (fun k => k = x.gc c d) w w') (hm : All2 (msgV w I) ms l) : RoomTo r N sp F I w w' (msTo s c d ms) :=
  ⟨F, I, _, h.linkTo hc hd hcd hl ht hm, keeps_link (Below.refl _ _) ht (h.fl c d hc hd hcd).2, fun k hk => ⟨hk, ht.other k (h.iI k hk) fun e => h.nI k hk (e ▸ (h.fl c d hc hd hcd).2)⟩⟩
/-- What waits first on a link that is used. -/
theorem RoomM.first {w : World} {r : Nat} {F I : Nat → Prop} {N sp : Nat} {s : RoomS} {x : RoomX} (h : RoomM w r F I N sp s x) {c d : Nat} (hc : c < N) (hd : d < N) (hcd : c ≠ d) {m : Msg} {ms : List Msg} (hm : s.ms c d = m :: ms) : ∃ t v l, x.vals c d = .iface t v :: l ∧ msgV w I m (.iface t v) ∧ All2 (msgV w I) ms l ∧ ms.length = l.length ∧ ∀ u ∈ l, ∃ t v, u = .iface t v := by
  have h2 := h.mss c d hc hd hcd
  rw [hm] at h2
  cases hv : x.vals c d with
  | nil => rw [hv] at h2; exact h2.elim
  | cons u l =>
    rw [hv] at h2
    obtain ⟨t, v, rfl⟩ := h2.1.face
    exact ⟨t, v, l, rfl, h2.1, h2.2, h2.2.len, h2.2.faces⟩

def loseS (s : RoomS) (c d : Nat) : RoomS := match s.ms c d with
  | [] => s
  | _ :: l => msTo s c d l
def laterS (s : RoomS) (c d : Nat) : RoomS := match s.ms c d with
  | [] => s
  | m :: l => msTo s c d (l ++ [m])
def againS (s : RoomS) (c d : Nat) : RoomS := match s.ms c d with
  | [] => s
  | m :: l => if l.length = 11 then s else msTo s c d (m :: l ++ [m])

section
set_option maxRecDepth 1000000 in
set_option maxHeartbeats 1000000 in
/-- LOSE. -/
theorem lose_any {w : World} {r : Nat} {F I : Nat → Prop} {N sp : Nat} {s : RoomS} {x : RoomX} (h : RoomM w r F I N sp s x) {c d : Nat} (hc : c < N) (hd : d < N) (hcd : c ≠ d) : Calls Tryz.prog 41 #[.pointer (some ⟨r, 0, none⟩), .int .i64 c, .int .i64 d] w fun e w' => (∃ v, e = .returned v) ∧ RoomTo r N sp F I w w' (loseS s c d) := by
  have HOU := hid (onUsedLink_any h hc hd hcd)
  unfold loseS
  cases hm : s.ms c d with
  | nil =>
    rw [if_pos hm] at HOU
    have HH := hid h; clear h hm
    go_enter Tryz.func41, Tryz.ntmps41
    go_wp2_with fail
    refine HOU.out.mono ?_
    rintro e w1 ⟨rfl, rfl⟩
    go_wp2
    go_ret
    exact ⟨⟨_, rfl⟩, HH.out.same (Below.refl _ _)⟩
  | cons m ms =>
    rw [if_neg (by rw [hm]; simp)] at HOU
    obtain ⟨t, v, l, hv, h1, h2, _, _⟩ := h.first hc hd hcd hm
    have hl := h.link c d hc hd hcd
    rw [hv] at hl
    have HR := hid (receive_q hl)
    have HT := hid (h.linked hc hd hcd hl.taken (setChan_turned w _ 12 l.toArray false _ _ false) h2)
    clear h hm h1 h2 hl hv
    go_enter Tryz.func41, Tryz.ntmps41
    go_wp2_with fail
    refine HOU.out.mono ?_
    rintro e w1 ⟨rfl, rfl⟩
    go_wp2_with fail
    refine HR.out.mono ?_
    rintro e w2 ⟨rfl, rfl⟩
    go_wp2
    go_ret
    exact ⟨⟨_, rfl⟩, HT.out⟩

set_option maxRecDepth 1000000 in
set_option maxHeartbeats 1000000 in
/-- LATER. -/
theorem later_any {w : World} {r : Nat} {F I : Nat → Prop} {N sp : Nat} {s : RoomS} {x : RoomX} (h : RoomM w r F I N sp s x) {c d : Nat} (hc : c < N) (hd : d < N) (hcd : c ≠ d) : Calls Tryz.prog 43 #[.pointer (some ⟨r, 0, none⟩), .int .i64 c, .int .i64 d] w fun e w' => (∃ v, e = .returned v) ∧ RoomTo r N sp F I w w' (laterS s c d) := by
  have HOU := hid (onUsedLink_any h hc hd hcd)
  unfold laterS
  cases hm : s.ms c d with
  | nil =>
    rw [if_pos hm] at HOU
    have HH := hid h; clear h hm
    go_enter Tryz.func43, Tryz.ntmps43
    go_wp2_with fail
    refine HOU.out.mono ?_
    rintro e w1 ⟨rfl, rfl⟩
    go_wp2
    go_ret
    exact ⟨⟨_, rfl⟩, HH.out.same (Below.refl _ _)⟩
  | cons m ms =>
    rw [if_neg (by rw [hm]; simp)] at HOU
    obtain ⟨t, v, l, hv, h1, h2, _, _⟩ := h.first hc hd hcd hm
    have hl := h.link c d hc hd hcd
    rw [hv] at hl
    have s1 : w.cell? ⟨x.gl c d, 1, none⟩ = some (.bool false) := by simp [World.cell?, hl.blk]
    have HR := hid (later_q hl)
    have HH := hid (And.intro h (And.intro h1 h2))
    clear h hm h1 h2 hl hv
    go_enter Tryz.func43, Tryz.ntmps43
    go_wp2_with fail
    refine HOU.out.mono ?_
    rintro e w1 ⟨rfl, rfl⟩
    go_wp2_with fail
    refine HR.out.mono ?_
    rintro e w2 ⟨⟨u, rfl⟩, s', r', hl2, ht2⟩
    have HX := hid (And.intro hl2 ht2); clear hl2 ht2
    go_wp2
    go_ret
    exact ⟨⟨_, rfl⟩, HH.out.1.linked hc hd hcd HX.out.1 HX.out.2 (All2.snoc HH.out.2.1 HH.out.2.2)⟩

set_option maxRecDepth 1000000 in
set_option maxHeartbeats 1000000 in
/-- AGAIN. -/
theorem again_any {w : World} {r : Nat} {F I : Nat → Prop} {N sp : Nat} {s : RoomS} {x : RoomX} (h : RoomM w r F I N sp s x) {c d : Nat} (hc : c < N) (hd : d < N) (hcd : c ≠ d) : Calls Tryz.prog 42 #[.pointer (some ⟨r, 0, none⟩), .int .i64 c, .int .i64 d] w fun e w' => (∃ v, e = .returned v) ∧ RoomTo r N sp F I w w' (againS s c d) := by
  have HOU := hid (onUsedLink_any h hc hd hcd)
  unfold againS
  cases hm : s.ms c d with
  | nil =>
    rw [if_pos hm] at HOU
    have HH := hid h; clear h hm
    go_enter Tryz.func42, Tryz.ntmps42
    go_wp2_with fail
    refine HOU.out.mono ?_
    rintro e w1 ⟨rfl, rfl⟩
    go_wp2
    go_ret
    exact ⟨⟨_, rfl⟩, HH.out.same (Below.refl _ _)⟩
  | cons m ms =>
    rw [if_neg (by rw [hm]; simp)] at HOU
    obtain ⟨t, v, l, hv, h1, h2, hln, hfc⟩ := h.first hc hd hcd hm
    have hl := h.link c d hc hd hcd
    rw [hv] at hl
    have HRF := hid (refusal_q hl)
    simp only [Bool.false_eq_true, if_false, List.length_cons] at HRF
    have hlen := hl.len
    simp only [List.length_cons] at hlen
    by_cases hf : ms.length = 11
    · simp only [if_pos hf]
      have hf' : l.length + 1 = 12 := by omega
      rw [if_pos hf'] at HRF
      have HH := hid h
      clear h hm h1 h2 hl hv hf hf' hln hlen
      go_enter Tryz.func42, Tryz.ntmps42
      go_wp2_with fail
      refine HOU.out.mono ?_
      rintro e w1 ⟨rfl, rfl⟩
      go_wp2_with fail
      refine HRF.out.mono ?_
      rintro e w2 ⟨rfl, hb⟩
      have HB := hid hb; clear hb
      go_wp2
      go_ret
      exact ⟨⟨_, rfl⟩, HH.out.same HB.out⟩
    · simp only [if_neg hf]
      have hf' : ¬ l.length + 1 = 12 := by omega
      rw [if_neg hf'] at HRF
      have hl11 : l.length < 11 := by omega
      have HR := hid (fun W (hb : Below w.heap.size w W) => again_q (hl.keep hb) hl11 hfc)
      have HH := hid (And.intro h (And.intro h1 h2))
      clear h hm h1 h2 hl hv hf hf' hln hlen hl11
      go_enter Tryz.func42, Tryz.ntmps42
      go_wp2_with fail
      refine HOU.out.mono ?_
      rintro e w1 ⟨rfl, rfl⟩
      go_wp2_with fail
      refine HRF.out.mono ?_
      rintro e w2 ⟨rfl, hb⟩
      have HB := hid hb; clear hb
      go_wp2_with fail
      refine (HR.out _ HB.out).mono ?_
      rintro e w3 ⟨⟨u, rfl⟩, s', r', hl2, ht2⟩
      have HX := hid (And.intro hl2 ht2); clear hl2 ht2
      go_wp2
      go_ret
      obtain ⟨F', I', x', hR, hK, hI⟩ := ((HH.out.1.keep HB.out).linked hc hd hcd HX.out.1 HX.out.2 (All2.snoc (l := _ :: _) (m := _ :: _) (HH.out.2.1.keepI (fun k hk => HB.out.block k (HH.out.1.iI k hk)) HB.out.size (fun _ y => y)) ⟨HH.out.2.1.keepI (fun k hk => HB.out.block k (HH.out.1.iI k hk)) HB.out.size (fun _ y => y), HH.out.2.2.imp fun m u hm => hm.keepI (fun k hk => HB.out.block k (HH.out.1.iI k hk)) HB.out.size (fun _ y => y)⟩))
      exact ⟨⟨_, rfl⟩, F', I', x', hR, hK.before HB.out, fun k hk => ⟨(hI k hk).1, (hI k hk).2.trans (HB.out.block k (HH.out.1.iI k hk))⟩⟩
end

end Go.Proofs.YtnkpogjiiohapaaGreatDoor

/-! GGhA: Plain: what copies have made, and what each of them has of it. -/
namespace Go.Proofs.YtnkpogjiiohapaaGreatDoor

/-- WHAT THE COPIES HAVE MADE: each its own operations, in their order. -/
structure MadeOk (N : Nat) (M : Nat → List MOp) : Prop where
  id : ∀ c, c < N → ∀ i (hi : i < (M c).length), (M c)[i].op.id.2 = (c : Int) ∧ (M c)[i].op.nth = (i : Int) + 1 ∧ 1 ≤ (M c)[i].op.id.1
  len : ∀ c, c < N → (M c).length ≤ 60
  asc : ∀ c, c < N → (M c).Pairwise fun a b => a.op.id.1 < b.op.id.1
/-- One of them. -/
def isMade (N : Nat) (M : Nat → List MOp) (x : MOp) : Prop := ∃ c, c < N ∧ x ∈ M c
/-- The first so many of each. -/
def firsts (M : Nat → List MOp) (has : Nat → Int) (N : Nat) : List MOp := (List.range N).flatMap fun (c : Nat) => (M c).take (has c).toNat
/-- WHAT A COPY HAS. -/
structure CopyOk (N : Nat) (M : Nat → List MOp) (gt : Int) (has : Nat → Int) (ops : List MOp) (early : List (PId × MOp)) : Prop where
  hasL : ∀ c, c < N → 0 ≤ has c ∧ has c ≤ (M c).length
  perm : ops.Perm (firsts M has N)
  gtL : ∀ o ∈ ops, o.op.id.1 ≤ gt
  earlyL : ∀ p ∈ early, isMade N M p.2 ∧ p.1 = plOf p.2
  keysL : (early.map (·.1)).Nodup

theorem firsts_succ (M : Nat → List MOp) (has : Nat → Int) (n : Nat) : firsts M has (n + 1) = firsts M has n ++ (M n).take (has n).toNat := by
  unfold firsts
  rw [List.range_succ, List.flatMap_append]
  simp
theorem mem_firsts {M : Nat → List MOp} {has : Nat → Int} {n : Nat} {x : MOp} : x ∈ firsts M has n ↔ ∃ c, c < n ∧ x ∈ (M c).take (has c).toNat := by
  unfold firsts
  simp [List.mem_flatMap]
theorem firsts_congr {M M' : Nat → List MOp} {has has' : Nat → Int} : ∀ {n : Nat}, (∀ c, c < n → (M c).take (has c).toNat = (M' c).take (has' c).toNat) → firsts M has n = firsts M' has' n
  | 0, _ => rfl
  | n + 1, h => by rw [firsts_succ, firsts_succ, firsts_congr fun c hc => h c (by omega), h n (by omega)]

section
theorem MadeOk.nodup {N : Nat} {M : Nat → List MOp} (hM : MadeOk N M) {c : Nat} (hc : c < N) : (M c).Nodup := (hM.asc c hc).imp fun {a b} h e => by rw [e] at h; omega
theorem MadeOk.at {N : Nat} {M : Nat → List MOp} (hM : MadeOk N M) {x : MOp} {c : Nat} (hc : c < N) (hx : x ∈ M c) : ∃ i, ∃ hi : i < (M c).length, x = (M c)[i] ∧ x.op.id.2 = (c : Int) ∧ x.op.nth = (i : Int) + 1 ∧ 1 ≤ x.op.id.1 := by
  obtain ⟨i, hi, rfl⟩ := List.mem_iff_getElem.1 hx
  obtain ⟨h1, h2, h3⟩ := hM.id c hc i hi
  exact ⟨i, hi, rfl, h1, h2, h3⟩
/-- Each has an Id and a place of its own. -/
theorem MadeOk.byPl {N : Nat} {M : Nat → List MOp} (hM : MadeOk N M) {x y : MOp} (hx : isMade N M x) (hy : isMade N M y) (h : plOf x = plOf y) : x = y := by
  obtain ⟨c, hc, hx⟩ := hx
  obtain ⟨d, hd, hy⟩ := hy
  obtain ⟨i, hi, e1, a1, a2, _⟩ := hM.at hc hx
  obtain ⟨j, hj, e2, b1, b2, _⟩ := hM.at hd hy
  unfold plOf at h
  injection h with h1 h2
  have hcd : c = d := by omega
  subst hcd
  have hij : i = j := by omega
  subst hij
  rw [e1, e2]
theorem MadeOk.byId {N : Nat} {M : Nat → List MOp} (hM : MadeOk N M) {x y : MOp} (hx : isMade N M x) (hy : isMade N M y) (h : x.op.id = y.op.id) : x = y := by
  obtain ⟨c, hc, hx⟩ := hx
  obtain ⟨d, hd, hy⟩ := hy
  obtain ⟨i, hi, e1, a1, a2, _⟩ := hM.at hc hx
  obtain ⟨j, hj, e2, b1, b2, _⟩ := hM.at hd hy
  have hcd : c = d := by rw [h] at a1; omega
  subst hcd
  rcases Nat.lt_trichotomy i j with hl | hl | hl
  · have := List.pairwise_iff_getElem.1 (hM.asc c hc) i j hi hj hl
    rw [← e1, ← e2, h] at this
    omega
  · subst hl; rw [e1, e2]
  · have := List.pairwise_iff_getElem.1 (hM.asc c hc) j i hj hi hl
    rw [← e1, ← e2, h] at this
    omega
theorem MadeOk.nodupTo {N : Nat} {M : Nat → List MOp} (hM : MadeOk N M) {has : Nat → Int} : ∀ {n : Nat}, n ≤ N → (firsts M has n).Nodup
  | 0, _ => by simp [firsts]
  | n + 1, hn => by
    rw [firsts_succ]
    refine List.nodup_append.2 ⟨MadeOk.nodupTo hM (n := n) (by omega), (hM.nodup (c := n) (by omega)).sublist (List.take_sublist _ _), fun a ha b hb e => ?_⟩
    subst e
    obtain ⟨c, hc, hx⟩ := mem_firsts.1 ha
    obtain ⟨_, _, _, a1, _⟩ := hM.at (c := c) (by omega) (List.mem_of_mem_take hx)
    obtain ⟨_, _, _, b1, _⟩ := hM.at (c := n) (by omega) (List.mem_of_mem_take hb)
    omega
theorem MadeOk.lenTo {N : Nat} {M : Nat → List MOp} (hM : MadeOk N M) {has : Nat → Int} : ∀ {n : Nat}, n ≤ N → (firsts M has n).length ≤ n * 60
  | 0, _ => by simp [firsts]
  | n + 1, hn => by
    have h1 := MadeOk.lenTo hM (has := has) (n := n) (by omega)
    have h2 := hM.len n (by omega)
    rw [firsts_succ, List.length_append, Nat.add_mul]
    have : ((M n).take (has n).toNat).length ≤ (M n).length := by rw [List.length_take]; omega
    omega
end

section
theorem CopyOk.made {N : Nat} {M : Nat → List MOp} {gt : Int} {has : Nat → Int} {ops : List MOp} {early : List (PId × MOp)} (h : CopyOk N M gt has ops early) {x : MOp} (hx : x ∈ ops) : isMade N M x := by
  obtain ⟨c, hc, hm⟩ := mem_firsts.1 (h.perm.mem_iff.1 hx)
  exact ⟨c, hc, List.mem_of_mem_take hm⟩
theorem CopyOk.nd {N : Nat} {M : Nat → List MOp} {gt : Int} {has : Nat → Int} {ops : List MOp} {early : List (PId × MOp)} (hM : MadeOk N M) (h : CopyOk N M gt has ops early) : ops.Nodup := h.perm.nodup_iff.2 (hM.nodupTo (Nat.le_refl _))
theorem CopyOk.ndPl {N : Nat} {M : Nat → List MOp} {gt : Int} {has : Nat → Int} {ops : List MOp} {early : List (PId × MOp)} (hM : MadeOk N M) (h : CopyOk N M gt has ops early) : (ops.map plOf).Nodup := by
  refine List.pairwise_map.2 (List.Pairwise.imp_of_mem (fun {a b} ha hb hne e => hne ?_) (h.nd hM))
  exact hM.byPl (h.made ha) (h.made hb) e
theorem CopyOk.ndId {N : Nat} {M : Nat → List MOp} {gt : Int} {has : Nat → Int} {ops : List MOp} {early : List (PId × MOp)} (hM : MadeOk N M) (h : CopyOk N M gt has ops early) : (ops.map fun o => o.op.id).Nodup := by
  refine List.pairwise_map.2 (List.Pairwise.imp_of_mem (fun {a b} ha hb hne e => hne ?_) (h.nd hM))
  exact hM.byId (h.made ha) (h.made hb) e
theorem CopyOk.len {N : Nat} {M : Nat → List MOp} {gt : Int} {has : Nat → Int} {ops : List MOp} {early : List (PId × MOp)} (hM : MadeOk N M) (h : CopyOk N M gt has ops early) : ops.length ≤ N * 60 := by rw [h.perm.length_eq]; exact hM.lenTo (Nat.le_refl _)
theorem CopyOk.copy {N : Nat} {M : Nat → List MOp} {gt : Int} {has : Nat → Int} {ops : List MOp} {early : List (PId × MOp)} (hM : MadeOk N M) (h : CopyOk N M gt has ops early) {x : MOp} (hx : x ∈ ops) : 0 ≤ x.op.id.2 ∧ x.op.id.2 < N := by
  obtain ⟨c, hc, hm⟩ := h.made hx
  obtain ⟨_, _, _, a1, _⟩ := hM.at hc hm
  omega
/-- The operations of a copy are no secret: it has them just where their place is within what it has. -/
theorem CopyOk.mem {N : Nat} {M : Nat → List MOp} {gt : Int} {has : Nat → Int} {ops : List MOp} {early : List (PId × MOp)} (hM : MadeOk N M) (h : CopyOk N M gt has ops early) {x : MOp} (hx : isMade N M x) : x ∈ ops ↔ x.op.nth ≤ has x.op.id.2.toNat := by
  rw [h.perm.mem_iff, mem_firsts]
  obtain ⟨c, hc, hm⟩ := hx
  obtain ⟨i, hi, e, a1, a2, _⟩ := hM.at hc hm
  have hcc : x.op.id.2.toNat = c := by omega
  rw [hcc]
  constructor
  · rintro ⟨d, hd, hm'⟩
    obtain ⟨j, hj, e', b1, b2, _⟩ := hM.at (c := d) hd (List.mem_of_mem_take hm')
    have hdc : d = c := by omega
    subst hdc
    obtain ⟨k, hk, ek⟩ := List.mem_iff_getElem.1 hm'
    rw [List.length_take] at hk
    have hkm : k < (M d).length := by omega
    have : (M d)[k] = x := by rw [← ek, List.getElem_take]
    obtain ⟨_, b3, _⟩ := hM.id d hd k hkm
    rw [this] at b3
    omega
  · intro hn
    refine ⟨c, hc, List.mem_iff_getElem.2 ⟨i, ?_, ?_⟩⟩
    · rw [List.length_take]; omega
    · rw [List.getElem_take]
      exact e.symm
end

/-- Two rows in the order of Ids, with the same operations, are one. -/
theorem asc_unique : ∀ {l m : List MOp}, AscO l → AscO m → l.Perm m → l = m
  | [], m, _, _, hp => hp.nil_eq
  | a :: l, [], _, _, hp => absurd hp.length_eq (by simp)
  | a :: l, b :: m, hl, hm, hp => by
    obtain ⟨hl1, hl2⟩ := List.pairwise_cons.1 hl
    obtain ⟨hm1, hm2⟩ := List.pairwise_cons.1 hm
    have hab : a = b := by
      rcases List.mem_cons.1 (hp.mem_iff.1 (List.mem_cons_self (a := a) (l := l))) with h | h
      · exact h
      · rcases List.mem_cons.1 (hp.mem_iff.2 (List.mem_cons_self (a := b) (l := m))) with h' | h'
        · exact h'.symm
        · have := ltI_trans (hl1 b h') (hm1 a h)
          rw [ltI_irr] at this
          cases this
    subst hab
    rw [asc_unique hl2 hm2 hp.cons_inv]
/-- WHO HAS THE SAME NUMBERS HAS THE SAME OPERATIONS. -/
theorem CopyOk.same {N : Nat} {M : Nat → List MOp} {gt gt' : Int} {has has' : Nat → Int} {ops ops' : List MOp} {early early' : List (PId × MOp)} (h : CopyOk N M gt has ops early) (h' : CopyOk N M gt' has' ops' early') (ha : AscO ops) (ha' : AscO ops') (he : ∀ c, c < N → has c = has' c) : ops = ops' := by
  refine asc_unique ha ha' (h.perm.trans ?_)
  rw [firsts_congr (M' := M) (has' := has') fun c hc => by rw [he c hc]]
  exact h'.perm.symm

end Go.Proofs.YtnkpogjiiohapaaGreatDoor
