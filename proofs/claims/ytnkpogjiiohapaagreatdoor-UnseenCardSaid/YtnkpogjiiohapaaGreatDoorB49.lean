/- Our own text (ULawI, ULawL, ULawJ). -/
import Derived.Test.YtnkpogjiiohapaaGreatDoorB48
import Derived.Test.YtnkpogjiiohapaaGreatDoorA41
import Derived.Test.YtnkpogjiiohapaaGreatDoorB47
set_option linter.unusedSimpArgs false
set_option linter.unusedVariables false

/-! ULawI: quirekeep: does, just so. -/
namespace Go.Proofs.YtnkpogjiiohapaaGreatDoor
open Go.RowKit
attribute [local go_sem ↓] Go.wp_at_zero Go.wp_at_succ

section
theorem does_w {p : Stp} {N : Nat} {ls : PId} {M M' : Nat → List MOp} {s s' : RoomS} (hk : pickN (p.k.tdiv 8) 12 ≤ 4) (h : wroteR (pickN p.c N) (WriteC (ROf (s.ops (pickN p.c N))) (s.has (pickN p.c N) (pickN p.c N)) (s.gt (pickN p.c N)) (pickN p.c N) ls p) M s M' s') : DoesX p N ls M s M' s' := by unfold DoesX; rw [if_pos hk]; exact h
theorem does_a {p : Stp} {N : Nat} {ls : PId} {M M' : Nat → List MOp} {s s' : RoomS} (hk : ¬ pickN (p.k.tdiv 8) 12 ≤ 4 ∧ pickN (p.k.tdiv 8) 12 ≤ 6) (h : M' = M ∧ s' = askS N s (pickN p.c N) (toN p N)) : DoesX p N ls M s M' s' := by unfold DoesX; rw [if_neg hk.1, if_pos hk.2]; exact h
theorem does_d {p : Stp} {N : Nat} {ls : PId} {M M' : Nat → List MOp} {s s' : RoomS} (hk : ¬ pickN (p.k.tdiv 8) 12 ≤ 4 ∧ ¬ pickN (p.k.tdiv 8) 12 ≤ 6 ∧ pickN (p.k.tdiv 8) 12 ≤ 8) (h : M' = M ∧ DeliverTo N s (pickN p.c N) (toN p N) s') : DoesX p N ls M s M' s' := by unfold DoesX; rw [if_neg hk.1, if_neg hk.2.1, if_pos hk.2.2]; exact h
theorem does_l {p : Stp} {N : Nat} {ls : PId} {M M' : Nat → List MOp} {s s' : RoomS} (hk : pickN (p.k.tdiv 8) 12 = 9) (h : M' = M ∧ s' = loseS s (pickN p.c N) (toN p N)) : DoesX p N ls M s M' s' := by unfold DoesX; rw [if_neg (by omega), if_neg (by omega), if_neg (by omega), if_pos hk]; exact h
theorem does_g2 {p : Stp} {N : Nat} {ls : PId} {M M' : Nat → List MOp} {s s' : RoomS} (hk : pickN (p.k.tdiv 8) 12 = 10) (h : M' = M ∧ s' = againS s (pickN p.c N) (toN p N)) : DoesX p N ls M s M' s' := by unfold DoesX; rw [if_neg (by omega), if_neg (by omega), if_neg (by omega), if_neg (by omega), if_pos hk]; exact h
theorem does_t {p : Stp} {N : Nat} {ls : PId} {M M' : Nat → List MOp} {s s' : RoomS} (hk : pickN (p.k.tdiv 8) 12 = 11) (h : M' = M ∧ s' = laterS s (pickN p.c N) (toN p N)) : DoesX p N ls M s M' s' := by unfold DoesX; rw [if_neg (by omega), if_neg (by omega), if_neg (by omega), if_neg (by omega), if_neg (by omega)]; exact h
end
section
theorem QInv.askX {Z : Nat → Prop} {tb : Nat} {w : World} {r N sp : Nat} {ls : PId} {M : Nat → List MOp} {s : RoomS} {c d : Nat} (hc : c < N) (hd : d < N) (hcd : c ≠ d) (h : QInv Z tb w r N sp ls M s) : Calls Tryz.prog 27 #[.pointer (some ⟨r, 0, none⟩), .int .i64 c, .int .i64 d] w fun e w' => stepX Z tb r N sp ls (fun M' s' => M' = M ∧ s' = askS N s c d) w e w' := by
  refine (invS.ask hc hd hcd h.i).mono ?_
  rintro e w' ⟨he, h1, h2⟩
  exact ⟨he, ⟨M, _, ⟨rfl, rfl⟩, h1, h.l.went (askS_went N M s c d)⟩, h2⟩
theorem QInv.deliverX {Z : Nat → Prop} {tb : Nat} {w : World} {r N sp : Nat} {ls : PId} {M : Nat → List MOp} {s : RoomS} {c d : Nat} (hc : c < N) (hd : d < N) (hcd : c ≠ d) (h : QInv Z tb w r N sp ls M s) : Calls Tryz.prog 39 #[.pointer (some ⟨r, 0, none⟩), .int .i64 c, .int .i64 d] w fun e w' => stepX Z tb r N sp ls (fun M' s' => M' = M ∧ DeliverTo N s c d s') w e w' := by
  refine (invS.deliver hc hd hcd h.i).mono ?_
  rintro e w' ⟨he, ⟨s', hs, h1⟩, h2⟩
  exact ⟨he, ⟨M, s', ⟨rfl, hs⟩, h1, h.l.went (deliver_went (M := M) hs)⟩, h2⟩
theorem QInv.loseX {Z : Nat → Prop} {tb : Nat} {w : World} {r N sp : Nat} {ls : PId} {M : Nat → List MOp} {s : RoomS} {c d : Nat} (hc : c < N) (hd : d < N) (hcd : c ≠ d) (h : QInv Z tb w r N sp ls M s) : Calls Tryz.prog 41 #[.pointer (some ⟨r, 0, none⟩), .int .i64 c, .int .i64 d] w fun e w' => stepX Z tb r N sp ls (fun M' s' => M' = M ∧ s' = loseS s c d) w e w' := by
  obtain ⟨F, I, x, hr⟩ := h.i
  refine (lose_any hr.d.m hc hd hcd).mono ?_
  rintro e w' ⟨he, hto⟩
  obtain ⟨h1, h2⟩ := hr.goTo hto (hr.d.ok.lose hc hd hcd)
  exact ⟨he, ⟨M, _, ⟨rfl, rfl⟩, h1, h.l.went (loseS_went N M s c d)⟩, h2⟩
theorem QInv.againX {Z : Nat → Prop} {tb : Nat} {w : World} {r N sp : Nat} {ls : PId} {M : Nat → List MOp} {s : RoomS} {c d : Nat} (hc : c < N) (hd : d < N) (hcd : c ≠ d) (h : QInv Z tb w r N sp ls M s) : Calls Tryz.prog 42 #[.pointer (some ⟨r, 0, none⟩), .int .i64 c, .int .i64 d] w fun e w' => stepX Z tb r N sp ls (fun M' s' => M' = M ∧ s' = againS s c d) w e w' := by
  obtain ⟨F, I, x, hr⟩ := h.i
  refine (again_any hr.d.m hc hd hcd).mono ?_
  rintro e w' ⟨he, hto⟩
  obtain ⟨h1, h2⟩ := hr.goTo hto (hr.d.ok.again hc hd hcd)
  exact ⟨he, ⟨M, _, ⟨rfl, rfl⟩, h1, h.l.went (againS_went N M s c d)⟩, h2⟩
theorem QInv.laterX {Z : Nat → Prop} {tb : Nat} {w : World} {r N sp : Nat} {ls : PId} {M : Nat → List MOp} {s : RoomS} {c d : Nat} (hc : c < N) (hd : d < N) (hcd : c ≠ d) (h : QInv Z tb w r N sp ls M s) : Calls Tryz.prog 43 #[.pointer (some ⟨r, 0, none⟩), .int .i64 c, .int .i64 d] w fun e w' => stepX Z tb r N sp ls (fun M' s' => M' = M ∧ s' = laterS s c d) w e w' := by
  obtain ⟨F, I, x, hr⟩ := h.i
  refine (later_any hr.d.m hc hd hcd).mono ?_
  rintro e w' ⟨he, hto⟩
  obtain ⟨h1, h2⟩ := hr.goTo hto (hr.d.ok.later hc hd hcd)
  exact ⟨he, ⟨M, _, ⟨rfl, rfl⟩, h1, h.l.went (laterS_went N M s c d)⟩, h2⟩
end

set_option maxRecDepth 1000000 in
set_option maxHeartbeats 8000000 in
theorem does_x {Z : Nat → Prop} {tb : Nat} {w : World} {r N sp : Nat} {ls : PId} {M : Nat → List MOp} {s : RoomS} (h : QInv Z tb w r N sp ls M s) (h2 : 2 ≤ N) (p : Stp) (hp : p.ok) :
    Calls Tryz.prog 15 #[.pointer (some ⟨tb, 0, none⟩), .agg #[.int .i64 p.k, .int .i64 p.c, .int .i64 p.d, .int .i64 p.a, .int .i64 p.n]] w fun e w' => stepX Z tb r N sp ls (DoesX p N ls M s) w e w' := by
  have h4 := h.i.hN
  have HB := hid ((Below.refl w.heap.size w).alloc (Nat.le_refl _) (.cells #[.int .i64 p.k, .int .i64 p.c, .int .i64 p.d, .int .i64 p.a, .int .i64 p.n] 32))
  have HX0 := hid (blk_new w (.cells #[.int .i64 p.k, .int .i64 p.c, .int .i64 p.d, .int .i64 p.a, .int .i64 p.n] 32))
  have HT0 := hid (h.i.tab.keep HB.out)
  have HL := hid (fun W (hb : Below w.heap.size w W) => link_g (h.i.tab.keep hb) h2 h4 p hp)
  have HQ := hid (fun W => (show Calls Tryz.prog 20 #[.int .i64 (p.k.tdiv 8), .int .i64 12] W _ from pick_g (p.k.tdiv 8) (quo8 hp.1) 12 (by omega) (by omega) W))
  have hc := pickN_lt p.c (show 0 < N by omega)
  have hd := toN_lt p (show 0 < N by omega)
  have hcd := toN_ne p h2
  have HWR := hid (fun W (hb : Below w.heap.size w W) => write_x (h.keep hb) h2 p hp)
  have HAS := hid (fun W (hb : Below w.heap.size w W) => QInv.askX hc hd hcd (h.keep hb))
  have HDE := hid (fun W (hb : Below w.heap.size w W) => QInv.deliverX hc hd hcd (h.keep hb))
  have HLO := hid (fun W (hb : Below w.heap.size w W) => QInv.loseX hc hd hcd (h.keep hb))
  have HAG := hid (fun W (hb : Below w.heap.size w W) => QInv.againX hc hd hcd (h.keep hb))
  have HLA := hid (fun W (hb : Below w.heap.size w W) => QInv.laterX hc hd hcd (h.keep hb))
  have HH := hid h
  have hq8 := quo8 hp.1
  have hw8 : IntKind.i64.wrap (p.k.tdiv 8) = p.k.tdiv 8 := Go.IntWalk.i64_in _ (by unfold intOk at hq8; omega)
  clear h hp hq8
  obtain ⟨x0, x1, x2, x3, x4⟩ := stpCells HX0.out
  have hxl := blk_lt HX0.out
  go_enter Tryz.func15, Tryz.ntmps15
  go_wp2_with fail
  refine (HL.out _ HB.out).mono ?_
  rintro e w1 ⟨rfl, hb1⟩
  have HT1 := hid (HT0.out.keep hb1)
  have HX1 := hid (blk_keep HX0.out hb1)
  have HB1 := hid (HB.out.trans (hb1.mono HB.out.size)); clear hb1 x0 x1 x2 x3 x4 hxl
  obtain ⟨x0, x1, x2, x3, x4⟩ := stpCells HX1.out
  have hxl := blk_lt HX1.out
  go_wp2_with fail
  refine (HQ.out _).mono ?_
  rintro e w2 ⟨rfl, hb2⟩
  have HT2 := hid (HT1.out.keep hb2)
  have HX2 := hid (blk_keep HX1.out hb2)
  have HB2 := hid (HB1.out.trans (hb2.mono HB1.out.size)); clear hb2 x0 x1 x2 x3 x4 hxl
  have hkl := pickN_lt (p.k.tdiv 8) (show 0 < 12 by omega)
  obtain ⟨x0, x1, x2, x3, x4⟩ := stpCells HX2.out
  have hxl := blk_lt HX2.out
  obtain ⟨_, t1, _, _⟩ := HT2.out.cells
  have htl := blk_lt HT2.out
  have hk : pickN (p.k.tdiv 8) 12 = 0 ∨ pickN (p.k.tdiv 8) 12 = 1 ∨ pickN (p.k.tdiv 8) 12 = 2 ∨ pickN (p.k.tdiv 8) 12 = 3 ∨ pickN (p.k.tdiv 8) 12 = 4 ∨ pickN (p.k.tdiv 8) 12 = 5 ∨ pickN (p.k.tdiv 8) 12 = 6 ∨ pickN (p.k.tdiv 8) 12 = 7 ∨ pickN (p.k.tdiv 8) 12 = 8 ∨ pickN (p.k.tdiv 8) 12 = 9 ∨ pickN (p.k.tdiv 8) 12 = 10 ∨ pickN (p.k.tdiv 8) 12 = 11 := by omega
  rcases hk with hk | hk | hk | hk | hk | hk | hk | hk | hk | hk | hk | hk
  all_goals have HK := hid hk
  all_goals (rw [hk]; clear hk hkl; go_wp2_with fail)
  all_goals first
    | refine (HWR.out w2 HB2.out).mono ?_
    | refine (HAS.out w2 HB2.out).mono ?_
    | refine (HDE.out w2 HB2.out).mono ?_
    | refine (HLO.out w2 HB2.out).mono ?_
    | refine (HAG.out w2 HB2.out).mono ?_
    | refine (HLA.out w2 HB2.out).mono ?_
  all_goals (
    rintro e w3 hs3
    have HS3 := hid (stepX.before HH.out HB2.out hs3)
    clear hs3
    obtain ⟨⟨ev, rfl⟩, _⟩ := HS3.out
    go_wp2
    go_end0
    refine (show _ ∧ _ from ⟨⟨_, rfl⟩, (HS3.out.imp fun M' s' hw => ?_).2⟩)
    first
      | exact does_w (by rw [HK.out]; decide) hw
      | exact does_a (by rw [HK.out]; decide) hw
      | exact does_d (by rw [HK.out]; decide) hw
      | exact does_l HK.out hw
      | exact does_g2 HK.out hw
      | exact does_t HK.out hw)

end Go.Proofs.YtnkpogjiiohapaaGreatDoor

/-! ULawL: quirekeep: laid, just so. -/
namespace Go.Proofs.YtnkpogjiiohapaaGreatDoor
open Go.RowKit
attribute [local go_sem ↓] Go.wp_at_zero Go.wp_at_succ

/-- What Nest leaves when a room is laid, just so. -/
theorem nest_laidX {w : World} {r N sp : Nat} {x : RoomX} {F : Nat → Prop} {e : Ending} {w' : World} (hn : NestD r N sp F (fun _ => False) (fun _ => []) s0 x 0 0 0 kL true w e w') : e = .returned (.tuple #[.agg #[.int .i64 1, .int .i64 0], .int .i64 0]) ∧ ∃ t v t' v', RoomDTo r N sp F (fun _ => False) w w' x.rbs (mL2 t v [] t' v') (sL2 t v [] t' v') := by
  rcases hn with ⟨m, hm, _⟩ | ⟨o, ho, _, _, rfl, _, t, v, D1, ss, t', v', hag, _, hp, _, hto⟩
  · rcases hm with hm | ⟨_, hm⟩
    · exact absurd hm (by
        have : keyedP (ROf (s0.ops 0)) (0, 0) kL = .ok [] := by rfl
        rw [this]
        simp)
    · exact absurd (show s0.has 0 0 + 2 ≤ 60 by decide) hm
  · have hss : ss = [] := by
      have h1 : objOf (ROf ((wroteS s0 0 (.inl true) t v).ops 0)) (0, 0) = some ⟨(0, 0), false, []⟩ := rfl
      have h2 := (hag.atK h1 rfl (key := kL) (by intro e; have := congrArg ByteArray.size e; exact absurd this (by decide)) (0, 0)).2
      have h3 : (atPl D1.1 D1.2 (0, 0) kL (0, 0)).vs = [] := List.Perm.eq_nil h2
      rw [h3, List.map_nil] at hp
      exact List.Perm.eq_nil hp
    subst hss
    exact ⟨rfl, t, v, t', v', hto⟩
/-- What laid answers, just so. -/
def LaidX (raw : Int) (w : World) (e : Ending) (w' : World) : Prop := Below w.heap.size w w' ∧ ∃ tb r sp t v t' v' s, e = .returned (.tuple #[.pointer (some ⟨tb, 0, none⟩), .bool true]) ∧ w.heap.size ≤ tb ∧ invS (fun k => k < w.heap.size ∨ k = tb) tb w' r (2 + pickN raw 3) sp (1, 0) (mL2 t v [] t' v') s ∧ LaidS (2 + pickN raw 3) (mL2 t v [] t' v') s (2 + pickN raw 3)

set_option maxRecDepth 1000000 in
set_option maxHeartbeats 4000000 in
/-- LAID, just so. -/
theorem laid_x {w : World} (hp : Pow w) {raw spc : Int} (hr : intOk raw) (hs : intOk spc) : Calls Tryz.prog 14 #[.int .i64 raw, .int .i64 spc] w fun e w' => LaidX raw w e w' := by
  have HP1 := hid (fun W => pick_g raw hr 3 (by omega) (by omega) W)
  have HP2 := hid (fun W => pick_g spc hs 50 (by omega) (by omega) W)
  have l1 := pickN_lt raw (show 0 < 3 by omega)
  have l2 := pickN_lt spc (show 0 < 50 by omega)
  obtain ⟨N, hN⟩ : ∃ N : Nat, N = 2 + pickN raw 3 := ⟨_, rfl⟩
  obtain ⟨sp, hsp⟩ : ∃ sp : Nat, sp = 1 + pickN spc 50 := ⟨_, rfl⟩
  have eN : (2 : Int) + (pickN raw 3 : Int) = (N : Int) := by omega
  have eS : (1 : Int) + (pickN spc 50 : Int) = (sp : Int) := by omega
  have hw1 : IntKind.i64.wrap (2 + (pickN raw 3 : Int)) = (N : Int) := by rw [Go.IntWalk.i64_in _ (by omega)]; exact eN
  have hw2 : IntKind.i64.wrap (1 + (pickN spc 50 : Int)) = (sp : Int) := by rw [Go.IntWalk.i64_in _ (by omega)]; exact eS
  have HN := hid (fun W => gNew N sp (by omega) (by omega) (by omega) (by omega) W)
  have hN2 : 2 ≤ N := by omega
  have HNE := hid hN
  have hN4 : N ≤ 4 := by omega
  have HPW := hid hp
  clear hp hr hs eN eS hN hsp
  go_enter Tryz.func14, Tryz.ntmps14
  go_wp2_with fail
  refine (HP1.out _).mono ?_
  rintro e v1 ⟨rfl, hb1⟩
  have HB1 := hid hb1; clear hb1
  go_wp2_with fail
  refine (HP2.out _).mono ?_
  rintro e v2 ⟨rfl, hb2⟩
  have HB2 := hid (HB1.out.trans (hb2.mono HB1.out.size)); clear hb2
  go_wp2_with fail
  refine (HN.out _).mono ?_
  rintro e w3 ⟨hb3, r, x, rfl, hd⟩
  have HB3 := hid (HB2.out.trans (hb3.mono HB2.out.size)); clear hb3
  have HD := hid hd; clear hd
  have HNS := hid (gNest HD.out (c := 0) (by omega) 0 0 kL (by decide) true)
  go_wp2_with fail
  refine HNS.out.mono ?_
  rintro e w4 hn
  obtain ⟨rfl, t, v, t', v', hto⟩ := nest_laidX hn
  clear hn
  have HB4 := hid (show Below w.heap.size w w4 by
    obtain ⟨F', I', x', _, _, hk, _⟩ := hto
    have h3 := HB3.out
    have h2 := HB2.out.size
    refine ⟨hk.os.trans h3.os, hk.tape.trans h3.tape, hk.output.trans h3.output, Nat.le_trans h3.size hk.size, fun k hk' => ?_⟩
    rw [hk.other k (Nat.lt_of_lt_of_le hk' h3.size) (fun hF => by have := hF.1; omega)]
    exact h3.block k hk')
  have HB45 := hid (show Below w4.heap.size w4 (w4.alloc (.cells #[.int .i64 1, .int .i64 0] 36)) from (Below.refl _ w4).alloc (Nat.le_refl _) _)
  have HT := hid (table_inv (w0 := w) (fun k hk => Nat.le_trans HB2.out.size hk.1) HB3.out.size hto HB45.out)
  rw [show (w4.alloc (.cells #[.int .i64 1, .int .i64 0] 36)).heap.size = w4.heap.size + 1 by simp] at HT
  have HB5 := hid ((HB4.out.trans (HB45.out.mono HB4.out.size)).alloc (Nat.le_trans HB4.out.size HB45.out.size) (.cells #[.int .i64 N, .pointer (some ⟨r, 0, none⟩), .int .i64 1, .int .i64 0] 38))
  clear hto
  go_wp2_with fail
  go_loopw [12] (fun d wr => ∃ k : Nat, 1 ≤ k ∧ k ≤ N ∧ d = .int .i64 k ∧ laidTo (fun k => k < w.heap.size ∨ k = w4.heap.size + 1) (w4.heap.size + 1) wr r N sp (1, 0) (mL2 t v [] t' v') k ∧ Below w.heap.size w wr) (fun d _ => N - (intOf d).toNat)
  case atStart => exact ⟨1, Nat.le_refl _, by omega, rfl, HT.out, HB5.out⟩
  case round =>
    obtain ⟨k, hk1, hkN, rfl, hlt, hbw⟩ := hrel
    have HB := hid hbw; clear hbw
    obtain ⟨s, hi, hS⟩ := hlt
    have HI := hid hi; have HS := hid hS; clear hi hS
    by_cases hl : k < N
    · have hl' : (k : Int) < (N : Int) := by omega
      have HA := hid (invS.ask hl (show 0 < N by omega) (show k ≠ 0 by omega) HI.out)
      go_wp2_with fail
      refine HA.out.mono ?_
      rintro e w6 ⟨⟨v6, rfl⟩, hi6, hb6⟩
      have HB6 := hid (HB.out.trans (hb6.below fun k hk => .inl hk)); clear hb6
      have HI6 := hid hi6; clear hi6
      have HD6 := hid (invS.deliver hl (show 0 < N by omega) (show k ≠ 0 by omega) HI6.out)
      go_wp2_with fail
      refine HD6.out.mono ?_
      rintro e w7 ⟨⟨v7, rfl⟩, ⟨s2, hd2, hi7⟩, hb7⟩
      have HB7 := hid (HB6.out.trans (hb7.below fun k hk => .inl hk)); clear hb7
      have HI7 := hid hi7; clear hi7
      have HD7 := hid (invS.deliver (show 0 < N by omega) hl (show 0 ≠ k by omega) HI7.out)
      have HX2 := hid hd2; clear hd2
      go_wp2_with fail
      refine HD7.out.mono ?_
      rintro e w8 ⟨⟨v8, rfl⟩, ⟨s3, hd3, hi8⟩, hb8⟩
      have HB8 := hid (HB7.out.trans (hb8.below fun k hk => .inl hk)); clear hb8
      have HI8 := hid hi8; clear hi8
      have HL := hid (show LaidS N (mL2 t v [] t' v') s3 (k + 1) ∧ s3.ops k = mL2 t v [] t' v' 0 from by
        obtain ⟨F, I, x, hR⟩ := HI.out
        exact HS.out.step hR.d.ok hk1 hl HX2.out hd3)
      clear hd3
      have HW := hid (HI8.out.show (HPW.out.keep HB8.out) hl HL.out.2)
      go_wp2_with fail
      refine HW.out.mono ?_
      rintro e w9 ⟨rfl, hi9, hb9⟩
      have HB9 := hid (HB8.out.trans (hb9.below fun k hk => .inl hk)); clear hb9
      have HI9 := hid hi9; clear hi9
      go_wp2
      go_roundw
      case rel => exact ⟨k + 1, by omega, by omega, by go_num, ⟨s3, HI9.out, HL.out.1⟩, HB9.out⟩
      case measure => simp [intOf]; omega
    · have hl' : ¬ (k : Int) < (N : Int) := by omega
      go_wp2
      go_ret2
      have ekn : N = k := by omega
      subst ekn
      have hNE := HNE.out
      subst hNE
      exact ⟨HB.out, w4.heap.size + 1, r, sp, t, v, t', v', s, rfl, Nat.le_trans HB4.out.size (Nat.le_succ _), HI.out, HS.out⟩

/-- TWO ROOMS, JUST LAID. -/
theorem laid_sim {N : Nat} (h0 : 0 < N) {t u t' u' : TypeId} {v x v' x' : Value} {s s' : RoomS} (h : LaidS N (mL2 t v [] t' v') s N) (ok : RoomOk N (mL2 t v [] t' v') s) (h' : LaidS N (mL2 u x [] u' x') s' N) (ok' : RoomOk N (mL2 u x [] u' x') s') : Sim N (mL2 t v [] t' v') (mL2 u x [] u' x') s s' := by
  have has : ∀ {t t' : TypeId} {v v' : Value} {s : RoomS}, LaidS N (mL2 t v [] t' v') s N → RoomOk N (mL2 t v [] t' v') s → ∀ c, c < N → s.has c 0 = 2 ∧ (∀ i, i < N → i ≠ 0 → s.has c i = 0) ∧ s.gt c = 2 := fun {t t' v v' s} h ok c hc => by
    have ho := h.done c hc hc
    have hk := ok.copy c hc
    have hL := hk.hasL 0 h0
    rw [h.m0] at hL
    obtain ⟨y, z, e⟩ : ∃ y z, mL2 t v [] t' v' 0 = [y, z] ∧ z.op.id.1 = 2 ∧ z.op.nth = 2 ∧ y.op.id.1 = 1 := ⟨_, _, rfl, rfl, rfl, rfl⟩
    have hz : z ∈ s.ops c := by rw [ho, e.1]; simp
    obtain ⟨d, hd, hzd⟩ := mem_firsts.1 (hk.perm.mem_iff.1 hz)
    have hd0 : d = 0 := by
      by_cases hd0 : d = 0
      · exact hd0
      · rw [h.me d hd hd0] at hzd
        simp at hzd
    subst hd0
    obtain ⟨j, hj, hje⟩ := List.mem_iff_getElem.1 hzd
    rw [List.length_take] at hj
    rw [List.getElem_take] at hje
    obtain ⟨g1, g2, g3⟩ := ok.made.id 0 h0 j (by omega)
    rw [hje, e.2.2.1] at g2
    refine ⟨by omega, fun i hi hi0 => ?_, ?_⟩
    · have := hk.hasL i hi
      rw [h.me i hi hi0] at this
      simp at this
      omega
    · have g4 := hk.gtL z hz
      rw [e.2.1] at g4
      have g5 := (ok.gtU c hc).2 2 (fun d hd y' hy' => by
        by_cases hd0 : d = 0
        · subst hd0
          rw [e.1] at hy'
          rcases List.mem_cons.1 hy' with rfl | hy'
          · rw [e.2.2.2]; decide
          · obtain rfl := List.mem_singleton.1 hy'
            rw [e.2.1]; decide
        · rw [h.me d hd hd0] at hy'
          cases hy') (by decide)
      omega
  refine ⟨fun c hc => ?_, fun c hc i hi => ?_, fun c hc => ?_, fun c hc k hkb => ?_, fun c d hc hd hcd => ?_⟩
  · by_cases hc0 : c = 0
    · subst hc0
      rfl
    · rw [h.me c hc hc0, h'.me c hc hc0]
  · by_cases hi0 : i = 0
    · subst hi0
      rw [(has h ok c hc).1, (has h' ok' c hc).1]
    · rw [(has h ok c hc).2.1 i hi hi0, (has h' ok' c hc).2.1 i hi hi0]
  · rw [(has h ok c hc).2.2, (has h' ok' c hc).2.2]
  · have no : ∀ {t t' : TypeId} {v v' : Value} {s : RoomS}, LaidS N (mL2 t v [] t' v') s N → RoomOk N (mL2 t v [] t' v') s → (∀ i, i < N → i ≠ 0 → s.has c i = 0) → s.has c 0 = 2 → s.has c k.1.toNat < k.2 → lookI k (s.early c) = none := fun {t t' v v' s} h ok h1 h2 hkb => by
      cases hl : lookI k (s.early c) with
      | none => rfl
      | some y =>
        exfalso
        obtain ⟨⟨d, hd, hy⟩, e⟩ := (ok.copy c hc).earlyL _ (look_mem hl)
        obtain ⟨j, hj, ej, g1, g2, _⟩ := ok.made.at hd hy
        have e1 : k.1 = y.op.id.2 := congrArg Prod.fst e
        have e2 : k.2 = y.op.nth := congrArg Prod.snd e
        by_cases hd0 : d = 0
        · subst hd0
          rw [h.m0] at hj
          rw [e1, g1, e2, g2] at hkb
          rw [show ((0 : Nat) : Int).toNat = 0 from rfl, h2] at hkb
          omega
        · rw [h.me d hd hd0] at hy
          cases hy
    have hkb' : s'.has c k.1.toNat < k.2 ∨ ¬ k.1.toNat < N := by
      by_cases hkN : k.1.toNat < N
      · left
        by_cases hk0 : k.1.toNat = 0
        · rw [hk0, (has h' ok' c hc).1]
          rw [hk0, (has h ok c hc).1] at hkb
          exact hkb
        · rw [(has h' ok' c hc).2.1 _ hkN hk0]
          rw [(has h ok c hc).2.1 _ hkN hk0] at hkb
          exact hkb
      · exact .inr hkN
    rw [no h ok (has h ok c hc).2.1 (has h ok c hc).1 hkb]
    rcases hkb' with hkb' | hkb'
    · rw [no h' ok' (has h' ok' c hc).2.1 (has h' ok' c hc).1 hkb']
    · cases hl : lookI k (s'.early c) with
      | none => rfl
      | some y =>
        exfalso
        obtain ⟨hm, e⟩ := (ok'.copy c hc).earlyL _ (look_mem hl)
        obtain ⟨_, _, b3, b4⟩ := ok'.made.nth (x := y) hm
        have e1 : k.1 = y.op.id.2 := congrArg Prod.fst e
        rw [e1] at hkb'
        omega
  · rw [h.emp c d, h'.emp c d]
    trivial

end Go.Proofs.YtnkpogjiiohapaaGreatDoor

/-! ULawJ: quirekeep: looks; two rooms beside one another. -/
namespace Go.Proofs.YtnkpogjiiohapaaGreatDoor
open Go.RowKit
attribute [local go_sem ↓] Go.wp_at_zero Go.wp_at_succ

def yesNo (e : Ending) : Prop := ∃ b : Bool, e = .returned (.bool b)
set_option maxRecDepth 1000000 in
set_option maxHeartbeats 1000000 in
theorem looks_g {w : World} {a : Option Addr} {n cap : Nat} (i : Nat) (hin : i < n → ∃ g o m, a = some ⟨g, o, none⟩ ∧ w.cell? ⟨g, o + i, none⟩ = some (.int .i64 m)) :
    Calls Tryz.prog 16 #[.slice a n cap, .int .i64 i] w fun e w' => yesNo e ∧ Below w.heap.size w w' := by
  have HB := hid (Below.refl w.heap.size w)
  by_cases hi : i < n
  · obtain ⟨g, o, m, rfl, hm⟩ := hin hi
    have h0 : (0 : Int) ≤ (i : Int) := Int.natCast_nonneg _
    have h1 : (i : Int) < (n : Int) := by omega
    clear hin
    go_enter Tryz.func16, Tryz.ntmps16
    go_wp2
    try go_region
    all_goals (try go_wp2)
    all_goals go_ret
    all_goals first | exact ⟨⟨_, rfl⟩, HB.out⟩ | exact ⟨⟨_, rfl⟩, HB.out.drew⟩
  · have h1 : ¬ (i : Int) < (n : Int) := by omega
    clear hin
    go_enter Tryz.func16, Tryz.ntmps16
    go_wp2
    try go_region
    all_goals (try go_wp2)
    all_goals go_ret
    all_goals first | exact ⟨⟨_, rfl⟩, HB.out⟩ | exact ⟨⟨_, rfl⟩, HB.out.drew⟩

/-- What is none of a room's, where another one lies beside it. -/
def besides (B ta tb : Nat) (F I : Nat → Prop) (k : Nat) : Prop := k < B ∨ k = ta ∨ k = tb ∨ F k ∨ I k
/-- TWO ROOMS BESIDE ONE ANOTHER. -/
def TwoM (B : Nat) (w : World) (N ta ra spa tb rb spb : Nat) (ls : PId) (Ma : Nat → List MOp) (sa : RoomS) (Mb : Nat → List MOp) (sb : RoomS) : Prop := ∃ Fa Ia xa Fb Ib xb, RInv (besides B ta tb Fb Ib) ta w ra N spa ls Fa Ia Ma sa xa ∧ HasL N ls sa ∧ RInv (besides B ta tb Fa Ia) tb w rb N spb ls Fb Ib Mb sb xb ∧ HasL N ls sb
section
theorem TwoM.keep {B : Nat} {w : World} {N ta ra spa tb rb spb : Nat} {ls : PId} {Ma : Nat → List MOp} {sa : RoomS} {Mb : Nat → List MOp} {sb : RoomS} {w' : World} (h : TwoM B w N ta ra spa tb rb spb ls Ma sa Mb sb) (hb : Below w.heap.size w w') : TwoM B w' N ta ra spa tb rb spb ls Ma sa Mb sb := by
  obtain ⟨Fa, Ia, xa, Fb, Ib, xb, h1, h2, h3, h4⟩ := h
  exact ⟨Fa, Ia, xa, Fb, Ib, xb, h1.keep hb, h2, h3.keep hb, h4⟩
theorem TwoM.swap {B : Nat} {w : World} {N ta ra spa tb rb spb : Nat} {ls : PId} {Ma : Nat → List MOp} {sa : RoomS} {Mb : Nat → List MOp} {sb : RoomS} (h : TwoM B w N ta ra spa tb rb spb ls Ma sa Mb sb) : TwoM B w N tb rb spb ta ra spa ls Mb sb Ma sa := by
  obtain ⟨Fa, Ia, xa, Fb, Ib, xb, h1, h2, h3, h4⟩ := h
  have e1 : ∀ F I : Nat → Prop, besides B ta tb F I = besides B tb ta F I := fun F I => by
    funext k
    exact propext ⟨fun h => h.imp id fun h => h.elim (fun h => .inr (.inl h)) fun h => h.elim .inl fun h => .inr (.inr h), fun h => h.imp id fun h => h.elim (fun h => .inr (.inl h)) fun h => h.elim .inl fun h => .inr (.inr h)⟩
  rw [e1] at h1 h3
  exact ⟨Fb, Ib, xb, Fa, Ia, xa, h3, h4, h1, h2⟩
/-- One of them, and what it is to put it back. -/
theorem TwoM.one {B : Nat} {w : World} {N ta ra spa tb rb spb : Nat} {ls : PId} {Ma : Nat → List MOp} {sa : RoomS} {Mb : Nat → List MOp} {sb : RoomS} (h : TwoM B w N ta ra spa tb rb spb ls Ma sa Mb sb) : ∃ Z, QInv Z ta w ra N spa ls Ma sa ∧ ∀ (w' : World) (M' : Nat → List MOp) (s' : RoomS), QInv Z ta w' ra N spa ls M' s' → Zept Z w w' → TwoM B w' N ta ra spa tb rb spb ls M' s' Mb sb ∧ Below B w w' := by
  obtain ⟨Fa, Ia, xa, Fb, Ib, xb, h1, h2, h3, h4⟩ := h
  refine ⟨besides B ta tb Fb Ib, ⟨⟨Fa, Ia, xa, h1⟩, h2⟩, fun w' M' s' hq hz => ?_⟩
  obtain ⟨Fa', Ia', xa', hr⟩ := hq.i
  refine ⟨⟨Fa', Ia', xa', Fb, Ib, xb, hr, hq.l, ⟨⟨h3.d.m.keepF hz.size (fun k hk => hz.block k (.inr (.inr (.inr (.inl hk))))) (fun k hk => hz.block k (.inr (.inr (.inr (.inr hk))))), h3.d.ok, h3.d.md⟩, h3.nice, fun k hk hb => ?_, fun k hk hb => ?_, (hz.block tb (.inr (.inr (.inl rfl)))).trans h3.tab, .inr (.inr (.inl rfl)), fun k hk => ?_⟩, h4⟩, hz.below fun k hk => .inl hk⟩
  · rcases hb with hb | hb | hb | hb | hb
    · exact h3.far k hk (.inl hb)
    · exact h3.far k hk (.inr (.inl hb))
    · exact h3.far k hk (.inr (.inr (.inl hb)))
    · exact hr.far k hb (.inr (.inr (.inr (.inl hk))))
    · exact hr.iz k hb (.inr (.inr (.inr (.inl hk))))
  · rcases hb with hb | hb | hb | hb | hb
    · exact h3.iz k hk (.inl hb)
    · exact h3.iz k hk (.inr (.inl hb))
    · exact h3.iz k hk (.inr (.inr (.inl hb)))
    · exact hr.far k hb (.inr (.inr (.inr (.inr hk))))
    · exact hr.iz k hb (.inr (.inr (.inr (.inr hk))))
  · rcases hk with hk | hk | hk | hk | hk
    · exact Nat.lt_of_lt_of_le (h3.zlt k (.inl hk)) hz.size
    · exact Nat.lt_of_lt_of_le (h3.zlt k (.inr (.inl hk))) hz.size
    · exact Nat.lt_of_lt_of_le (h3.zlt k (.inr (.inr (.inl hk)))) hz.size
    · exact hr.d.m.lt k hk
    · exact hr.d.m.iI k hk
theorem TwoM.two {B : Nat} {w : World} {N ta ra spa tb rb spb : Nat} {ls : PId} {Ma : Nat → List MOp} {sa : RoomS} {Mb : Nat → List MOp} {sb : RoomS} (h : TwoM B w N ta ra spa tb rb spb ls Ma sa Mb sb) : ∃ Z, QInv Z tb w rb N spb ls Mb sb ∧ ∀ (w' : World) (M' : Nat → List MOp) (s' : RoomS), QInv Z tb w' rb N spb ls M' s' → Zept Z w w' → TwoM B w' N ta ra spa tb rb spb ls Ma sa M' s' ∧ Below B w w' := by
  obtain ⟨Z, h1, h2⟩ := h.swap.one
  exact ⟨Z, h1, fun w' M' s' hq hz => ⟨(h2 w' M' s' hq hz).1.swap, (h2 w' M' s' hq hz).2⟩⟩
theorem TwoM.ok1 {B : Nat} {w : World} {N ta ra spa tb rb spb : Nat} {ls : PId} {Ma : Nat → List MOp} {sa : RoomS} {Mb : Nat → List MOp} {sb : RoomS} (h : TwoM B w N ta ra spa tb rb spb ls Ma sa Mb sb) : RoomOk N Ma sa := by
  obtain ⟨Z, h1, _⟩ := h.one
  exact h1.i.ok
theorem TwoM.ok2 {B : Nat} {w : World} {N ta ra spa tb rb spb : Nat} {ls : PId} {Ma : Nat → List MOp} {sa : RoomS} {Mb : Nat → List MOp} {sb : RoomS} (h : TwoM B w N ta ra spa tb rb spb ls Ma sa Mb sb) : RoomOk N Mb sb := by
  obtain ⟨Z, h1, _⟩ := h.two
  exact h1.i.ok
theorem TwoM.tab1 {B : Nat} {w : World} {N ta ra spa tb rb spb : Nat} {ls : PId} {Ma : Nat → List MOp} {sa : RoomS} {Mb : Nat → List MOp} {sb : RoomS} (h : TwoM B w N ta ra spa tb rb spb ls Ma sa Mb sb) : isTab w ta N ra ls := by
  obtain ⟨Z, h1, _⟩ := h.one
  exact h1.i.tab
theorem TwoM.tab2 {B : Nat} {w : World} {N ta ra spa tb rb spb : Nat} {ls : PId} {Ma : Nat → List MOp} {sa : RoomS} {Mb : Nat → List MOp} {sb : RoomS} (h : TwoM B w N ta ra spa tb rb spb ls Ma sa Mb sb) : isTab w tb N rb ls := by
  obtain ⟨Z, h1, _⟩ := h.two
  exact h1.i.tab
end
/-- Two rooms, one laid behind the other. -/
theorem TwoM.start {B ta ra spa tb rb spb N : Nat} {ls : PId} {w1 w2 : World} {Ma Mb : Nat → List MOp} {sa sb : RoomS} (hB : B ≤ w1.heap.size) (h : invS (fun k => k < B ∨ k = ta) ta w1 ra N spa ls Ma sa) (hl : HasL N ls sa) (hb : Below w1.heap.size w1 w2) (h' : invS (fun k => k < w1.heap.size ∨ k = tb) tb w2 rb N spb ls Mb sb) (hl' : HasL N ls sb) (htb : w1.heap.size ≤ tb) : TwoM B w2 N ta ra spa tb rb spb ls Ma sa Mb sb := by
  obtain ⟨Fa, Ia, xa, h⟩ := h
  obtain ⟨Fb, Ib, xb, h'⟩ := h'
  have hk := h.keep hb
  have hta : ta < w1.heap.size := h.zlt ta (.inr rfl)
  have fb : ∀ k, Fb k → w1.heap.size ≤ k := fun k hF => by
    rcases Nat.lt_or_ge k w1.heap.size with h1 | h1
    · exact absurd (.inl h1) (h'.far k hF)
    · exact h1
  have ib : ∀ k, Ib k → w1.heap.size ≤ k := fun k hI => by
    rcases Nat.lt_or_ge k w1.heap.size with h1 | h1
    · exact absurd (.inl h1) (h'.iz k hI)
    · exact h1
  have fa := h.d.m.lt
  have ia := h.d.m.iI
  refine ⟨Fa, Ia, xa, Fb, Ib, xb, ⟨hk.d, hk.nice, fun k hF hz => ?_, fun k hI hz => ?_, hk.tab, .inr (.inl rfl), fun k hz => ?_⟩, hl, ⟨h'.d, h'.nice, fun k hF hz => ?_, fun k hI hz => ?_, h'.tab, .inr (.inr (.inl rfl)), fun k hz => ?_⟩, hl'⟩
  · have h9 := fa k hF
    rcases hz with hz | hz | hz | hz | hz
    · exact h.far k hF (.inl hz)
    · exact h.far k hF (.inr hz)
    · omega
    · have := fb k hz; omega
    · have := ib k hz; omega
  · have h9 := ia k hI
    rcases hz with hz | hz | hz | hz | hz
    · exact h.iz k hI (.inl hz)
    · exact h.iz k hI (.inr hz)
    · omega
    · have := fb k hz; omega
    · have := ib k hz; omega
  · rcases hz with hz | hz | hz | hz | hz
    · exact hk.zlt k (.inl hz)
    · exact hk.zlt k (.inr hz)
    · exact h'.zlt k (.inr hz)
    · exact h'.d.m.lt k hz
    · exact h'.d.m.iI k hz
  · have h9 := fb k hF
    rcases hz with hz | hz | hz | hz | hz
    · omega
    · omega
    · exact h'.far k hF (.inr hz)
    · have := fa k hz; omega
    · have := ia k hz; omega
  · have h9 := ib k hI
    rcases hz with hz | hz | hz | hz | hz
    · omega
    · omega
    · exact h'.iz k hI (.inr hz)
    · have := fa k hz; omega
    · have := ia k hz; omega
  · rcases hz with hz | hz | hz | hz | hz
    · exact h'.zlt k (.inl (by omega))
    · exact h'.zlt k (.inl (by omega))
    · exact h'.zlt k (.inr hz)
    · exact hk.d.m.lt k hz
    · exact hk.d.m.iI k hz

end Go.Proofs.YtnkpogjiiohapaaGreatDoor
