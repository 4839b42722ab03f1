/- Our own text (GLawE, GLawF, GLawG, GLawH, GLawI, GLawJ). -/
import Derived.Test.YtnkpogjiiohapaaGreatDoorA40
set_option linter.unusedSimpArgs false
set_option linter.unusedVariables false

/-! GLawE: quirekeep: what a step leaves; key. -/
namespace Go.Proofs.YtnkpogjiiohapaaGreatDoor
open Go.RowKit
attribute [local go_sem ↓] Go.wp_at_zero Go.wp_at_succ

/-- A table and its room, in order; all the room's own lies behind B. -/
structure RInv (B tb : Nat) (w : World) (r N sp : Nat) (ls : PId) (F I : Nat → Prop) (M : Nat → List MOp) (s : RoomS) (x : RoomX) : Prop where
  d : RoomD w r F I N sp M s x
  nice : NiceM N M
  far : ∀ k, F k → B ≤ k ∧ k ≠ tb
  tab : isTab w tb N r ls
  base : B ≤ w.heap.size
def hasInv (B tb : Nat) (w : World) (r N sp : Nat) (ls : PId) : Prop := ∃ F I M s x, RInv B tb w r N sp ls F I M s x
/-- What a step leaves. -/
def Stepd (B tb : Nat) (r N sp : Nat) (ls : PId) (w w' : World) : Prop := hasInv B tb w' r N sp ls ∧ Below B w w'
section
theorem RInv.keep {B tb : Nat} {w : World} {r N sp : Nat} {ls : PId} {F I : Nat → Prop} {M : Nat → List MOp} {s : RoomS} {x : RoomX} (h : RInv B tb w r N sp ls F I M s x) {w' : World} (hb : Below w.heap.size w w') : RInv B tb w' r N sp ls F I M s x := ⟨h.d.keep hb, h.nice, h.far, h.tab.keep hb, Nat.le_trans h.base hb.size⟩
theorem RInv.kept {B tb : Nat} {w : World} {r N sp : Nat} {ls : PId} {F I : Nat → Prop} {M : Nat → List MOp} {s : RoomS} {x : RoomX} (h : RInv B tb w r N sp ls F I M s x) {w' : World} {F' I' : Nat → Prop} {M' : Nat → List MOp} {s' : RoomS} {x' : RoomX} (hd : RoomD w' r F' I' N sp M' s' x') (hk : Keeps F F' w w') (hn : NiceM N M') : Stepd B tb r N sp ls w w' := by
  have htl := blk_lt h.tab
  have hbase := h.base
  refine ⟨⟨F', I', M', s', x', hd, hn, fun k hF => ?_, ?_, Nat.le_trans h.base hk.size⟩, ⟨hk.os, hk.tape, hk.output, hk.size, fun k hk' => hk.other k (by omega) fun hF => by have := (h.far k hF).1; omega⟩⟩
  · rcases hk.sub k hF with h1 | h1
    · exact h.far k h1
    · omega
  · exact (hk.other tb htl fun hF => (h.far tb hF).2 rfl).trans h.tab
theorem RInv.to {B tb : Nat} {w : World} {r N sp : Nat} {ls : PId} {F I : Nat → Prop} {M : Nat → List MOp} {s : RoomS} {x : RoomX} (h : RInv B tb w r N sp ls F I M s x) {W w' : World} (hb : Below w.heap.size w W) {rbs : Nat → Nat} {M' : Nat → List MOp} {s' : RoomS} (hd : RoomDTo r N sp F I W w' rbs M' s') (hn : NiceM N M') : Stepd B tb r N sp ls w w' := by
  obtain ⟨F', I', x', h1, h2, h3, h4⟩ := hd
  exact h.kept h1 (h3.before hb) hn
theorem RInv.below {B tb : Nat} {w : World} {r N sp : Nat} {ls : PId} {F I : Nat → Prop} {M : Nat → List MOp} {s : RoomS} {x : RoomX} (h : RInv B tb w r N sp ls F I M s x) {w' : World} (hb : Below w.heap.size w w') : Stepd B tb r N sp ls w w' := ⟨⟨F, I, M, s, x, h.keep hb⟩, hb.mono h.base⟩
end
def kA : ByteArray := ⟨#[97]⟩
def kB : ByteArray := ⟨#[98]⟩
def kM : ByteArray := ⟨#[109]⟩
def keyN (c : Int) : ByteArray := if pickN c 3 = 0 then kA else if pickN c 3 = 1 then kB else kM
theorem keyN_size (c : Int) : (keyN c).size = 1 := by
  unfold keyN
  split
  · rfl
  · split <;> rfl

set_option maxRecDepth 1000000 in
set_option maxHeartbeats 1000000 in
theorem key_g (c : Int) (hc : intOk c) (w : World) :
    Calls Tryz.prog 77 #[.int .i64 c] w fun e w' => e = .returned (.string (keyN c)) ∧ Below w.heap.size w w' := by
  have HP := hid (fun W => (show Calls Tryz.prog 20 #[.int .i64 c, .int .i64 3] W _ from pick_g c hc 3 (by omega) (by omega) W))
  have HB := hid ((Below.refl w.heap.size w).alloc (Nat.le_refl _) (.cells #[.string kA, .string kB, .string kM] 9))
  have HX0 := hid (blk_new w (.cells #[.string kA, .string kB, .string kM] 9))
  have hlt := pickN_lt c (show 0 < 3 by omega)
  go_enter Tryz.func77, Tryz.ntmps77
  go_wp2_with fail
  refine (HP.out _).mono ?_
  rintro e w1 ⟨rfl, hb1⟩
  have HX1 := hid (blk_keep HX0.out hb1)
  have HB1 := hid (HB.out.trans (hb1.mono HB.out.size)); clear hb1
  have c0 : w1.cell? ⟨w.heap.size, 0, none⟩ = some (.string kA) := by simp [World.cell?, HX1.out]
  have c1 : w1.cell? ⟨w.heap.size, 1, none⟩ = some (.string kB) := by simp [World.cell?, HX1.out]
  have c2 : w1.cell? ⟨w.heap.size, 2, none⟩ = some (.string kM) := by simp [World.cell?, HX1.out]
  have hk : pickN c 3 = 0 ∨ pickN c 3 = 1 ∨ pickN c 3 = 2 := by omega
  rcases hk with hk | hk | hk
  · have HK := hid (show keyN c = kA by unfold keyN; rw [if_pos hk])
    rw [hk]
    go_wp2
    go_ret
    exact ⟨by rw [HK.out]; rfl, HB1.out⟩
  · have HK := hid (show keyN c = kB by unfold keyN; rw [if_neg (by omega), if_pos hk])
    rw [hk]
    go_wp2
    go_ret
    exact ⟨by rw [HK.out]; rfl, HB1.out⟩
  · have HK := hid (show keyN c = kM by unfold keyN; rw [if_neg (by omega), if_neg (by omega)])
    rw [hk]
    go_wp2
    go_ret
    exact ⟨by rw [HK.out]; rfl, HB1.out⟩

end Go.Proofs.YtnkpogjiiohapaaGreatDoor

/-! GLawF: quirekeep: the room's writers, each as a step. -/
namespace Go.Proofs.YtnkpogjiiohapaaGreatDoor
open Go.RowKit

theorem zeroOk : intOk 0 := ⟨by omega, by omega⟩
theorem keyOk_four {key : ByteArray} (h : keyOk key = true) : key.size ≤ 4 := by
  unfold keyOk at h
  simp only [Bool.and_eq_true, decide_eq_true_eq] at h
  exact h.2.2
/-- A call that is a step. -/
def isStep (B tb r N sp : Nat) (ls : PId) (w : World) (e : Ending) (w' : World) : Prop := (∃ v, e = .returned v) ∧ Stepd B tb r N sp ls w w'
section
theorem RInv.put {B tb : Nat} {w : World} {r N sp : Nat} {ls : PId} {F I : Nat → Prop} {M : Nat → List MOp} {s : RoomS} {x : RoomX} (h : RInv B tb w r N sp ls F I M s x) {c : Nat} (hc : c < N) (x1 x2 n : Int) (hn : intOk n) (key : ByteArray) (hks : key.size ≤ 4) :
    Calls Tryz.prog 23 #[.pointer (some ⟨r, 0, none⟩), .int .i64 c, .agg #[.int .i64 x1, .int .i64 x2], .string key, .int .i64 n] w fun e w' => isStep B tb r N sp ls w e w' := by
  refine (gPut h.d hc x1 x2 n key (by unfold maxLen; omega)).mono ?_
  rintro e w' (⟨m, _, rfl, hto⟩ | ⟨o, ss, _, _, hk, _, _, rfl, hl, t, v, hto⟩)
  · exact ⟨⟨_, rfl⟩, h.to (Below.refl _ _) hto h.nice⟩
  · exact ⟨⟨_, rfl⟩, h.to (Below.refl _ _) hto (h.nice.add ⟨hn, keyOk_four hk⟩)⟩
theorem RInv.cut {B tb : Nat} {w : World} {r N sp : Nat} {ls : PId} {F I : Nat → Prop} {M : Nat → List MOp} {s : RoomS} {x : RoomX} (h : RInv B tb w r N sp ls F I M s x) {c : Nat} (hc : c < N) (x1 x2 : Int) (key : ByteArray) (hks : key.size ≤ 4) :
    Calls Tryz.prog 78 #[.pointer (some ⟨r, 0, none⟩), .int .i64 c, .agg #[.int .i64 x1, .int .i64 x2], .string key] w fun e w' => isStep B tb r N sp ls w e w' := by
  refine (gCut h.d hc x1 x2 key (by unfold maxLen; omega)).mono ?_
  rintro e w' (⟨m, _, rfl, hto⟩ | ⟨o, ss, _, _, hk, _, _, rfl, hl, t, v, hto⟩)
  · exact ⟨⟨_, rfl⟩, h.to (Below.refl _ _) hto h.nice⟩
  · exact ⟨⟨_, rfl⟩, h.to (Below.refl _ _) hto (h.nice.add ⟨zeroOk, keyOk_four hk⟩)⟩
theorem RInv.setAt {B tb : Nat} {w : World} {r N sp : Nat} {ls : PId} {F I : Nat → Prop} {M : Nat → List MOp} {s : RoomS} {x : RoomX} (h : RInv B tb w r N sp ls F I M s x) {c : Nat} (hc : c < N) (x1 x2 i n : Int) (hn : intOk n) :
    Calls Tryz.prog 33 #[.pointer (some ⟨r, 0, none⟩), .int .i64 c, .agg #[.int .i64 x1, .int .i64 x2], .int .i64 i, .int .i64 n] w fun e w' => isStep B tb r N sp ls w e w' := by
  refine (gSetAt h.d hc x1 x2 i n).mono ?_
  rintro e w' (⟨m, _, rfl, hto⟩ | ⟨o, y, ss, _, _, _, _, _, _, rfl, hl, t, v, hto⟩)
  · exact ⟨⟨_, rfl⟩, h.to (Below.refl _ _) hto h.nice⟩
  · exact ⟨⟨_, rfl⟩, h.to (Below.refl _ _) hto (h.nice.add ⟨hn, Nat.zero_le _⟩)⟩
theorem RInv.cutAt {B tb : Nat} {w : World} {r N sp : Nat} {ls : PId} {F I : Nat → Prop} {M : Nat → List MOp} {s : RoomS} {x : RoomX} (h : RInv B tb w r N sp ls F I M s x) {c : Nat} (hc : c < N) (x1 x2 i : Int) :
    Calls Tryz.prog 34 #[.pointer (some ⟨r, 0, none⟩), .int .i64 c, .agg #[.int .i64 x1, .int .i64 x2], .int .i64 i] w fun e w' => isStep B tb r N sp ls w e w' := by
  refine (gCutAt h.d hc x1 x2 i).mono ?_
  rintro e w' (⟨m, _, rfl, hto⟩ | ⟨o, y, ss, _, _, _, _, _, _, rfl, hl, t, v, hto⟩)
  · exact ⟨⟨_, rfl⟩, h.to (Below.refl _ _) hto h.nice⟩
  · exact ⟨⟨_, rfl⟩, h.to (Below.refl _ _) hto (h.nice.add ⟨zeroOk, Nat.zero_le _⟩)⟩
theorem RInv.insert {B tb : Nat} {w : World} {r N sp : Nat} {ls : PId} {F I : Nat → Prop} {M : Nat → List MOp} {s : RoomS} {x : RoomX} (h : RInv B tb w r N sp ls F I M s x) {c : Nat} (hc : c < N) (x1 x2 i n : Int) (hn : intOk n) :
    Calls Tryz.prog 32 #[.pointer (some ⟨r, 0, none⟩), .int .i64 c, .agg #[.int .i64 x1, .int .i64 x2], .int .i64 i, .int .i64 n] w fun e w' => isStep B tb r N sp ls w e w' := by
  refine (gInsert h.d hc x1 x2 i n).mono ?_
  rintro e w' (⟨m, _, rfl, hto⟩ | ⟨o, b, _, _, _, rfl, hl, t, v, D1, ss, t', v', _, _, _, _, hto⟩)
  · exact ⟨⟨_, rfl⟩, h.to (Below.refl _ _) hto h.nice⟩
  · exact ⟨⟨_, rfl⟩, h.to (Below.refl _ _) hto ((h.nice.add (c := c) (o := newOp c (s.gt c) (s.has c) (.inr (.inl ((x1, x2), b))) t v) ⟨zeroOk, Nat.zero_le _⟩).add (c := c) (o := newOp c ((wroteS s c (.inr (.inl ((x1, x2), b))) t v).gt c) ((wroteS s c (.inr (.inl ((x1, x2), b))) t v).has c) (.inr (.inr (.inl ((x1, x2), ⟨#[]⟩, (s.gt c + 1, (c : Int)), (n, (0, 0)), ss)))) t' v') ⟨hn, Nat.zero_le _⟩)⟩
theorem RInv.elements {B tb : Nat} {w : World} {r N sp : Nat} {ls : PId} {F I : Nat → Prop} {M : Nat → List MOp} {s : RoomS} {x : RoomX} (h : RInv B tb w r N sp ls F I M s x) {c : Nat} (hc : c < N) (x1 x2 : Int) :
    Calls Tryz.prog 29 #[.pointer (some ⟨r, 0, none⟩), .int .i64 c, .agg #[.int .i64 x1, .int .i64 x2]] w fun e w' => Below w.heap.size w w' ∧ ∃ a n cap er, n ≤ 300 ∧ e = .returned (.tuple #[.slice a n cap, .int .i64 er]) := by
  refine (gElements h.d hc x1 x2).mono ?_
  rintro e w' ⟨hb, ⟨n, _, rfl⟩ | ⟨v, l, _, hl, rfl, hv⟩⟩
  · exact ⟨hb, none, 0, 0, n, by omega, rfl⟩
  · obtain ⟨a, cap, rfl, _, _, _⟩ := owns_form hv
    exact ⟨hb, a, l.length, cap, 0, hl, rfl⟩
end

end Go.Proofs.YtnkpogjiiohapaaGreatDoor

/-! GLawG: quirekeep: write. -/
namespace Go.Proofs.YtnkpogjiiohapaaGreatDoor
open Go.RowKit
attribute [local go_sem ↓] Go.wp_at_zero Go.wp_at_succ

theorem isStep.before {B tb : Nat} {w W w' : World} {r N sp : Nat} {ls : PId} {F I : Nat → Prop} {M : Nat → List MOp} {s : RoomS} {x : RoomX} (h : RInv B tb w r N sp ls F I M s x) (hb : Below w.heap.size w W) {e : Ending} (hs : isStep B tb r N sp ls W e w') : (∃ v, e = .returned v) ∧ Stepd B tb r N sp ls w w' := ⟨hs.1, hs.2.1, (hb.mono h.base).trans hs.2.2⟩

set_option maxRecDepth 1000000 in
set_option maxHeartbeats 8000000 in
theorem write_g {B tb : Nat} {w : World} {r N sp : Nat} {ls : PId} {F I : Nat → Prop} {M : Nat → List MOp} {s : RoomS} {x : RoomX} (h : RInv B tb w r N sp ls F I M s x) (h2 : 2 ≤ N) (p : Stp) (hp : p.ok) :
    Calls Tryz.prog 40 #[.pointer (some ⟨tb, 0, none⟩), .agg #[.int .i64 p.k, .int .i64 p.c, .int .i64 p.d, .int .i64 p.a, .int .i64 p.n]] w fun e w' => isStep B tb r N sp ls w e w' := by
  have h4 := h.d.m.hN
  have HB := hid ((Below.refl w.heap.size w).alloc (Nat.le_refl _) (.cells #[.int .i64 p.k, .int .i64 p.c, .int .i64 p.d, .int .i64 p.a, .int .i64 p.n] 32))
  have HX0 := hid (blk_new w (.cells #[.int .i64 p.k, .int .i64 p.c, .int .i64 p.d, .int .i64 p.a, .int .i64 p.n] 32))
  have HT0 := hid (h.tab.keep HB.out)
  have HP1 := hid (fun W => pick_g p.c hp.2.1 N (by omega) (by omega) W)
  have HP2 := hid (fun W (n : Nat) (hn : n ≤ 300) => (show Calls Tryz.prog 20 #[.int .i64 p.a, .int .i64 ((n : Int) + 1)] W _ from pick_g p.a hp.2.2.2.1 (n + 1) (by omega) (by omega) W))
  have HP3 := hid (fun W => (show Calls Tryz.prog 20 #[.int .i64 p.k, .int .i64 8] W _ from pick_g p.k hp.1 8 (by omega) (by omega) W))
  have hcl := pickN_lt p.c (show 0 < N by omega)
  have HEL := hid (fun W (hb : Below w.heap.size w W) => (h.keep hb).elements hcl ls.1 ls.2)
  have HKY := hid (fun W => key_g p.a hp.2.2.2.1 W)
  have HH := hid h
  have HIN := hid (fun W (hb : Below w.heap.size w W) (i : Int) => (h.keep hb).insert hcl ls.1 ls.2 i p.n hp.2.2.2.2)
  have HCA := hid (fun W (hb : Below w.heap.size w W) (i : Int) => (h.keep hb).cutAt hcl ls.1 ls.2 i)
  have HSA := hid (fun W (hb : Below w.heap.size w W) (i : Int) => (h.keep hb).setAt hcl ls.1 ls.2 i p.n hp.2.2.2.2)
  have HPU := hid (fun W (hb : Below w.heap.size w W) => (h.keep hb).put hcl 0 0 p.n hp.2.2.2.2 (keyN p.a) (by rw [keyN_size]; omega))
  have HCU := hid (fun W (hb : Below w.heap.size w W) => (h.keep hb).cut hcl 0 0 (keyN p.a) (by rw [keyN_size]; omega))
  have hkl := pickN_lt p.k (show 0 < 8 by omega)
  clear h hp
  go_enter Tryz.func40, Tryz.ntmps40
  go_wp2_with fail
  go_region_held3 (fun W => W.cell? ⟨tb, 0, none⟩ = some (.int .i64 N) ∧ W.cell? ⟨w.heap.size, 1, none⟩ = some (.int .i64 p.c)) (first | exact ⟨(HT1.out.cells).1, (stpCells HX1.out).2.1⟩ | exact ⟨(HT0.out.cells).1, (stpCells HX0.out).2.1⟩)
    (first
      | (go_at_call 20; refine (HP1.out _).mono ?_; rintro e w1 ⟨rfl, hb1⟩; have hb1' := Hid.out (below_drew_left hb1); have HT1 := hid (HT0.out.keep hb1'); have HX1 := hid (blk_keep HX0.out hb1'); have HB1 := hid (HB.out.trans (hb1'.mono HB.out.size)); clear hb1 hb1'))
  all_goals (
    go_wp2_with fail
    go_region_held3 (fun W => W.cell? ⟨tb, 1, none⟩ = some (.pointer (some ⟨r, 0, none⟩)) ∧ W.cell? ⟨tb, 2, none⟩ = some (.int .i64 ls.1) ∧ W.cell? ⟨tb, 3, none⟩ = some (.int .i64 ls.2)) (first | exact (HT2.out.cells).2 | exact (HT1.out.cells).2)
      (first
        | (go_at_call 29; refine (HEL.out _ HB1.out.drew).mono ?_; rintro e w2 ⟨hb2, ua, un, uc, er, hun, rfl⟩; have hb2' := Hid.out (below_drew_left hb2); have HT2 := hid (HT1.out.keep hb2'); have HX2 := hid (blk_keep HX1.out hb2'); have HB2 := hid (HB1.out.trans (hb2'.mono HB1.out.size)); clear hb2 hb2'))
    all_goals (
      obtain ⟨x0, _, _, x3, _⟩ := stpCells HX2.out
      have hxl := blk_lt HX2.out
      have hwr : IntKind.i64.wrap ((un : Int) + 1) = (un : Int) + 1 := Go.IntWalk.i64_in _ (by omega)
      go_wp2_with fail
      refine (HP2.out _ un hun).mono ?_
      rintro e w3 ⟨rfl, hb3⟩
      have HT3 := hid (HT2.out.keep hb3)
      have HX3 := hid (blk_keep HX2.out hb3)
      have HB3 := hid (HB2.out.trans (hb3.mono HB2.out.size)); clear hb3 x3 hwr
      replace x0 := (stpCells HX3.out).1
      replace hxl := blk_lt HX3.out
      go_wp2_with fail
      refine (HP3.out _).mono ?_
      rintro e w4 ⟨rfl, hb4⟩
      have HT4 := hid (HT3.out.keep hb4)
      have HX4 := hid (blk_keep HX3.out hb4)
      have HB4 := hid (HB3.out.trans (hb4.mono HB3.out.size)); clear hb4 x0 hxl
      obtain ⟨at', hat⟩ : ∃ at', at' = pickN p.a (un + 1) := ⟨_, rfl⟩
      rw [← hat]
      clear hat
      have hk : pickN p.k 8 = 0 ∨ pickN p.k 8 = 1 ∨ pickN p.k 8 = 2 ∨ pickN p.k 8 = 3 ∨ pickN p.k 8 = 4 ∨ pickN p.k 8 = 5 ∨ pickN p.k 8 = 6 ∨ pickN p.k 8 = 7 := by omega
      rcases hk with hk | hk | hk | hk | hk | hk | hk | hk
      all_goals (rw [hk]; clear hk hkl; go_wp2_with fail)
      all_goals obtain ⟨_, t1, t2, t3⟩ := HT4.out.cells
      all_goals obtain ⟨_, _, _, x3, x4⟩ := stpCells HX4.out
      all_goals have hxl := blk_lt HX4.out
      all_goals have htl := blk_lt HT4.out
      all_goals go_region_with (first
        | (go_at_call 32; refine (HIN.out _ HB4.out.drew at').mono ?_; rintro e w5 hs5; have HS5 := hid (isStep.before HH.out HB4.out.drew hs5); clear hs5; obtain ⟨⟨ev, rfl⟩, _⟩ := HS5.out)
        | (go_at_call 34; refine (HCA.out _ HB4.out.drew at').mono ?_; rintro e w5 hs5; have HS5 := hid (isStep.before HH.out HB4.out.drew hs5); clear hs5; obtain ⟨⟨ev, rfl⟩, _⟩ := HS5.out)
        | (go_at_call 33; refine (HSA.out _ HB4.out.drew at').mono ?_; rintro e w5 hs5; have HS5 := hid (isStep.before HH.out HB4.out.drew hs5); clear hs5; obtain ⟨⟨ev, rfl⟩, _⟩ := HS5.out)
        | (go_at_call 77; refine (HKY.out _).mono ?_; rintro e w5 ⟨rfl, hb5⟩; have hb5' := Hid.out (below_drew_left hb5); have HT5 := hid (HT4.out.keep hb5'); have HX5 := hid (blk_keep HX4.out hb5'); have HB5 := hid (HB4.out.trans (hb5'.mono HB4.out.size)); clear hb5 hb5'; replace t1 := (HT5.out.cells).2.1; replace x3 := (stpCells HX5.out).2.2.2.1; replace x4 := (stpCells HX5.out).2.2.2.2; replace hxl := blk_lt HX5.out; replace htl := blk_lt HT5.out)
        | (go_at_call 23; refine (HPU.out w5 HB5.out).mono ?_; rintro e w6 hs6; have HS5 := hid (isStep.before HH.out HB5.out hs6); clear hs6; obtain ⟨⟨ev, rfl⟩, _⟩ := HS5.out)
        | (go_at_call 78; refine (HCU.out w5 HB5.out).mono ?_; rintro e w6 hs6; have HS5 := hid (isStep.before HH.out HB5.out hs6); clear hs6; obtain ⟨⟨ev, rfl⟩, _⟩ := HS5.out))
      all_goals go_wp2
      all_goals go_end0
      all_goals exact (show _ ∧ _ from ⟨⟨_, rfl⟩, HS5.out.2⟩)))

end Go.Proofs.YtnkpogjiiohapaaGreatDoor

/-! GLawH: quirekeep: what happens on links, each as a step. -/
namespace Go.Proofs.YtnkpogjiiohapaaGreatDoor
open Go.RowKit

theorem toN_lt (s : Stp) {N : Nat} (h : 0 < N) : toN s N < N := Nat.mod_lt _ h
theorem toN_ne (s : Stp) {N : Nat} (h : 2 ≤ N) : pickN s.c N ≠ toN s N := by
  have h1 := pickN_lt s.c (show 0 < N by omega)
  have h2 := pickN_lt s.d (show 0 < N - 1 by omega)
  unfold toN
  generalize pickN s.c N = a at *
  generalize pickN s.d (N - 1) = b at *
  by_cases hl : a + 1 + b < N
  · rw [Nat.mod_eq_of_lt hl]; omega
  · rw [Nat.mod_eq_sub_mod (by omega), Nat.mod_eq_of_lt (by omega)]; omega
section
theorem RInv.fromTo {B tb : Nat} {w : World} {r N sp : Nat} {ls : PId} {F I : Nat → Prop} {M : Nat → List MOp} {s : RoomS} {x : RoomX} (h : RInv B tb w r N sp ls F I M s x) {w' : World} {s' : RoomS} (hto : RoomTo r N sp F I w w' s') (hok : RoomOk N M s') : Stepd B tb r N sp ls w w' := by
  obtain ⟨F', I', x', h1, h2, _⟩ := hto
  exact h.kept ⟨h1, hok, h.d.md⟩ h2 h.nice
theorem RInv.ask {B tb : Nat} {w : World} {r N sp : Nat} {ls : PId} {F I : Nat → Prop} {M : Nat → List MOp} {s : RoomS} {x : RoomX} (h : RInv B tb w r N sp ls F I M s x) {c d : Nat} (hc : c < N) (hd : d < N) (hcd : c ≠ d) : Calls Tryz.prog 27 #[.pointer (some ⟨r, 0, none⟩), .int .i64 c, .int .i64 d] w fun e w' => isStep B tb r N sp ls w e w' := by
  refine (ask_any h.d.m hc hd hcd).mono ?_
  rintro e w' ⟨rfl, hto⟩
  exact ⟨⟨_, rfl⟩, h.fromTo hto (h.d.ok.ask hc hd hcd)⟩
theorem RInv.lose {B tb : Nat} {w : World} {r N sp : Nat} {ls : PId} {F I : Nat → Prop} {M : Nat → List MOp} {s : RoomS} {x : RoomX} (h : RInv B tb w r N sp ls F I M s x) {c d : Nat} (hc : c < N) (hd : d < N) (hcd : c ≠ d) : Calls Tryz.prog 41 #[.pointer (some ⟨r, 0, none⟩), .int .i64 c, .int .i64 d] w fun e w' => isStep B tb r N sp ls w e w' := by
  refine (lose_any h.d.m hc hd hcd).mono ?_
  rintro e w' ⟨he, hto⟩
  exact ⟨he, h.fromTo hto (h.d.ok.lose hc hd hcd)⟩
theorem RInv.later {B tb : Nat} {w : World} {r N sp : Nat} {ls : PId} {F I : Nat → Prop} {M : Nat → List MOp} {s : RoomS} {x : RoomX} (h : RInv B tb w r N sp ls F I M s x) {c d : Nat} (hc : c < N) (hd : d < N) (hcd : c ≠ d) : Calls Tryz.prog 43 #[.pointer (some ⟨r, 0, none⟩), .int .i64 c, .int .i64 d] w fun e w' => isStep B tb r N sp ls w e w' := by
  refine (later_any h.d.m hc hd hcd).mono ?_
  rintro e w' ⟨he, hto⟩
  exact ⟨he, h.fromTo hto (h.d.ok.later hc hd hcd)⟩
theorem RInv.again {B tb : Nat} {w : World} {r N sp : Nat} {ls : PId} {F I : Nat → Prop} {M : Nat → List MOp} {s : RoomS} {x : RoomX} (h : RInv B tb w r N sp ls F I M s x) {c d : Nat} (hc : c < N) (hd : d < N) (hcd : c ≠ d) : Calls Tryz.prog 42 #[.pointer (some ⟨r, 0, none⟩), .int .i64 c, .int .i64 d] w fun e w' => isStep B tb r N sp ls w e w' := by
  refine (again_any h.d.m hc hd hcd).mono ?_
  rintro e w' ⟨he, hto⟩
  exact ⟨he, h.fromTo hto (h.d.ok.again hc hd hcd)⟩
theorem RInv.deliver {B tb : Nat} {w : World} {r N sp : Nat} {ls : PId} {F I : Nat → Prop} {M : Nat → List MOp} {s : RoomS} {x : RoomX} (h : RInv B tb w r N sp ls F I M s x) {c d : Nat} (hc : c < N) (hd : d < N) (hcd : c ≠ d) : Calls Tryz.prog 39 #[.pointer (some ⟨r, 0, none⟩), .int .i64 c, .int .i64 d] w fun e w' => isStep B tb r N sp ls w e w' := by
  refine (deliver_any h.d.m h.d.ok hc hd hcd).mono ?_
  rintro e w' ⟨he, s', hs', hto⟩
  exact ⟨he, h.fromTo hto (h.d.ok.deliver hc hd hcd hs')⟩
end

end Go.Proofs.YtnkpogjiiohapaaGreatDoor

/-! GLawI: quirekeep: does. -/
namespace Go.Proofs.YtnkpogjiiohapaaGreatDoor
open Go.RowKit
attribute [local go_sem ↓] Go.wp_at_zero Go.wp_at_succ

theorem quo8 {k : Int} (h : intOk k) : intOk (k.tdiv 8) := by
  unfold intOk at *
  by_cases hk : 0 ≤ k
  · rw [Int.tdiv_eq_ediv_of_nonneg hk]
    omega
  · have h1 : k.tdiv 8 = -((-k) / 8) := by
      rw [← Int.tdiv_eq_ediv_of_nonneg (show 0 ≤ -k by omega), Int.neg_tdiv, Int.neg_neg]
    rw [h1]
    omega

set_option maxRecDepth 1000000 in
set_option maxHeartbeats 8000000 in
theorem does_g {B tb : Nat} {w : World} {r N sp : Nat} {ls : PId} {F I : Nat → Prop} {M : Nat → List MOp} {s : RoomS} {x : RoomX} (h : RInv B tb w r N sp ls F I M s x) (h2 : 2 ≤ N) (p : Stp) (hp : p.ok) :
    Calls Tryz.prog 15 #[.pointer (some ⟨tb, 0, none⟩), .agg #[.int .i64 p.k, .int .i64 p.c, .int .i64 p.d, .int .i64 p.a, .int .i64 p.n]] w fun e w' => isStep B tb r N sp ls w e w' := by
  have h4 := h.d.m.hN
  have HB := hid ((Below.refl w.heap.size w).alloc (Nat.le_refl _) (.cells #[.int .i64 p.k, .int .i64 p.c, .int .i64 p.d, .int .i64 p.a, .int .i64 p.n] 32))
  have HX0 := hid (blk_new w (.cells #[.int .i64 p.k, .int .i64 p.c, .int .i64 p.d, .int .i64 p.a, .int .i64 p.n] 32))
  have HT0 := hid (h.tab.keep HB.out)
  have HL := hid (fun W (hb : Below w.heap.size w W) => link_g (h.tab.keep hb) h2 h4 p hp)
  have HQ := hid (fun W => (show Calls Tryz.prog 20 #[.int .i64 (p.k.tdiv 8), .int .i64 12] W _ from pick_g (p.k.tdiv 8) (quo8 hp.1) 12 (by omega) (by omega) W))
  have hc := pickN_lt p.c (show 0 < N by omega)
  have hd := toN_lt p (show 0 < N by omega)
  have hcd := toN_ne p h2
  have HWR := hid (fun W (hb : Below w.heap.size w W) => write_g (h.keep hb) h2 p hp)
  have HAS := hid (fun W (hb : Below w.heap.size w W) => (h.keep hb).ask hc hd hcd)
  have HDE := hid (fun W (hb : Below w.heap.size w W) => (h.keep hb).deliver hc hd hcd)
  have HLO := hid (fun W (hb : Below w.heap.size w W) => (h.keep hb).lose hc hd hcd)
  have HAG := hid (fun W (hb : Below w.heap.size w W) => (h.keep hb).again hc hd hcd)
  have HLA := hid (fun W (hb : Below w.heap.size w W) => (h.keep hb).later hc hd hcd)
  have HH := hid h
  have hq8 := quo8 hp.1
  have hw8 : IntKind.i64.wrap (p.k.tdiv 8) = p.k.tdiv 8 := Go.IntWalk.i64_in _ (by unfold intOk at hq8; omega)
  clear h hp hq8
  obtain ⟨x0, x1, x2, x3, x4⟩ := stpCells HX0.out
  have hxl := blk_lt HX0.out
  go_enter Tryz.func15, Tryz.ntmps15
  go_wp2_with fail
  refine (HL.out _ HB.out).mono ?_
  rintro e w1 ⟨rfl, hb1⟩
  have HT1 := hid (HT0.out.keep hb1)
  have HX1 := hid (blk_keep HX0.out hb1)
  have HB1 := hid (HB.out.trans (hb1.mono HB.out.size)); clear hb1 x0 x1 x2 x3 x4 hxl
  obtain ⟨x0, x1, x2, x3, x4⟩ := stpCells HX1.out
  have hxl := blk_lt HX1.out
  go_wp2_with fail
  refine (HQ.out _).mono ?_
  rintro e w2 ⟨rfl, hb2⟩
  have HT2 := hid (HT1.out.keep hb2)
  have HX2 := hid (blk_keep HX1.out hb2)
  have HB2 := hid (HB1.out.trans (hb2.mono HB1.out.size)); clear hb2 x0 x1 x2 x3 x4 hxl
  have hkl := pickN_lt (p.k.tdiv 8) (show 0 < 12 by omega)
  obtain ⟨x0, x1, x2, x3, x4⟩ := stpCells HX2.out
  have hxl := blk_lt HX2.out
  obtain ⟨_, t1, _, _⟩ := HT2.out.cells
  have htl := blk_lt HT2.out
  have hk : pickN (p.k.tdiv 8) 12 = 0 ∨ pickN (p.k.tdiv 8) 12 = 1 ∨ pickN (p.k.tdiv 8) 12 = 2 ∨ pickN (p.k.tdiv 8) 12 = 3 ∨ pickN (p.k.tdiv 8) 12 = 4 ∨ pickN (p.k.tdiv 8) 12 = 5 ∨ pickN (p.k.tdiv 8) 12 = 6 ∨ pickN (p.k.tdiv 8) 12 = 7 ∨ pickN (p.k.tdiv 8) 12 = 8 ∨ pickN (p.k.tdiv 8) 12 = 9 ∨ pickN (p.k.tdiv 8) 12 = 10 ∨ pickN (p.k.tdiv 8) 12 = 11 := by omega
  rcases hk with hk | hk | hk | hk | hk | hk | hk | hk | hk | hk | hk | hk
  all_goals (rw [hk]; clear hk hkl; go_wp2_with fail)
  all_goals first
    | refine (HWR.out w2 HB2.out).mono ?_
    | refine (HAS.out w2 HB2.out).mono ?_
    | refine (HDE.out w2 HB2.out).mono ?_
    | refine (HLO.out w2 HB2.out).mono ?_
    | refine (HAG.out w2 HB2.out).mono ?_
    | refine (HLA.out w2 HB2.out).mono ?_
  all_goals (
    rintro e w3 hs3
    have HS3 := hid (isStep.before HH.out HB2.out hs3)
    clear hs3
    obtain ⟨⟨ev, rfl⟩, _⟩ := HS3.out
    go_wp2
    go_end0
    exact (show _ ∧ _ from ⟨⟨_, rfl⟩, HS3.out.2⟩))

end Go.Proofs.YtnkpogjiiohapaaGreatDoor

/-! GLawJ: quirekeep: looks. -/
namespace Go.Proofs.YtnkpogjiiohapaaGreatDoor
open Go.RowKit
attribute [local go_sem ↓] Go.wp_at_zero Go.wp_at_succ

def isYesNo (e : Ending) : Prop := ∃ b : Bool, e = .returned (.bool b)

set_option maxRecDepth 1000000 in
set_option maxHeartbeats 1000000 in
theorem looks_g {w : World} {a : Option Addr} {n cap : Nat} (i : Nat) (hin : i < n → ∃ g o m, a = some ⟨g, o, none⟩ ∧ w.cell? ⟨g, o + i, none⟩ = some (.int .i64 m)) :
    Calls Tryz.prog 16 #[.slice a n cap, .int .i64 i] w fun e w' => isYesNo e ∧ Below w.heap.size w w' := by
  have HB := hid (Below.refl w.heap.size w)
  by_cases hi : i < n
  · obtain ⟨g, o, m, rfl, hm⟩ := hin hi
    have h0 : (0 : Int) ≤ (i : Int) := Int.natCast_nonneg _
    have h1 : (i : Int) < (n : Int) := by omega
    clear hin
    go_enter Tryz.func16, Tryz.ntmps16
    go_wp2
    try go_region
    all_goals (try go_wp2)
    all_goals go_ret
    all_goals first | exact ⟨⟨_, rfl⟩, HB.out⟩ | exact ⟨⟨_, rfl⟩, HB.out.drew⟩
  · have h1 : ¬ (i : Int) < (n : Int) := by omega
    clear hin
    go_enter Tryz.func16, Tryz.ntmps16
    go_wp2
    try go_region
    all_goals (try go_wp2)
    all_goals go_ret
    all_goals first | exact ⟨⟨_, rfl⟩, HB.out⟩ | exact ⟨⟨_, rfl⟩, HB.out.drew⟩

end Go.Proofs.YtnkpogjiiohapaaGreatDoor
