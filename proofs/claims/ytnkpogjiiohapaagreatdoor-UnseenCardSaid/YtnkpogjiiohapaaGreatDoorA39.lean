/- Our own text (QLawE, QLawF, QLawG). -/
import Derived.Test.YtnkpogjiiohapaaGreatDoorA38
set_option linter.unusedSimpArgs false
set_option linter.unusedVariables false

/-! QLawE: quirekeep: what a step leaves, and what it makes of the room; key. -/
namespace Go.Proofs.YtnkpogjiiohapaaGreatDoor
open Go.RowKit
attribute [local go_sem ↓] Go.wp_at_zero Go.wp_at_succ

/-- What a set of blocks keeps. -/
structure Zept (Z : Nat → Prop) (w w' : World) : Prop where
  os : w'.os = w.os
  tape : w'.tape = w.tape
  output : w'.output = w.output
  size : w.heap.size ≤ w'.heap.size
  block : ∀ k, Z k → w'.heap[k]? = w.heap[k]?
theorem Zept.of {Z : Nat → Prop} {w w' : World} (h : Below w.heap.size w w') (hz : ∀ k, Z k → k < w.heap.size) : Zept Z w w' := ⟨h.os, h.tape, h.output, h.size, fun k hk => h.block k (hz k hk)⟩
theorem Zept.trans {Z : Nat → Prop} {w w' w'' : World} (h : Zept Z w w') (k : Zept Z w' w'') : Zept Z w w'' := ⟨k.os.trans h.os, k.tape.trans h.tape, k.output.trans h.output, Nat.le_trans h.size k.size, fun b hb => (k.block b hb).trans (h.block b hb)⟩
theorem Zept.below {Z : Nat → Prop} {w w' : World} {B : Nat} (h : Zept Z w w') (hB : ∀ k, k < B → Z k) : Below B w w' := ⟨h.os, h.tape, h.output, h.size, fun k hk => h.block k (hB k hk)⟩
theorem Zept.mono {Z Z' : Nat → Prop} {w w' : World} (h : Zept Z w w') (hz : ∀ k, Z' k → Z k) : Zept Z' w w' := ⟨h.os, h.tape, h.output, h.size, fun k hk => h.block k (hz k hk)⟩
/-- Numbers are ints, keys are of one byte at most. -/
structure NiceQ (N : Nat) (M : Nat → List MOp) : Prop where
  n : NiceM N M
  s : ∀ c, c < N → ∀ o ∈ M c, (popOf o.op).key.size ≤ 1
theorem NiceQ.add {N : Nat} {M : Nat → List MOp} (h : NiceQ N M) {c : Nat} {o : MOp} (hi : intOk (popOf o.op).num) (hs : (popOf o.op).key.size ≤ 1) : NiceQ N (addM M c o) := by
  refine ⟨h.n.add ⟨hi, by omega⟩, fun e he y hy => ?_⟩
  by_cases hec : e = c
  · subst hec
    rw [addM_same] at hy
    rcases List.mem_append.1 hy with hy | hy
    · exact h.s e he y hy
    · obtain rfl := List.mem_singleton.1 hy
      exact hs
  · rw [addM_ne _ _ hec] at hy
    exact h.s e he y hy
/-- A table and its room, in order; Z are blocks that are none of the room's, the table's among them. -/
structure RInv (Z : Nat → Prop) (tb : Nat) (w : World) (r N sp : Nat) (ls : PId) (F I : Nat → Prop) (M : Nat → List MOp) (s : RoomS) (x : RoomX) : Prop where
  d : RoomD w r F I N sp M s x
  nice : NiceQ N M
  far : ∀ k, F k → ¬ Z k
  iz : ∀ k, I k → ¬ Z k
  tab : isTab w tb N r ls
  ztb : Z tb
  zlt : ∀ k, Z k → k < w.heap.size
/-- A table whose room has just this in it. -/
def invS (Z : Nat → Prop) (tb : Nat) (w : World) (r N sp : Nat) (ls : PId) (M : Nat → List MOp) (s : RoomS) : Prop := ∃ F I x, RInv Z tb w r N sp ls F I M s x
/-- All copies have the list. -/
def HasL (N : Nat) (ls : PId) (s : RoomS) : Prop := ∀ c, c < N → ∃ y ∈ s.ops c, y.op.id = ls ∧ y.op.chg = .inl true
/-- WHAT A STEP MAKES OF A ROOM: copies make more; what a copy has it keeps; one copy alone may be another. -/
structure Went (N : Nat) (M : Nat → List MOp) (s : RoomS) (ch : Option Nat) (M' : Nat → List MOp) (s' : RoomS) : Prop where
  ext : ∀ c, c < N → ∃ l, M' c = M c ++ l
  grow : ∀ c, c < N → ∀ y ∈ s.ops c, y ∈ s'.ops c
  only : ∀ k, k < N → ch ≠ some k → s'.ops k = s.ops k ∧ s'.has k = s.has k
theorem Went.refl (N : Nat) (M : Nat → List MOp) (s : RoomS) (ch : Option Nat) : Went N M s ch M s := ⟨fun c _ => ⟨[], (List.append_nil _).symm⟩, fun _ _ _ h => h, fun _ _ _ => ⟨rfl, rfl⟩⟩
theorem Went.trans {N : Nat} {M M1 M2 : Nat → List MOp} {s s1 s2 : RoomS} {ch : Option Nat} (h : Went N M s ch M1 s1) (k : Went N M1 s1 ch M2 s2) : Went N M s ch M2 s2 :=
  ⟨fun c hc => by
    obtain ⟨l, hl⟩ := h.ext c hc
    obtain ⟨l', hl'⟩ := k.ext c hc
    exact ⟨l ++ l', by rw [hl', hl, List.append_assoc]⟩, fun c hc y hy => k.grow c hc y (h.grow c hc y hy), fun e he hne => ⟨(k.only e he hne).1.trans (h.only e he hne).1, (k.only e he hne).2.trans (h.only e he hne).2⟩⟩
theorem Went.wrote (N : Nat) (M : Nat → List MOp) (s : RoomS) (c : Nat) (chg : QChg) (t : TypeId) (v : Value) : Went N M s (some c) (doneM M s c chg t v) (wroteS s c chg t v) := by
  refine ⟨fun e _ => ?_, fun e _ y hy => ?_, fun e _ hne => ?_⟩
  · unfold doneM
    by_cases he : e = c
    · subst he; rw [addM_same]; exact ⟨_, rfl⟩
    · rw [addM_ne _ _ he]; exact ⟨[], (List.append_nil _).symm⟩
  · unfold wroteS copyS
    by_cases he : e = c
    · subst he; simp only [upd_same]; exact List.mem_append_left _ hy
    · simp only [upd_ne _ _ he]; exact hy
  · have he : e ≠ c := fun h => hne (by rw [h])
    exact ⟨upd_ne _ _ he, upd_ne _ _ he⟩
theorem Went.same {N : Nat} {M : Nat → List MOp} {s s' : RoomS} {ch : Option Nat} (h1 : s'.ops = s.ops) (h2 : s'.has = s.has) : Went N M s ch M s' := ⟨fun c _ => ⟨[], (List.append_nil _).symm⟩, fun c _ y hy => by rw [h1]; exact hy, fun k _ _ => ⟨by rw [h1], by rw [h2]⟩⟩
theorem HasL.went {N : Nat} {ls : PId} {M M' : Nat → List MOp} {s s' : RoomS} {ch : Option Nat} (h : HasL N ls s) (k : Went N M s ch M' s') : HasL N ls s' := fun c hc => by
  obtain ⟨y, hy, h1⟩ := h c hc
  exact ⟨y, k.grow c hc y hy, h1⟩
/-- A table, its room, its list in all copies. -/
structure QInv (Z : Nat → Prop) (tb : Nat) (w : World) (r N sp : Nat) (ls : PId) (M : Nat → List MOp) (s : RoomS) : Prop where
  i : invS Z tb w r N sp ls M s
  l : HasL N ls s
def hasInv (Z : Nat → Prop) (tb : Nat) (w : World) (r N sp : Nat) (ls : PId) : Prop := ∃ M s, QInv Z tb w r N sp ls M s
/-- What a step leaves. -/
def Stepd (Z : Nat → Prop) (tb : Nat) (r N sp : Nat) (ls : PId) (M : Nat → List MOp) (s : RoomS) (ch : Option Nat) (w w' : World) : Prop := (∃ M' s', Went N M s ch M' s' ∧ QInv Z tb w' r N sp ls M' s') ∧ Zept Z w w'
theorem Stepd.inv {Z : Nat → Prop} {tb : Nat} {r N sp : Nat} {ls : PId} {M : Nat → List MOp} {s : RoomS} {ch : Option Nat} {w w' : World} (h : ∃ M' s', Went N M s ch M' s' ∧ QInv Z tb w' r N sp ls M' s') : hasInv Z tb w' r N sp ls := by
  obtain ⟨M', s', _, hq⟩ := h
  exact ⟨M', s', hq⟩
section
theorem RInv.keep {Z : Nat → Prop} {tb : Nat} {w : World} {r N sp : Nat} {ls : PId} {F I : Nat → Prop} {M : Nat → List MOp} {s : RoomS} {x : RoomX} (h : RInv Z tb w r N sp ls F I M s x) {w' : World} (hb : Below w.heap.size w w') : RInv Z tb w' r N sp ls F I M s x := ⟨h.d.keep hb, h.nice, h.far, h.iz, h.tab.keep hb, h.ztb, fun k hk => Nat.lt_of_lt_of_le (h.zlt k hk) hb.size⟩
theorem RInv.goes {Z : Nat → Prop} {tb : Nat} {w : World} {r N sp : Nat} {ls : PId} {F I : Nat → Prop} {M : Nat → List MOp} {s : RoomS} {x : RoomX} (h : RInv Z tb w r N sp ls F I M s x) {w' : World} {F' I' : Nat → Prop} {M' : Nat → List MOp} {s' : RoomS} {x' : RoomX} (hd : RoomD w' r F' I' N sp M' s' x') (hk : Keeps F F' w w') (hi : IGo I I' w w') (hn : NiceQ N M') : invS Z tb w' r N sp ls M' s' ∧ Zept Z w w' := by
  refine ⟨⟨F', I', x', hd, hn, fun k hF hz => ?_, fun k hI hz => ?_, ?_, h.ztb, fun k hz => Nat.lt_of_lt_of_le (h.zlt k hz) hk.size⟩, ⟨hk.os, hk.tape, hk.output, hk.size, fun k hz => hk.other k (h.zlt k hz) fun hF => h.far k hF hz⟩⟩
  · rcases hk.sub k hF with h1 | h1
    · exact h.far k h1 hz
    · have := h.zlt k hz
      omega
  · rcases hi.2 k hI with h1 | h1
    · exact h.iz k h1 hz
    · have := h.zlt k hz
      omega
  · exact (hk.other tb (h.zlt tb h.ztb) fun hF => h.far tb hF h.ztb).trans h.tab
theorem RInv.goTo {Z : Nat → Prop} {tb : Nat} {w : World} {r N sp : Nat} {ls : PId} {F I : Nat → Prop} {M : Nat → List MOp} {s : RoomS} {x : RoomX} (h : RInv Z tb w r N sp ls F I M s x) {w' : World} {s' : RoomS} (hto : RoomTo r N sp F I w w' s') (hok : RoomOk N M s') : invS Z tb w' r N sp ls M s' ∧ Zept Z w w' := by
  obtain ⟨F', I', x', h1, h2, h3⟩ := hto
  exact h.goes ⟨h1, hok, h.d.md⟩ h2 h3 h.nice
theorem RInv.to {Z : Nat → Prop} {tb : Nat} {w : World} {r N sp : Nat} {ls : PId} {F I : Nat → Prop} {M : Nat → List MOp} {s : RoomS} {x : RoomX} (h : RInv Z tb w r N sp ls F I M s x) {w' : World} {rbs : Nat → Nat} {M' : Nat → List MOp} {s' : RoomS} (hd : RoomDTo r N sp F I w w' rbs M' s') (hn : NiceQ N M') : invS Z tb w' r N sp ls M' s' ∧ Zept Z w w' := by
  obtain ⟨F', I', x', h1, h2, h3, h4⟩ := hd
  exact h.goes h1 h3 h4 hn
end
section
theorem invS.keep {Z : Nat → Prop} {tb : Nat} {w : World} {r N sp : Nat} {ls : PId} {M : Nat → List MOp} {s : RoomS} {w' : World} (h : invS Z tb w r N sp ls M s) (hb : Below w.heap.size w w') : invS Z tb w' r N sp ls M s := by
  obtain ⟨F, I, x, h⟩ := h
  exact ⟨F, I, x, h.keep hb⟩
theorem invS.zlt {Z : Nat → Prop} {tb : Nat} {w : World} {r N sp : Nat} {ls : PId} {M : Nat → List MOp} {s : RoomS} (h : invS Z tb w r N sp ls M s) : ∀ k, Z k → k < w.heap.size := by
  obtain ⟨F, I, x, h⟩ := h
  exact h.zlt
/-- What is laid beside the room is none of it. -/
theorem invS.more {Z : Nat → Prop} {tb : Nat} {w : World} {r N sp : Nat} {ls : PId} {M : Nat → List MOp} {s : RoomS} {w' : World} (h : invS Z tb w r N sp ls M s) (hb : Below w.heap.size w w') : invS (fun k => Z k ∨ (w.heap.size ≤ k ∧ k < w'.heap.size)) tb w' r N sp ls M s := by
  obtain ⟨F, I, x, h⟩ := h
  have hk := h.keep hb
  refine ⟨F, I, x, hk.d, hk.nice, fun k hF hz => ?_, fun k hI hz => ?_, hk.tab, .inl hk.ztb, fun k hz => ?_⟩
  · rcases hz with hz | hz
    · exact h.far k hF hz
    · have := h.d.m.lt k hF
      omega
  · rcases hz with hz | hz
    · exact h.iz k hI hz
    · have := h.d.m.iI k hI
      omega
  · rcases hz with hz | hz
    · exact hk.zlt k hz
    · exact hz.2
/-- A block that is none of the room's and not the table's may turn; what is new is none of the room's. -/
theorem invS.turn {Z : Nat → Prop} {tb : Nat} {w : World} {r N sp : Nat} {ls : PId} {M : Nat → List MOp} {s : RoomS} {w' : World} {ob : Option Nat} (h : invS Z tb w r N sp ls M s) (hz : ∀ g, ob = some g → Z g ∧ g ≠ tb) (hs : w.heap.size ≤ w'.heap.size) (hk : ∀ k, k < w.heap.size → some k ≠ ob → w'.heap[k]? = w.heap[k]?) : invS (fun k => Z k ∨ (w.heap.size ≤ k ∧ k < w'.heap.size)) tb w' r N sp ls M s := by
  obtain ⟨F, I, x, h⟩ := h
  refine ⟨F, I, x, ⟨h.d.m.keepF hs (fun k hF => hk k (h.d.m.lt k hF) fun e => h.far k hF (hz k e.symm).1) (fun k hI => hk k (h.d.m.iI k hI) fun e => h.iz k hI (hz k e.symm).1), h.d.ok, h.d.md⟩, h.nice, fun k hF hz => ?_, fun k hI hz => ?_, (hk tb (h.zlt tb h.ztb) fun e => (hz tb e.symm).2 rfl).trans h.tab, .inl h.ztb, fun k hz => ?_⟩
  · rcases hz with hz | hz
    · exact h.far k hF hz
    · have := h.d.m.lt k hF
      omega
  · rcases hz with hz | hz
    · exact h.iz k hI hz
    · have := h.d.m.iI k hI
      omega
  · rcases hz with hz | hz
    · exact Nat.lt_of_lt_of_le (h.zlt k hz) hs
    · exact hz.2
theorem invS.ztb {Z : Nat → Prop} {tb : Nat} {w : World} {r N sp : Nat} {ls : PId} {M : Nat → List MOp} {s : RoomS} (h : invS Z tb w r N sp ls M s) : Z tb := by
  obtain ⟨F, I, x, h⟩ := h
  exact h.ztb
theorem invS.tab {Z : Nat → Prop} {tb : Nat} {w : World} {r N sp : Nat} {ls : PId} {M : Nat → List MOp} {s : RoomS} (h : invS Z tb w r N sp ls M s) : isTab w tb N r ls := by
  obtain ⟨F, I, x, h⟩ := h
  exact h.tab
theorem invS.hN {Z : Nat → Prop} {tb : Nat} {w : World} {r N sp : Nat} {ls : PId} {M : Nat → List MOp} {s : RoomS} (h : invS Z tb w r N sp ls M s) : N ≤ 4 := by
  obtain ⟨F, I, x, h⟩ := h
  exact h.d.m.hN
theorem invS.ok {Z : Nat → Prop} {tb : Nat} {w : World} {r N sp : Nat} {ls : PId} {M : Nat → List MOp} {s : RoomS} (h : invS Z tb w r N sp ls M s) : RoomOk N M s := by
  obtain ⟨F, I, x, h⟩ := h
  exact h.d.ok
theorem invS.nice {Z : Nat → Prop} {tb : Nat} {w : World} {r N sp : Nat} {ls : PId} {M : Nat → List MOp} {s : RoomS} (h : invS Z tb w r N sp ls M s) : NiceM N M := by
  obtain ⟨F, I, x, h⟩ := h
  exact h.nice.n
theorem invS.short {Z : Nat → Prop} {tb : Nat} {w : World} {r N sp : Nat} {ls : PId} {M : Nat → List MOp} {s : RoomS} (h : invS Z tb w r N sp ls M s) : NiceQ N M := by
  obtain ⟨F, I, x, h⟩ := h
  exact h.nice
theorem QInv.keep {Z : Nat → Prop} {tb : Nat} {w : World} {r N sp : Nat} {ls : PId} {M : Nat → List MOp} {s : RoomS} {w' : World} (h : QInv Z tb w r N sp ls M s) (hb : Below w.heap.size w w') : QInv Z tb w' r N sp ls M s := ⟨h.i.keep hb, h.l⟩
theorem QInv.step {Z : Nat → Prop} {tb : Nat} {w : World} {r N sp : Nat} {ls : PId} {M : Nat → List MOp} {s : RoomS} {M' : Nat → List MOp} {s' : RoomS} {ch : Option Nat} {w' : World} (h : QInv Z tb w r N sp ls M s) (hw : Went N M s ch M' s') (hi : invS Z tb w' r N sp ls M' s' ∧ Zept Z w w') : Stepd Z tb r N sp ls M s ch w w' := ⟨⟨M', s', hw, hi.1, h.l.went hw⟩, hi.2⟩
end

def kA : ByteArray := ⟨#[97]⟩
def kB : ByteArray := ⟨#[98]⟩
def kM : ByteArray := ⟨#[109]⟩
def keyN (c : Int) : ByteArray := if pickN c 3 = 0 then kA else if pickN c 3 = 1 then kB else kM
theorem keyN_size (c : Int) : (keyN c).size = 1 := by
  unfold keyN
  split
  · rfl
  · split <;> rfl

set_option maxRecDepth 1000000 in
set_option maxHeartbeats 1000000 in
theorem key_g (c : Int) (hc : intOk c) (w : World) :
    Calls Tryz.prog 77 #[.int .i64 c] w fun e w' => e = .returned (.string (keyN c)) ∧ Below w.heap.size w w' := by
  have HP := hid (fun W => (show Calls Tryz.prog 20 #[.int .i64 c, .int .i64 3] W _ from pick_g c hc 3 (by omega) (by omega) W))
  have HB := hid ((Below.refl w.heap.size w).alloc (Nat.le_refl _) (.cells #[.string kA, .string kB, .string kM] 9))
  have HX0 := hid (blk_new w (.cells #[.string kA, .string kB, .string kM] 9))
  have hlt := pickN_lt c (show 0 < 3 by omega)
  go_enter Tryz.func77, Tryz.ntmps77
  go_wp2_with fail
  refine (HP.out _).mono ?_
  rintro e w1 ⟨rfl, hb1⟩
  have HX1 := hid (blk_keep HX0.out hb1)
  have HB1 := hid (HB.out.trans (hb1.mono HB.out.size)); clear hb1
  have c0 : w1.cell? ⟨w.heap.size, 0, none⟩ = some (.string kA) := by simp [World.cell?, HX1.out]
  have c1 : w1.cell? ⟨w.heap.size, 1, none⟩ = some (.string kB) := by simp [World.cell?, HX1.out]
  have c2 : w1.cell? ⟨w.heap.size, 2, none⟩ = some (.string kM) := by simp [World.cell?, HX1.out]
  have hk : pickN c 3 = 0 ∨ pickN c 3 = 1 ∨ pickN c 3 = 2 := by omega
  rcases hk with hk | hk | hk
  · have HK := hid (show keyN c = kA by unfold keyN; rw [if_pos hk])
    rw [hk]
    go_wp2
    go_ret
    exact ⟨by rw [HK.out]; rfl, HB1.out⟩
  · have HK := hid (show keyN c = kB by unfold keyN; rw [if_neg (by omega), if_pos hk])
    rw [hk]
    go_wp2
    go_ret
    exact ⟨by rw [HK.out]; rfl, HB1.out⟩
  · have HK := hid (show keyN c = kM by unfold keyN; rw [if_neg (by omega), if_neg (by omega)])
    rw [hk]
    go_wp2
    go_ret
    exact ⟨by rw [HK.out]; rfl, HB1.out⟩

end Go.Proofs.YtnkpogjiiohapaaGreatDoor

/-! QLawF: quirekeep: the room's writers, each as a step. -/
namespace Go.Proofs.YtnkpogjiiohapaaGreatDoor
open Go.RowKit

theorem zeroOk : intOk 0 := ⟨by omega, by omega⟩
theorem keyOk_four {key : ByteArray} (h : keyOk key = true) : key.size ≤ 4 := by
  unfold keyOk at h
  simp only [Bool.and_eq_true, decide_eq_true_eq] at h
  exact h.2.2
/-- A call that is a step. -/
def isStep (Z : Nat → Prop) (tb r N sp : Nat) (ls : PId) (M : Nat → List MOp) (s : RoomS) (ch : Option Nat) (w : World) (e : Ending) (w' : World) : Prop := (∃ v, e = .returned v) ∧ Stepd Z tb r N sp ls M s ch w w'
section
theorem QInv.put {Z : Nat → Prop} {tb : Nat} {w : World} {r N sp : Nat} {ls : PId} {M : Nat → List MOp} {s : RoomS} (h : QInv Z tb w r N sp ls M s) {c : Nat} (hc : c < N) (x1 x2 n : Int) (hn : intOk n) (key : ByteArray) (hks : key.size ≤ 1) :
    Calls Tryz.prog 23 #[.pointer (some ⟨r, 0, none⟩), .int .i64 c, .agg #[.int .i64 x1, .int .i64 x2], .string key, .int .i64 n] w fun e w' => isStep Z tb r N sp ls M s (some c) w e w' := by
  obtain ⟨F, I, x, hr⟩ := h.i
  refine (gPut hr.d hc x1 x2 n key (by unfold maxLen; omega)).mono ?_
  rintro e w' (⟨m, _, rfl, hto⟩ | ⟨o, ss, _, _, hk, _, _, rfl, hl, t, v, hto⟩)
  · exact ⟨⟨_, rfl⟩, h.step (Went.refl ..) (hr.to hto hr.nice)⟩
  · exact ⟨⟨_, rfl⟩, h.step (Went.wrote N M s c _ t v) (hr.to hto (hr.nice.add hn hks))⟩
theorem QInv.cut {Z : Nat → Prop} {tb : Nat} {w : World} {r N sp : Nat} {ls : PId} {M : Nat → List MOp} {s : RoomS} (h : QInv Z tb w r N sp ls M s) {c : Nat} (hc : c < N) (x1 x2 : Int) (key : ByteArray) (hks : key.size ≤ 1) :
    Calls Tryz.prog 78 #[.pointer (some ⟨r, 0, none⟩), .int .i64 c, .agg #[.int .i64 x1, .int .i64 x2], .string key] w fun e w' => isStep Z tb r N sp ls M s (some c) w e w' := by
  obtain ⟨F, I, x, hr⟩ := h.i
  refine (gCut hr.d hc x1 x2 key (by unfold maxLen; omega)).mono ?_
  rintro e w' (⟨m, _, rfl, hto⟩ | ⟨o, ss, _, _, hk, _, _, rfl, _, hl, t, v, hto⟩)
  · exact ⟨⟨_, rfl⟩, h.step (Went.refl ..) (hr.to hto hr.nice)⟩
  · exact ⟨⟨_, rfl⟩, h.step (Went.wrote N M s c _ t v) (hr.to hto (hr.nice.add zeroOk hks))⟩
theorem QInv.setAt {Z : Nat → Prop} {tb : Nat} {w : World} {r N sp : Nat} {ls : PId} {M : Nat → List MOp} {s : RoomS} (h : QInv Z tb w r N sp ls M s) {c : Nat} (hc : c < N) (x1 x2 i n : Int) (hn : intOk n) :
    Calls Tryz.prog 33 #[.pointer (some ⟨r, 0, none⟩), .int .i64 c, .agg #[.int .i64 x1, .int .i64 x2], .int .i64 i, .int .i64 n] w fun e w' => isStep Z tb r N sp ls M s (some c) w e w' := by
  obtain ⟨F, I, x, hr⟩ := h.i
  refine (gSetAt hr.d hc x1 x2 i n).mono ?_
  rintro e w' (⟨m, _, rfl, hto⟩ | ⟨o, y, ss, _, _, _, _, _, _, rfl, hl, t, v, hto⟩)
  · exact ⟨⟨_, rfl⟩, h.step (Went.refl ..) (hr.to hto hr.nice)⟩
  · exact ⟨⟨_, rfl⟩, h.step (Went.wrote N M s c _ t v) (hr.to hto (hr.nice.add hn (Nat.zero_le _)))⟩
theorem QInv.cutAt {Z : Nat → Prop} {tb : Nat} {w : World} {r N sp : Nat} {ls : PId} {M : Nat → List MOp} {s : RoomS} (h : QInv Z tb w r N sp ls M s) {c : Nat} (hc : c < N) (x1 x2 i : Int) :
    Calls Tryz.prog 34 #[.pointer (some ⟨r, 0, none⟩), .int .i64 c, .agg #[.int .i64 x1, .int .i64 x2], .int .i64 i] w fun e w' => isStep Z tb r N sp ls M s (some c) w e w' := by
  obtain ⟨F, I, x, hr⟩ := h.i
  refine (gCutAt hr.d hc x1 x2 i).mono ?_
  rintro e w' (⟨m, _, rfl, hto⟩ | ⟨o, y, ss, _, _, _, _, _, _, rfl, hl, t, v, hto⟩)
  · exact ⟨⟨_, rfl⟩, h.step (Went.refl ..) (hr.to hto hr.nice)⟩
  · exact ⟨⟨_, rfl⟩, h.step (Went.wrote N M s c _ t v) (hr.to hto (hr.nice.add zeroOk (Nat.zero_le _)))⟩
theorem QInv.insert {Z : Nat → Prop} {tb : Nat} {w : World} {r N sp : Nat} {ls : PId} {M : Nat → List MOp} {s : RoomS} (h : QInv Z tb w r N sp ls M s) {c : Nat} (hc : c < N) (x1 x2 i n : Int) (hn : intOk n) :
    Calls Tryz.prog 32 #[.pointer (some ⟨r, 0, none⟩), .int .i64 c, .agg #[.int .i64 x1, .int .i64 x2], .int .i64 i, .int .i64 n] w fun e w' => isStep Z tb r N sp ls M s (some c) w e w' := by
  obtain ⟨F, I, x, hr⟩ := h.i
  refine (gInsert hr.d hc x1 x2 i n).mono ?_
  rintro e w' (⟨m, _, rfl, hto⟩ | ⟨o, b, _, _, _, rfl, hl, t, v, D1, ss, t', v', _, _, _, _, hto⟩)
  · exact ⟨⟨_, rfl⟩, h.step (Went.refl ..) (hr.to hto hr.nice)⟩
  · exact ⟨⟨_, rfl⟩, h.step ((Went.wrote N M s c _ t v).trans (Went.wrote N _ _ c _ t' v')) (hr.to hto ((hr.nice.add (c := c) (o := newOp c (s.gt c) (s.has c) (.inr (.inl ((x1, x2), b))) t v) zeroOk (Nat.zero_le _)).add (c := c) (o := newOp c ((wroteS s c (.inr (.inl ((x1, x2), b))) t v).gt c) ((wroteS s c (.inr (.inl ((x1, x2), b))) t v).has c) (.inr (.inr (.inl ((x1, x2), ⟨#[]⟩, (s.gt c + 1, (c : Int)), (n, (0, 0)), ss)))) t' v') hn (Nat.zero_le _)))⟩
theorem QInv.elements {Z : Nat → Prop} {tb : Nat} {w : World} {r N sp : Nat} {ls : PId} {M : Nat → List MOp} {s : RoomS} (h : QInv Z tb w r N sp ls M s) {c : Nat} (hc : c < N) (x1 x2 : Int) :
    Calls Tryz.prog 29 #[.pointer (some ⟨r, 0, none⟩), .int .i64 c, .agg #[.int .i64 x1, .int .i64 x2]] w fun e w' => Below w.heap.size w w' ∧ ∃ a n cap er, n ≤ 300 ∧ e = .returned (.tuple #[.slice a n cap, .int .i64 er]) := by
  obtain ⟨F, I, x, hr⟩ := h.i
  refine (gElements hr.d hc x1 x2).mono ?_
  rintro e w' ⟨hb, ⟨n, _, rfl⟩ | ⟨v, l, _, hl, rfl, hv⟩⟩
  · exact ⟨hb, none, 0, 0, n, by omega, rfl⟩
  · obtain ⟨a, cap, rfl, _, _, _⟩ := owns_form hv
    exact ⟨hb, a, l.length, cap, 0, hl, rfl⟩
end

end Go.Proofs.YtnkpogjiiohapaaGreatDoor

/-! QLawG: quirekeep: write. -/
namespace Go.Proofs.YtnkpogjiiohapaaGreatDoor
open Go.RowKit
attribute [local go_sem ↓] Go.wp_at_zero Go.wp_at_succ

theorem isStep.before {Z : Nat → Prop} {tb : Nat} {w W w' : World} {r N sp : Nat} {ls : PId} {M : Nat → List MOp} {s : RoomS} {ch : Option Nat} (h : QInv Z tb w r N sp ls M s) (hb : Below w.heap.size w W) {e : Ending} (hs : isStep Z tb r N sp ls M s ch W e w') : (∃ v, e = .returned v) ∧ Stepd Z tb r N sp ls M s ch w w' := ⟨hs.1, hs.2.1, (Zept.of hb h.i.zlt).trans hs.2.2⟩

set_option maxRecDepth 1000000 in
set_option maxHeartbeats 8000000 in
theorem write_g {Z : Nat → Prop} {tb : Nat} {w : World} {r N sp : Nat} {ls : PId} {M : Nat → List MOp} {s : RoomS} (h : QInv Z tb w r N sp ls M s) (h2 : 2 ≤ N) (p : Stp) (hp : p.ok) :
    Calls Tryz.prog 40 #[.pointer (some ⟨tb, 0, none⟩), .agg #[.int .i64 p.k, .int .i64 p.c, .int .i64 p.d, .int .i64 p.a, .int .i64 p.n]] w fun e w' => isStep Z tb r N sp ls M s (some (pickN p.c N)) w e w' := by
  have h4 := h.i.hN
  have HB := hid ((Below.refl w.heap.size w).alloc (Nat.le_refl _) (.cells #[.int .i64 p.k, .int .i64 p.c, .int .i64 p.d, .int .i64 p.a, .int .i64 p.n] 32))
  have HX0 := hid (blk_new w (.cells #[.int .i64 p.k, .int .i64 p.c, .int .i64 p.d, .int .i64 p.a, .int .i64 p.n] 32))
  have HT0 := hid (h.i.tab.keep HB.out)
  have HP1 := hid (fun W => pick_g p.c hp.2.1 N (by omega) (by omega) W)
  have HP2 := hid (fun W (n : Nat) (hn : n ≤ 300) => (show Calls Tryz.prog 20 #[.int .i64 p.a, .int .i64 ((n : Int) + 1)] W _ from pick_g p.a hp.2.2.2.1 (n + 1) (by omega) (by omega) W))
  have HP3 := hid (fun W => (show Calls Tryz.prog 20 #[.int .i64 p.k, .int .i64 8] W _ from pick_g p.k hp.1 8 (by omega) (by omega) W))
  have hcl := pickN_lt p.c (show 0 < N by omega)
  have HEL := hid (fun W (hb : Below w.heap.size w W) => (h.keep hb).elements hcl ls.1 ls.2)
  have HKY := hid (fun W => key_g p.a hp.2.2.2.1 W)
  have HH := hid h
  have HIN := hid (fun W (hb : Below w.heap.size w W) (i : Int) => (h.keep hb).insert hcl ls.1 ls.2 i p.n hp.2.2.2.2)
  have HCA := hid (fun W (hb : Below w.heap.size w W) (i : Int) => (h.keep hb).cutAt hcl ls.1 ls.2 i)
  have HSA := hid (fun W (hb : Below w.heap.size w W) (i : Int) => (h.keep hb).setAt hcl ls.1 ls.2 i p.n hp.2.2.2.2)
  have HPU := hid (fun W (hb : Below w.heap.size w W) => (h.keep hb).put hcl 0 0 p.n hp.2.2.2.2 (keyN p.a) (by rw [keyN_size]; omega))
  have HCU := hid (fun W (hb : Below w.heap.size w W) => (h.keep hb).cut hcl 0 0 (keyN p.a) (by rw [keyN_size]; omega))
  have hkl := pickN_lt p.k (show 0 < 8 by omega)
  clear h hp
  go_enter Tryz.func40, Tryz.ntmps40
  go_wp2_with fail
  go_region_held3 (fun W => W.cell? ⟨tb, 0, none⟩ = some (.int .i64 N) ∧ W.cell? ⟨w.heap.size, 1, none⟩ = some (.int .i64 p.c)) (first | exact ⟨(HT1.out.cells).1, (stpCells HX1.out).2.1⟩ | exact ⟨(HT0.out.cells).1, (stpCells HX0.out).2.1⟩)
    (first
      | (go_at_call 20; refine (HP1.out _).mono ?_; rintro e w1 ⟨rfl, hb1⟩; have hb1' := Hid.out (below_drew_left hb1); have HT1 := hid (HT0.out.keep hb1'); have HX1 := hid (blk_keep HX0.out hb1'); have HB1 := hid (HB.out.trans (hb1'.mono HB.out.size)); clear hb1 hb1'))
  all_goals (
    go_wp2_with fail
    go_region_held3 (fun W => W.cell? ⟨tb, 1, none⟩ = some (.pointer (some ⟨r, 0, none⟩)) ∧ W.cell? ⟨tb, 2, none⟩ = some (.int .i64 ls.1) ∧ W.cell? ⟨tb, 3, none⟩ = some (.int .i64 ls.2)) (first | exact (HT2.out.cells).2 | exact (HT1.out.cells).2)
      (first
        | (go_at_call 29; refine (HEL.out _ HB1.out.drew).mono ?_; rintro e w2 ⟨hb2, ua, un, uc, er, hun, rfl⟩; have hb2' := Hid.out (below_drew_left hb2); have HT2 := hid (HT1.out.keep hb2'); have HX2 := hid (blk_keep HX1.out hb2'); have HB2 := hid (HB1.out.trans (hb2'.mono HB1.out.size)); clear hb2 hb2'))
    all_goals (
      obtain ⟨x0, _, _, x3, _⟩ := stpCells HX2.out
      have hxl := blk_lt HX2.out
      have hwr : IntKind.i64.wrap ((un : Int) + 1) = (un : Int) + 1 := Go.IntWalk.i64_in _ (by omega)
      go_wp2_with fail
      refine (HP2.out _ un hun).mono ?_
      rintro e w3 ⟨rfl, hb3⟩
      have HT3 := hid (HT2.out.keep hb3)
      have HX3 := hid (blk_keep HX2.out hb3)
      have HB3 := hid (HB2.out.trans (hb3.mono HB2.out.size)); clear hb3 x3 hwr
      replace x0 := (stpCells HX3.out).1
      replace hxl := blk_lt HX3.out
      go_wp2_with fail
      refine (HP3.out _).mono ?_
      rintro e w4 ⟨rfl, hb4⟩
      have HT4 := hid (HT3.out.keep hb4)
      have HX4 := hid (blk_keep HX3.out hb4)
      have HB4 := hid (HB3.out.trans (hb4.mono HB3.out.size)); clear hb4 x0 hxl
      obtain ⟨at', hat⟩ : ∃ at', at' = pickN p.a (un + 1) := ⟨_, rfl⟩
      rw [← hat]
      clear hat
      have hk : pickN p.k 8 = 0 ∨ pickN p.k 8 = 1 ∨ pickN p.k 8 = 2 ∨ pickN p.k 8 = 3 ∨ pickN p.k 8 = 4 ∨ pickN p.k 8 = 5 ∨ pickN p.k 8 = 6 ∨ pickN p.k 8 = 7 := by omega
      rcases hk with hk | hk | hk | hk | hk | hk | hk | hk
      all_goals (rw [hk]; clear hk hkl; go_wp2_with fail)
      all_goals obtain ⟨_, t1, t2, t3⟩ := HT4.out.cells
      all_goals obtain ⟨_, _, _, x3, x4⟩ := stpCells HX4.out
      all_goals have hxl := blk_lt HX4.out
      all_goals have htl := blk_lt HT4.out
      all_goals go_region_with (first
        | (go_at_call 32; refine (HIN.out _ HB4.out.drew at').mono ?_; rintro e w5 hs5; have HS5 := hid (isStep.before HH.out HB4.out.drew hs5); clear hs5; obtain ⟨⟨ev, rfl⟩, _⟩ := HS5.out)
        | (go_at_call 34; refine (HCA.out _ HB4.out.drew at').mono ?_; rintro e w5 hs5; have HS5 := hid (isStep.before HH.out HB4.out.drew hs5); clear hs5; obtain ⟨⟨ev, rfl⟩, _⟩ := HS5.out)
        | (go_at_call 33; refine (HSA.out _ HB4.out.drew at').mono ?_; rintro e w5 hs5; have HS5 := hid (isStep.before HH.out HB4.out.drew hs5); clear hs5; obtain ⟨⟨ev, rfl⟩, _⟩ := HS5.out)
        | (go_at_call 77; refine (HKY.out _).mono ?_; rintro e w5 ⟨rfl, hb5⟩; have hb5' := Hid.out (below_drew_left hb5); have HT5 := hid (HT4.out.keep hb5'); have HX5 := hid (blk_keep HX4.out hb5'); have HB5 := hid (HB4.out.trans (hb5'.mono HB4.out.size)); clear hb5 hb5'; replace t1 := (HT5.out.cells).2.1; replace x3 := (stpCells HX5.out).2.2.2.1; replace x4 := (stpCells HX5.out).2.2.2.2; replace hxl := blk_lt HX5.out; replace htl := blk_lt HT5.out)
        | (go_at_call 23; refine (HPU.out w5 HB5.out).mono ?_; rintro e w6 hs6; have HS5 := hid (isStep.before HH.out HB5.out hs6); clear hs6; obtain ⟨⟨ev, rfl⟩, _⟩ := HS5.out)
        | (go_at_call 78; refine (HCU.out w5 HB5.out).mono ?_; rintro e w6 hs6; have HS5 := hid (isStep.before HH.out HB5.out hs6); clear hs6; obtain ⟨⟨ev, rfl⟩, _⟩ := HS5.out))
      all_goals go_wp2
      all_goals go_end0
      all_goals exact (show _ ∧ _ from ⟨⟨_, rfl⟩, HS5.out.2⟩)))

end Go.Proofs.YtnkpogjiiohapaaGreatDoor
