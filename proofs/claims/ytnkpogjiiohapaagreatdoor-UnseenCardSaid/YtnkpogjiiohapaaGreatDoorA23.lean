/- Our own text (GRepK, GBeyB, GChunkA, GChunkB). -/
import Derived.Shelf.SlicesE.Kit
import Derived.BigQuiet
import Derived.Test.YtnkpogjiiohapaaGreatDoorA22
import Derived.Test.YtnkpogjiiohapaaGreatDoorA19
import Derived.Test.YtnkpogjiiohapaaGreatDoorA03
set_option linter.unusedSimpArgs false
set_option linter.unusedVariables false

/-! GRepK: One copy of the program's room in general: question, keepInMind. -/
namespace Go.Proofs.YtnkpogjiiohapaaGreatDoor
open Go.RowKit
attribute [local go_sem ↓] Go.wp_at_zero Go.wp_at_succ

def intC (x : Int) : List Value := [.int .i64 x]
def ownInts (B : Nat) (w : World) (v : Value) (l : List Int) : Prop := w.ownsRow B 3 1 v l.length (l.flatMap intC)
theorem ints_wf (l : List Int) : ∀ u ∈ l.flatMap intC, u.oneCell' = true := by
  intro u hu
  obtain ⟨n, _, hn⟩ := List.mem_flatMap.1 hu
  simp [intC] at hn
  subst hn
  rfl
theorem ints_flat (l : List Int) : l.flatMap intC = l.map fun x => Value.int .i64 x := by
  unfold intC
  exact List.map_eq_flatMap.symm
theorem ownInts.kn {B : Nat} {w : World} {v : Value} {l : List Int} (h : ownInts B w v l) (h0 : 0 < l.length) (h9 : l.length ≤ 1000) : ∃ g cap, v = .slice (some ⟨g, 0, none⟩) l.length cap ∧ l.length ≤ cap ∧ cap ≤ maxLen ∧ B ≤ g ∧ g < w.heap.size ∧ ∀ i (hi : i < l.length), w.cell? ⟨g, i, none⟩ = some (.int .i64 l[i]) := by
  obtain ⟨a, cap, rfl, h1, h2, hf⟩ := owns_form h
  obtain ⟨g, rfl⟩ := hf 0 h0
  have hl := World.ownsRow.lt h g rfl
  refine ⟨g, cap, rfl, h1, h2, hl.1, hl.2, fun i hi => ?_⟩
  have := World.ownsRow.cellAt h i (by omega)
  rw [this, ints_flat]
  simp [hi]

set_option maxRecDepth 1000000 in
set_option maxHeartbeats 400000 in
theorem cloneInts_q {w : World} {g cap : Nat} {l : List Int} (h : ownInts 0 w (.slice (some ⟨g, 0, none⟩) l.length cap) l) (hl : l.length < 1000000) :
    Calls Tryz.prog 50 #[.slice (some ⟨g, 0, none⟩) l.length cap] w fun e w' => ∃ u, e = .returned u ∧ ownInts w.heap.size w' u l ∧ Below w.heap.size w w' := by
  have hb0 := (Below.refl w.heap.size w).alloc (Nat.le_refl _) (.cells #[] 3)
  have HSR := hid (show srcIs (w.alloc (.cells #[] 3)) intC (.slice (some ⟨g, 0, none⟩) l.length cap) l by
    have := src_head (owns_keep h hb0) (fun _ => rfl) rfl l.length (Nat.le_refl _) cap (fun _ e => by cases e)
    rwa [List.take_length] at this)
  have HB0 := hid hb0
  clear h hb0
  go_enter Tryz.func50, Tryz.ntmps50
  have hq : ∀ (w : World) (a : Option Addr) (n c n' c' : Nat), (binOp .eql 24 (.slice a n c) (.slice none n' c')).run Tryz.prog w = .ok (.bool a.isNone) w := fun w a n c n' c' => Lib.run_eql_slice_nil w _ _ a n c n' c' Tryz.underlying24
  go_wp2_with (at_builtin; go_must (refine app_many intC 1 8 24 3 (.int .i64 0) (by kernel_rfl) Tryz.underlying24 rfl (by omega) (fun _ => rfl) rfl (.tmp 5) (.tmp 6) rfl w.heap.size (.slice (some ⟨w.heap.size, 0, none⟩) 0 0) [] l rfl ?h1 (.slice (some ⟨g, 0, none⟩) l.length cap) rfl HSR.out (ints_wf l) ?h3 ?h4 ?h5 ?_; (case h1 => exact World.ownsRow_made w #[] 0 (Nat.le_refl _) (Nat.zero_le _) (by simp)); (case h3 => simp; omega); (case h4 => unfold maxLen; simp; omega); (case h5 => simp); intro v1 w1 ho1 hg1; have HO1 := hid ho1; have HG1 := hid hg1; clear ho1 hg1))
  go_ret
  refine ⟨v1, rfl, by unfold ownInts; simpa using HO1.out, HB0.out.grown HG1.out (by simp) (fun k e => ?_)⟩
  simp [Value.ownBlock] at e
  omega

/-- The row of what is heard. -/
def hasL (N : Nat) (has : Nat → Int) : List Int := (List.range N).map has
theorem hasL_len (N : Nat) (has : Nat → Int) : (hasL N has).length = N := by simp [hasL]
theorem RepM.ints {w : World} {rb : Nat} {F I : Nat → Prop} {N sp c : Nat} {gt : Int} {has : Nat → Int} {ops : List MOp} {early : List (PId × MOp)} {q : RQ} (h : RepM w rb F I N sp c gt has ops early q) : ownInts 0 w (.slice (some ⟨q.gh, 0, none⟩) (hasL N has).length N) (hasL N has) := by
  have hg := h.heard
  have hN := h.hN
  have hf : (hasL N has).flatMap intC = (gRow N has).toList := by
    rw [ints_flat]
    simp [hasL, gRow]
  refine ⟨by rw [ints_flat]; simp, .inr ⟨q.gh, N, _, by rw [hasL_len], Nat.zero_le _, hg, by rw [hasL_len]; exact Nat.le_refl _, by unfold maxLen; omega, by simp [gRow], ?_⟩⟩
  rw [hf, hasL_len, List.take_of_length_le (by simp [gRow])]

set_option maxRecDepth 1000000 in
set_option maxHeartbeats 400000 in
/-- QUESTION: a row of its own. -/
theorem question_any {w : World} {rb : Nat} {F I : Nat → Prop} {N sp c : Nat} {gt : Int} {has : Nat → Int} {ops : List MOp} {early : List (PId × MOp)} {q : RQ} (h : RepM w rb F I N sp c gt has ops early q) :
    Calls Tryz.prog 54 #[.pointer (some ⟨rb, 0, none⟩)] w fun e w' => ∃ u, e = .returned u ∧ ownInts w.heap.size w' u (hasL N has) ∧ Below w.heap.size w w' := by
  obtain ⟨c0, c1, c2, c3, c4, c5⟩ := h.cells
  have HC := hid (cloneInts_q h.ints (by rw [hasL_len]; have := h.hN; omega))
  rw [hasL_len] at HC
  clear c0 c1 c3 c4 c5 h
  go_enter Tryz.func54, Tryz.ntmps54
  go_wp2_with fail
  refine HC.out.mono ?_
  rintro e w1 ⟨u, rfl, hu, hb⟩
  have HU := hid (And.intro hu hb); clear hu hb
  go_wp2
  go_ret
  exact ⟨u, rfl, HU.out.1, HU.out.2⟩

/-- What is kept in mind when the first k numbers of a question have been looked at. -/
def mindTo (l : List Int) (known : Nat → Int) (k : Nat) : List Int := l.mapIdx fun i x => if i < k then max x (known i) else x
theorem mind_len (l : List Int) (known : Nat → Int) (k : Nat) : (mindTo l known k).length = l.length := by simp [mindTo]
theorem mind_get (l : List Int) (known : Nat → Int) (k i : Nat) (hi : i < l.length) : (mindTo l known k)[i]'(by rw [mind_len]; exact hi) = if i < k then max l[i] (known i) else l[i] := by simp [mindTo]
theorem mind_zero (l : List Int) (known : Nat → Int) : mindTo l known 0 = l := by
  apply List.ext_getElem
  · exact mind_len _ _ _
  · intro i h1 h2
    rw [mind_get _ _ _ _ h2]
    simp
theorem mind_set (l : List Int) (known : Nat → Int) (k : Nat) (hk : k < l.length) : (((mindTo l known k).map fun x => Value.int .i64 x).toArray).setIfInBounds k (.int .i64 (max l[k] (known k))) = ((mindTo l known (k + 1)).map fun x => Value.int .i64 x).toArray := by
  apply Array.ext_getElem?
  intro i
  rw [Array.getElem?_setIfInBounds]
  by_cases hi : i < l.length
  · have h1 : i < (mindTo l known k).length := by rw [mind_len]; exact hi
    have h2 : i < (mindTo l known (k + 1)).length := by rw [mind_len]; exact hi
    by_cases hki : k = i
    · subst hki
      simp [h1, h2, mind_get _ _ _ _ hi]
    · rw [if_neg hki]
      have e : (i < k + 1) = (i < k) := by apply propext; omega
      simp [h1, h2, mind_get _ _ _ _ hi, e]
  · have h1 : ¬ i < (mindTo l known k).length := by rw [mind_len]; exact hi
    have h2 : ¬ i < (mindTo l known (k + 1)).length := by rw [mind_len]; exact hi
    have hki : k ≠ i := by omega
    simp [hki, h1, h2]

theorem RepM.mind {w w' : World} {rb : Nat} {F I : Nat → Prop} {N sp c : Nat} {gt : Int} {has : Nat → Int} {ops : List MOp} {early : List (PId × MOp)} {q : RQ} (h : RepM w rb F I N sp c gt has ops early q) {p : Int × Nat} (hp : p ∈ q.ns) {l : List Int} (hl : l.length = N) (ht : Turned (fun k => k = p.2) w w') (hg : w'.heap[p.2]? = some (.cells (l.map fun x => Value.int .i64 x).toArray 3 (0, 0))) :
    RepM w' rb F I N sp c gt has ops early { q with nv := fun b => if b = p.2 then l else q.nv b } := by
  obtain ⟨⟨_, g1⟩, g2, g3, g4⟩ := h.nrow p hp
  have hk : ∀ k, F k → k ≠ p.2 → w'.heap[k]? = w.heap[k]? := fun k hF n1 => ht.other k (h.lt k hF) n1
  have hi : ∀ k, I k → w'.heap[k]? = w.heap[k]? := fun k hI => ht.other k (h.iI k hI) fun e => h.nI k hI (e ▸ g3)
  obtain ⟨es, clk, he⟩ := h.emap
  obtain ⟨es2, clk2, hn⟩ := h.newest
  have hmap : ∀ (b : Nat) (es : Array MapEntry) (clk : Nat), w.heap[b]? = some (.map es clk) → b ≠ p.2 := fun b es clk hb e => by rw [e, g1] at hb; cases hb
  have hrb : rb ≠ p.2 := fun e => by
    have h1 := h.blk
    rw [e] at h1
    exact absurd (cells_type h1 g1) (by decide)
  refine ⟨by rw [hk _ h.fr hrb]; exact h.blk, by rw [hk _ h.fg (Ne.symm g2)]; exact h.heard, h.hist.keepF ht.size (fun k hF => hk k (h.fH k hF) (fun e => g4 (e ▸ hF))) hi, h.cnt, h.asc, ⟨es, clk, he.blockK (hk _ h.fE (hmap _ _ _ he.blk))⟩, fun p hp => (h.echg p hp).keepI hi (fun _ x => x), ⟨es2, clk2, hn.blockK (hk _ h.fN (hmap _ _ _ hn.blk))⟩, fun p' hp' => ?_, h.hc, h.hN, h.fr, h.fg, h.fE, h.fN, h.fH, h.nr, h.ng, h.nE, h.nN, h.nEN, fun k hF => Nat.lt_of_lt_of_le (h.lt k hF) ht.size, h.nI⟩
  obtain ⟨⟨h3, h4⟩, h5, h6, h7⟩ := h.nrow p' hp'
  by_cases e : p'.2 = p.2
  · refine ⟨?_, h5, h6, h7⟩
    simp only [e, if_true]
    exact ⟨hl, hg⟩
  · refine ⟨?_, h5, h6, h7⟩
    simp only [e, if_false]
    exact ⟨h3, by rw [hk _ h6 e]; exact h4⟩

set_option maxRecDepth 1000000 in
set_option maxHeartbeats 2000000 in
/-- KEEP IN MIND: what another copy had. -/
theorem keepInMind_any {w : World} {rb : Nat} {F I : Nat → Prop} {N sp c : Nat} {gt : Int} {has : Nat → Int} {ops : List MOp} {early : List (PId × MOp)} {q : RQ} (h : RepM w rb F I N sp c gt has ops early q) (d : Int) {gr : Nat} (hd : lookI d q.ns = some gr) {gk ck : Nat} {known : Nat → Int} (hkn : isKn w gk ck N known) (hgI : I gk) :
    Calls Tryz.prog 274 #[.pointer (some ⟨rb, 0, none⟩), .int .i64 d, .slice (some ⟨gk, 0, none⟩) N ck] w fun e w' => (∃ r, e = .returned r) ∧ RepM w' rb F I N sp c gt has ops early { q with nv := fun b => if b = gr then mindTo (q.nv gr) known N else q.nv b } ∧ Turned (fun k => k = gr) w w' ∧ F gr := by
  obtain ⟨c0, c1, c2, c3, c4, c5⟩ := h.cells
  clear c0 c1 c2 c3 c4
  have hN4 := h.hN
  have hck := hkn.capL
  have hck2 := hkn.capM
  have hmem := look_mem hd
  obtain ⟨⟨hgl, hgb⟩, hg2, hg3, hg4⟩ := h.nrow _ hmem
  simp only at hgl hgb hg2 hg3 hg4
  obtain ⟨es, clk, hmap⟩ := h.newest
  have hLK : (Instr.lookup 107 (.map (some q.bN)) (.int .i64 d) false).run Tryz.prog w = .ok (.slice (some ⟨gr, 0, none⟩) N N) w := by
    have := run_lookI numKey hmap Tryz.underlying107 (show (zeroValue 24).run Tryz.prog w = .ok (.slice none 0 0) w by kernel_rfl) d false
    rw [hd] at this
    exact this
  have HH := hid (And.intro h (And.intro hkn (And.intro hgI (And.intro hgl (And.intro hgb hmem))))); clear h hkn hgb hmem hmap hg2 hg4
  have HF := hid hg3; clear hg3
  have HNE := hid (show gk ≠ gr from fun e => HH.out.1.nI _ hgI (e ▸ HF.out)); clear hgI
  obtain ⟨l0, hl0⟩ : ∃ l0, l0 = q.nv gr := ⟨_, rfl⟩
  rw [← hl0] at HH hgl
  go_enter Tryz.func274, Tryz.ntmps274
  go_wp2_with fail
  go_loopw [17] (fun i wr => ∃ k, k ≤ N ∧ i = .int .i64 (k : Nat) ∧ wr.heap[gr]? = some (.cells ((mindTo l0 known k).map fun x => Value.int .i64 x).toArray 3 (0, 0)) ∧ Turned (fun k => k = gr) w wr) (fun i _ => N - (intOf i).toNat)
  case atStart => exact ⟨0, Nat.zero_le _, rfl, by rw [mind_zero]; exact HH.out.2.2.2.2.1, Turned.of_below (Below.refl _ _)⟩
  case round =>
    obtain ⟨k, hkl, rfl, hg, hT⟩ := hrel
    by_cases hlt : k < N
    · have kc := hT.cell HNE.out (HH.out.2.1.cells k hlt)
      have hk0 : (0 : Int) ≤ (k : Int) := Int.natCast_nonneg _
      have hk1 : (k : Int) < (N : Int) := by omega
      have hk2 : (k : Int) < (ck : Int) := by omega
      have hkl0 : k < l0.length := by omega
      have gc : wr.cell? ⟨gr, k, none⟩ = some (.int .i64 l0[k]) := by
        have h1 : k < (mindTo l0 known k).length := by rw [mind_len]; exact hkl0
        simp [World.cell?, hg, h1, mind_get _ _ _ _ hkl0]
      have hfz := blk_fz hg k
      have HSE := hid (mind_set l0 known k hkl0)
      obtain ⟨y, hy⟩ : ∃ y, y = l0[k] := ⟨_, rfl⟩
      rw [← hy] at gc HSE
      clear hy
      have HG := hid (And.intro hg hT); clear hg hT
      have hkn2 := blk_lt HG.out.1
      obtain ⟨mx, hmx⟩ : ∃ mx, mx = max y (known k) := ⟨_, rfl⟩
      rw [← hmx] at HSE
      go_wp2_with fail
      rw [← hmx]
      refine ⟨⟨k + 1, by omega, by go_num, ?_, ?_⟩, by simp [intOf]; omega⟩
      · rw [← HSE.out]
        exact setRow HG.out.1
      · exact HG.out.2.trans (Turned.setC _ rfl)
    · have hke : k = N := by omega
      have HX := hid (And.intro hg (And.intro hT hke)); clear hg hT hke
      go_wp2_with fail
      go_end0
      obtain ⟨h1, h2, rfl⟩ := HX.out
      refine ⟨⟨_, rfl⟩, ?_, h2, HF.out⟩
      rw [← hl0]
      exact HH.out.1.mind HH.out.2.2.2.2.2 (by rw [mind_len]; exact HH.out.2.2.2.1) h2 h1

end Go.Proofs.YtnkpogjiiohapaaGreatDoor

/-! GBeyB: What a copy has beyond what is known: the places. -/
namespace Go.Proofs.YtnkpogjiiohapaaGreatDoor
open Go.RowKit
attribute [local go_sem ↓] Go.wp_at_zero Go.wp_at_succ

def lenS : Value → Nat
  | .slice _ n _ => n
  | _ => 0
def ownPls (B : Nat) (w : World) (v : Value) (l : List PId) : Prop := w.ownsRow B 371 2 v l.length (l.flatMap idC)
/-- The places of one copy's operations, from a number on. -/
def plsOf (c : Nat) (from_ : Int) (n : Nat) : List PId := (List.range n).map fun (j : Nat) => ((c : Int), from_ + 1 + (j : Int))
def beyTo (known has : Nat → Int) (c : Nat) : List PId := (List.range c).flatMap fun (i : Nat) => plsOf i (known i) (has i - known i).toNat
theorem plsOf_succ (c : Nat) (f : Int) (n : Nat) : plsOf c f (n + 1) = plsOf c f n ++ [((c : Int), f + 1 + (n : Int))] := by
  unfold plsOf
  rw [List.range_succ, List.map_append]
  rfl
theorem plsOf_len (c : Nat) (f : Int) (n : Nat) : (plsOf c f n).length = n := by simp [plsOf]
theorem beyTo_succ (known has : Nat → Int) (c : Nat) : beyTo known has (c + 1) = beyTo known has c ++ plsOf c (known c) (has c - known c).toNat := by
  unfold beyTo
  rw [List.range_succ, List.flatMap_append]
  simp
theorem beyTo_len {known has : Nat → Int} {N : Nat} (h : ∀ i, i < N → 0 ≤ known i ∧ has i ≤ 60) : ∀ c, c ≤ N → (beyTo known has c).length ≤ c * 60
  | 0, _ => by simp [beyTo]
  | c + 1, hc => by
    have h1 := beyTo_len h c (by omega)
    have h2 := h c (by omega)
    rw [beyTo_succ, List.length_append, plsOf_len, Nat.add_mul]
    omega

set_option maxRecDepth 1000000 in
set_option maxHeartbeats 4000000 in
/-- BEYOND: the places. -/
theorem beyond_any {w : World} {rb : Nat} {F I : Nat → Prop} {N sp c : Nat} {gt : Int} {has : Nat → Int} {ops : List MOp} {early : List (PId × MOp)} {q : RQ} (h : RepM w rb F I N sp c gt has ops early q) {gk ck : Nat} {known : Nat → Int} (hk : isKn w gk ck N known) (hhas : ∀ i, i < N → 0 ≤ known i ∧ has i ≤ 60) (hkn : ∀ i, i < N → known i ≤ 60) :
    Calls Tryz.prog 278 #[.pointer (some ⟨rb, 0, none⟩), .slice (some ⟨gk, 0, none⟩) N ck] w fun e w' => ∃ v, e = .returned v ∧ ownPls w.heap.size w' v (beyTo known has N) ∧ Below w.heap.size w w' := by
  have hN4 := h.hN
  obtain ⟨c0, c1, c2, c3, c4, c5⟩ := h.cells
  clear c0 c1 c3 c4 c5
  have hck := hk.capL
  have hck2 := hk.capM
  have HH := hid (And.intro h (And.intro hk (And.intro hhas hkn))); clear h hk hhas hkn
  go_enter Tryz.func278, Tryz.ntmps278
  go_wp2_with fail
  go_loopw [5, 14] (fun v i wr => ∃ k, k ≤ N ∧ i = .int .i64 (k : Nat) ∧ ownPls w.heap.size wr v (beyTo known has k) ∧ Below w.heap.size w wr) (fun _ i _ => N - (intOf i).toNat)
  case atStart => exact ⟨0, Nat.zero_le _, rfl, (show ownPls w.heap.size w (.slice none 0 0) [] from World.ownsRow_nil _ _ _ _), Below.refl _ _⟩
  case round =>
    obtain ⟨k, hkl, rfl, hown, hbel⟩ := hrel
    by_cases hlt : k < N
    · have c6 := (HH.out.1.keep hbel).heardAt hlt
      have kc := (HH.out.2.1.keep hbel).cells k hlt
      obtain ⟨hn0, hh6⟩ := HH.out.2.2.1 k hlt
      have hn6 := HH.out.2.2.2 k hlt
      have hk0 : (0 : Int) ≤ (k : Int) := Int.natCast_nonneg _
      have hk1 : (k : Int) < (N : Int) := by omega
      have hk2 : (k : Int) < (ck : Int) := by omega
      have hwr1 : IntKind.i64.wrap (known k + 1) = known k + 1 := Go.IntWalk.i64_in _ (by omega)
      have HR := hid (And.intro hown hbel); clear hown hbel
      obtain ⟨wo, hwo⟩ : ∃ wo, wo = wr := ⟨_, rfl⟩
      subst hwo
      have HPL := hid (beyTo_len (fun i hi => ⟨(HH.out.2.2.1 i hi).1, (HH.out.2.2.1 i hi).2⟩) k hkl)
      have HSC := hid (beyTo_succ known has k)
      have hpl : (beyTo known has k).length ≤ 240 := by have := HPL.out; omega
      obtain ⟨pre, hpre⟩ : ∃ pre, pre = beyTo known has k := ⟨_, rfl⟩
      rw [← hpre] at hpl HR HSC
      clear hpre HPL
      obtain ⟨m, hm⟩ : ∃ m, m = (has k - known k).toNat := ⟨_, rfl⟩
      rw [← hm] at HSC
      go_wp2_with fail
      go_loopw [5, 8] (fun v s wi => ∃ j, j ≤ m ∧ s = .int .i64 (known k + 1 + (j : Nat)) ∧ ownPls w.heap.size wi v (pre ++ plsOf k (known k) j) ∧ Below w.heap.size w wi) (fun v _ _ => 1000 - lenS v)
      case atStart => exact ⟨0, Nat.zero_le _, by simp, by simpa [plsOf] using HR.out.1, HR.out.2⟩
      case round =>
        obtain ⟨j, hjm, rfl, hown2, hbel2⟩ := hrel
        obtain ⟨acc, hacc⟩ : ∃ acc, acc = pre ++ plsOf k (known k) j := ⟨_, rfl⟩
        have HAL := hid (show acc.length = pre.length + j by rw [hacc, List.length_append, plsOf_len])
        have HSN := hid (show pre ++ plsOf k (known k) (j + 1) = acc ++ [((k : Int), known k + 1 + (j : Int))] by rw [plsOf_succ, hacc, List.append_assoc])
        have HFN := hid (fun (e : j = m) => show acc = beyTo known has (k + 1) by rw [HSC.out, hacc, e])
        rw [← hacc] at hown2
        clear hacc
        have hml : m ≤ 60 := by omega
        have hal : acc.length ≤ 400 := by have := HAL.out; omega
        obtain ⟨av, cv, rfl, hlv, hcv, hfv⟩ := owns_form hown2
        clear hfv
        unfold maxLen at hcv
        have HI := hid (And.intro hown2 hbel2); clear hown2 hbel2
        by_cases hj : j < m
        · have hle : known k + 1 + (j : Int) ≤ has k := by omega
          have HM := hid hm; clear hm
          have HBA := hid ((Below.refl wr.heap.size wr).alloc (Nat.le_refl _) (.cells #[.int .i64 k, .int .i64 (known k + 1 + (j : Int))] 371))
          have HCN := hid (cells_ids (x1 := (k : Int)) (x2 := known k + 1 + (j : Int)) (blk2 (blk_new wr (.cells #[.int .i64 k, .int .i64 (known k + 1 + (j : Int))] 371))).1 (blk2 (blk_new wr (.cells #[.int .i64 k, .int .i64 (known k + 1 + (j : Int))] 371))).2)
          have hw2 : IntKind.i64.wrap (known k + 1 + (j : Int) + 1) = known k + 1 + (j : Int) + 1 := Go.IntWalk.i64_in _ (by omega)
          go_wp2_with (first
            | (at_builtin; refine app_one_at idC 2 16 378 371 (.agg #[.int .i64 0, .int .i64 0]) (by kernel_rfl) Tryz.underlying378 rfl (by omega) (fun _ => rfl) rfl (.tmp 29) (.tmp 33) rfl w.heap.size (.slice av acc.length cv) acc rfl (owns_keep HI.out.1 HBA.out) wr.heap.size 1 ((k : Int), known k + 1 + (j : Int)) rfl HCN.out wf_ids (by omega) (by unfold maxLen; omega) (by have := HBA.out.size; have := HI.out.2.size; omega) ?_; intro v' w10 ho10 hg10 hn10; have HO10 := hid ho10; have HG10 := hid hg10; clear ho10 hg10 hn10)
            | fail)
          go_roundw
          case rel =>
            refine ⟨j + 1, by omega, by congr 1; omega, ?_, ?_⟩
            · rw [HSN.out]
              show w10.ownsRow w.heap.size 371 2 v' (acc ++ [((k : Int), known k + 1 + (j : Int))]).length ((acc ++ [((k : Int), known k + 1 + (j : Int))]).flatMap idC)
              rw [List.length_append]
              exact HO10.out
            · have hb2 := HI.out.2.trans (HBA.out.mono HI.out.2.size)
              exact hb2.grown HG10.out hb2.size (fun k hk => (World.ownsRow.lt HI.out.1 k hk).1)
          case measure =>
            obtain ⟨a', c', rfl, _, _, _⟩ := owns_form HO10.out
            simp only [lenS]
            omega
        · have hgt : ¬ known k + 1 + (j : Int) ≤ has k := by omega
          have HJ := hid (show j = m by omega)
          clear hm hj
          go_wp2_with fail
          refine ⟨⟨k + 1, by omega, by go_num, ?_, HI.out.2⟩, by simp [intOf]; omega⟩
          have := HI.out.1
          rw [← HFN.out HJ.out]
          exact this
    · have hke : k = N := by omega
      have HX := hid (And.intro hown (And.intro hbel hke)); clear hown hbel hke
      go_wp2_with fail
      go_ret
      obtain ⟨h1, h2, rfl⟩ := HX.out
      exact ⟨_, rfl, h1, h2⟩

end Go.Proofs.YtnkpogjiiohapaaGreatDoor

/-! GChunkA: slices.Index, slices.Contains at places. -/
namespace Go.Proofs.YtnkpogjiiohapaaGreatDoor
open Go.RowKit
attribute [local go_sem ↓] Go.wp_at_zero Go.wp_at_succ

/-- Places that lie somewhere. -/
def PlsAt (w : World) (g off : Nat) (l : List PId) : Prop := ∀ k (hk : k < l.length), w.cell? ⟨g, off + k * 2, none⟩ = some (.int .i64 l[k].1) ∧ w.cell? ⟨g, off + k * 2 + 1, none⟩ = some (.int .i64 l[k].2)
theorem PlsAt.keep {w w' : World} {g off : Nat} {l : List PId} (h : PlsAt w g off l) (hb : Below w.heap.size w w') : PlsAt w' g off l := fun k hk => ⟨Go.Proofs.YtnkpogjiiohapaaGreatDoor.keep hb (h k hk).1, Go.Proofs.YtnkpogjiiohapaaGreatDoor.keep hb (h k hk).2⟩

set_option maxRecDepth 1000000 in
set_option maxHeartbeats 4000000 in
theorem indexPl_q {w : World} {g off cap : Nat} {l : List PId} (h : PlsAt w g off l) (x : PId) (hl : l.length ≤ 1000) (hoff : off ≤ 100000) (hcap : l.length ≤ cap) (hcap2 : cap ≤ 100000) :
    Calls Tryz.prog 284 #[.slice (some ⟨g, off, none⟩) l.length cap, idV x] w fun e w' => ∃ i : Int, e = .returned (.int .i64 i) ∧ decide (0 ≤ i) = decide (x ∈ l) ∧ Below w.heap.size w w' := by
  unfold idV
  have HH := hid h; clear h
  have HB0 := hid ((Below.refl w.heap.size w).alloc (Nat.le_refl _) (.cells #[.int .i64 x.1, .int .i64 x.2] 371))
  obtain ⟨b0, b1⟩ := blk2 (blk_new w (.cells #[.int .i64 x.1, .int .i64 x.2] 371))
  have HBX := hid (And.intro b0 b1); clear b0 b1
  go_enter Tryz.func284, Tryz.ntmps284
  go_wp2_with fail
  go_loopw [8] (fun i wr => ∃ k, k ≤ l.length ∧ i = .int .i64 (k : Nat) ∧ x ∉ l.take k ∧ Below w.heap.size w wr ∧ wr.cell? ⟨w.heap.size, 0, none⟩ = some (.int .i64 x.1) ∧ wr.cell? ⟨w.heap.size, 1, none⟩ = some (.int .i64 x.2)) (fun i _ => l.length - (intOf i).toNat)
  case atStart => exact ⟨0, Nat.zero_le _, rfl, by simp, HB0.out, HBX.out.1, HBX.out.2⟩
  case round =>
    obtain ⟨k, hkl, rfl, hnot, hbel, b0, b1⟩ := hrel
    by_cases hlt : k < l.length
    · obtain ⟨e0, e1⟩ := HH.out.keep hbel k hlt
      have hk0 : (0 : Int) ≤ (k : Int) := Int.natCast_nonneg _
      have hk1 : (k : Int) < (l.length : Int) := by omega
      have HSN := hid (List.take_succ_eq_append_getElem hlt)
      obtain ⟨y, hye⟩ : ∃ y, y = l[k] := ⟨_, rfl⟩
      rw [← hye] at e0 e1 HSN
      have HM := hid (show y ∈ l from hye ▸ List.getElem_mem hlt)
      have HN := hid hnot; clear hnot hye
      have HBEL := hid hbel; clear hbel
      by_cases hxy : x = y
      · subst hxy
        go_wp2_with fail
        go_region
        go_wp2_with fail
        go_ret
        exact ⟨k, rfl, by rw [decide_eq_true HM.out, decide_eq_true (Int.natCast_nonneg _)], HBEL.out.drew⟩
      · have HNX := hid (show x ∉ l.take (k + 1) by
          rw [HSN.out, List.mem_append]
          rintro (h | h)
          · exact HN.out h
          · exact hxy (List.mem_singleton.1 h))
        by_cases h1 : x.1 = y.1
        · have h2 : ¬ x.2 = y.2 := fun h2 => hxy (Prod.ext h1 h2)
          rw [← h1] at e0
          clear h1 hxy
          go_wp2_with fail
          go_region
          go_wp2_with fail
          exact ⟨⟨k + 1, by omega, by go_num, HNX.out, HBEL.out.drew, b0, b1⟩, by simp [intOf]; omega⟩
        · clear hxy
          go_wp2_with fail
          go_region
          go_wp2_with fail
          exact ⟨⟨k + 1, by omega, by go_num, HNX.out, HBEL.out.drew, b0, b1⟩, by simp [intOf]; omega⟩
    · have HN := hid hnot; clear hnot
      have HBEL := hid hbel; clear hbel
      go_wp2_with fail
      go_ret
      refine ⟨-1, rfl, ?_, HBEL.out⟩
      have := HN.out
      rw [List.take_of_length_le (by omega)] at this
      rw [decide_eq_false this]
      decide

set_option maxRecDepth 1000000 in
set_option maxHeartbeats 1000000 in
theorem containsPl_q {w : World} {g off cap : Nat} {l : List PId} (h : PlsAt w g off l) (x1 x2 : Int) (hl : l.length ≤ 1000) (hoff : off ≤ 100000) (hcap : l.length ≤ cap) (hcap2 : cap ≤ 100000) :
    Calls Tryz.prog 279 #[.slice (some ⟨g, off, none⟩) l.length cap, .agg #[.int .i64 x1, .int .i64 x2]] w fun e w' => e = .returned (.bool (decide ((x1, x2) ∈ l))) ∧ Below w.heap.size w w' := by
  have HB0 := hid ((Below.refl w.heap.size w).alloc (Nat.le_refl _) (.cells #[.int .i64 x1, .int .i64 x2] 371))
  have HI := hid (indexPl_q (h.keep HB0.out) (x1, x2) hl hoff hcap hcap2)
  clear h
  unfold idV at HI
  go_enter Tryz.func279, Tryz.ntmps279
  go_wp2_with fail
  refine HI.out.mono ?_
  rintro e w1 ⟨i, rfl, hi, hb1⟩
  have HX := hid (And.intro hi hb1); clear hi hb1
  go_wp2
  go_ret
  rw [← HX.out.1]
  exact ⟨rfl, HB0.out.trans (HX.out.2.mono HB0.out.size)⟩

end Go.Proofs.YtnkpogjiiohapaaGreatDoor

/-! GChunkB: slices.Chunk at places: the iterator. -/
namespace Go.Proofs.YtnkpogjiiohapaaGreatDoor
open Go.RowKit
attribute [local go_sem] Oper.semAt_some

/-- Some blocks stay as they are. -/
def KpC (S : Nat → Prop) (W W' : World) : Prop := ∀ k, S k → W'.heap[k]? = W.heap[k]?
theorem KpC.trans {S : Nat → Prop} {A B C : World} (h : KpC S A B) (k : KpC S B C) : KpC S A C := fun i hi => (k i hi).trans (h i hi)
theorem KpC.cell {S : Nat → Prop} {A B : World} (h : KpC S A B) {g i : Nat} (hg : S g) {v : Value} (hc : A.cell? ⟨g, i, none⟩ = some v) : B.cell? ⟨g, i, none⟩ = some v := by
  unfold World.cell? at hc ⊢
  simp only at hc ⊢
  rw [h g hg]
  exact hc

def chunks (len : Nat) : Nat := (len + 7) / 8
def chunkLen (len m : Nat) : Nat := min 8 (len - m)
def chunkV (g len m : Nat) : Value := .slice (some ⟨g, m * 2, none⟩) (chunkLen len m) (chunkLen len m)
abbrev ChunkOf (len : Nat) := { k : Nat // k < chunks len }

set_option maxRecDepth 100000 in
set_option maxHeartbeats 2000000 in
theorem chunk1_in (F : Fence) (n : Nat) (h6 : F.fn 283) (hro : F.round = none) (hn : 1 ≤ n) (l Bs Bn g len cap : Nat) (hlen : len ≤ 1000) (hcap : len ≤ cap) (hcap2 : cap ≤ maxLen) (a : Option Addr) (ha : 0 < len → a = some ⟨g, 0, none⟩) (S : Nat → Prop) (hS : S Bs) (hSn : S Bn) (J Jx : List (ChunkOf len) → World → Prop)
    (hY : ∀ pre x W, J pre W → pre.length < chunks len → YieldAt F (n - 1) Tryz.prog l #[chunkV g len (8 * x.1)] W fun e W' =>
      (e = .returned (.bool true) ∧ J (pre ++ [x]) W' ∧ KpC S W W') ∨ (e = .returned (.bool false) ∧ Jx (pre ++ [x]) W'))
    (W : World) (hJ : AbidesFrom W.heap.size J) (hBs : W.cell? ⟨Bs, 0, none⟩ = some (.slice a len cap)) (hBn : W.cell? ⟨Bn, 0, none⟩ = some (.int .i64 8)) (h0 : J [] W) :
    CallsIn F n Tryz.prog 283 #[.func (.yield l) #[] #[], .pointer (some ⟨Bs, 0, none⟩), .pointer (some ⟨Bn, 0, none⟩)] W fun e W' => (∃ v, e = .returned v) ∧
      ((∃ ys : List (ChunkOf len), ys.map (·.1) = List.range (chunks len) ∧ J ys W') ∨ (∃ pre : List (ChunkOf len), (∃ k, k ≤ chunks len ∧ pre.map (·.1) = List.range k) ∧ Jx pre W')) := by
  refine callsIn_of_wp Tryz.func283 rfl h6 ?_ hro
  simp only [Tryz.ntmps283, List.size_toArray, List.length_cons, List.length_nil, Nat.reduceAdd, Nat.reduceSub, Array.replicate_succ, Array.replicate_zero, List.push_toArray, List.append_toArray, List.nil_append, List.cons_append]
  gi_wp2
  gi_loopw [4] (fun i wr => ∃ (m k : Nat) (pre : List (ChunkOf len)), Hid (m = 8 * k) ∧ k ≤ chunks len ∧ i = .int .i64 (m : Int) ∧ pre.map (·.1) = List.range k ∧ J pre wr ∧ KpC S W wr)
    (fun i _ => len + 8 - (intOf i).toNat)
  case atStart => exact ⟨0, 0, [], hid rfl, Nat.zero_le _, rfl, rfl, h0, fun _ _ => rfl⟩
  case round =>
    obtain ⟨m, k, pre, HM, hk, rfl, hpre, hJs, hnx⟩ := hrel
    have c1 := hnx.cell hS hBs
    have c2 := hnx.cell hSn hBn
    have hpl : pre.length = k := by have := congrArg List.length hpre; simpa using this
    by_cases hlt : k < chunks len
    · have hJd : J pre wr.drew := hJ pre wr _ none hJs ⟨rfl, rfl, rfl, Nat.le_refl _, fun _ _ _ => rfl⟩ (fun r e => by cases e)
      obtain ⟨fn, tmps, assign, body, hy, hR⟩ := hY pre ⟨k, hlt⟩ wr.drew hJd (by omega)
      have hml : m < len := by have := HM.out; unfold chunks at hlt; omega
      obtain rfl := ha (by omega)
      rw [← HM.out] at hy
      have hy' := hy
      unfold chunkV at hy'
      obtain ⟨cl, hcl⟩ : ∃ cl, cl = chunkLen len m := ⟨_, rfl⟩
      rw [← hcl] at hy'
      have hcl0 : cl ≤ 8 := by rw [hcl]; unfold chunkLen; omega
      have hcl1 : m + cl ≤ len := by rw [hcl]; unfold chunkLen; omega
      have hq0 : (0 : Int) ≤ (m : Int) := Int.natCast_nonneg _
      have hq1 : (m : Int) < (len : Int) := by omega
      have hcle : min (8 : Int) ((len - m : Nat) : Int) = (cl : Int) := by rw [hcl]; unfold chunkLen; omega
      have hto : ((m : Int) + (cl : Int)).toNat - m = cl := by omega
      clear hy
      have HCL := hid hcl; clear hcl
      gi_wp2
      gi_region
      all_goals gi_wp2
      all_goals refine hR.mono ?_
      all_goals clear hR hJd hy'
      all_goals
        rintro e W3 (⟨rfl, hJ3, hk3⟩ | ⟨rfl, hJx3⟩)
        · replace c2 := hk3.cell hSn (show wr.drew.cell? _ = _ from c2)
          have HX := hid (And.intro hJ3 (And.intro hk3 (And.intro hnx hpre)))
          clear hJ3 hk3 hnx hpre c1
          gi_wp2
          go_roundw
          case rel => exact ⟨m + 8, k + 1, pre ++ [⟨k, hlt⟩], hid (by have := HM.out; omega), hlt, by go_num, by rw [List.map_append, HX.out.2.2.2, List.range_succ]; rfl, HX.out.1, HX.out.2.2.1.trans HX.out.2.1⟩
          case measure => simp [intOf]; omega
        · have HX := hid (And.intro hJx3 hpre)
          clear hJx3 hpre c1 c2
          gi_wp2
          refine bodyPost_ret (results_none rfl _ _ _) rfl ?_
          exact ⟨⟨_, rfl⟩, .inr ⟨_, ⟨k + 1, hlt, by rw [List.map_append, HX.out.2, List.range_succ]; rfl⟩, HX.out.1⟩⟩
    · have hge : ¬ (m : Int) < (len : Int) := by have := HM.out; unfold chunks at hlt; omega
      have hkm : k = chunks len := by omega
      have HX := hid (And.intro hpre (And.intro hJs hkm)); clear hpre hJs hkm
      gi_wp2
      go_end0
      obtain ⟨h1, h2, h3⟩ := HX.out
      exact ⟨⟨_, rfl⟩, .inl ⟨pre, h1.trans (congrArg List.range h3), h2⟩⟩

set_option maxRecDepth 100000 in
set_option maxHeartbeats 1000000 in
theorem chunk_in (F : Fence) (n : Nat) (h5 : F.fn 277) (hro : F.round = none) (a : Option Addr) (len cap : Nat) (w : World) :
    CallsIn F n Tryz.prog 277 #[.slice a len cap, .int .i64 8] w fun e w' => e = .returned (.func (.func 283) #[] #[.pointer (some ⟨w.heap.size, 0, none⟩), .pointer (some ⟨w.heap.size + 1, 0, none⟩)]) ∧ w' = (w.alloc (.cells #[.slice a len cap] 378)).alloc (.cells #[.int .i64 8] 3) := by
  refine callsIn_of_wp Tryz.func277 rfl h5 ?_ hro
  simp only [Tryz.ntmps277, List.size_toArray, List.length_cons, List.length_nil, Nat.reduceAdd, Nat.reduceSub, Array.replicate_succ, Array.replicate_zero, List.push_toArray, List.append_toArray, List.nil_append, List.cons_append]
  gi_wp2
  go_ret
  exact ⟨rfl, rfl⟩

/-- CHUNKS: each in its turn. -/
theorem chunk_stops (F : Fence) (n : Nat) (h6 : F.fn 283) (hro : F.round = none) (hn : 1 ≤ n) (Bs Bn g len cap : Nat) (hlen : len ≤ 1000) (hcap : len ≤ cap) (hcap2 : cap ≤ maxLen) (a : Option Addr) (ha : 0 < len → a = some ⟨g, 0, none⟩) (S : Nat → Prop) (hS : S Bs) (hSn : S Bn) (w : World) (hBs : w.cell? ⟨Bs, 0, none⟩ = some (.slice a len cap)) (hBn : w.cell? ⟨Bn, 0, none⟩ = some (.int .i64 8)) :
    SeqStopsK F n Tryz.prog 283 #[.pointer (some ⟨Bs, 0, none⟩), .pointer (some ⟨Bn, 0, none⟩)] (fun x : ChunkOf len => #[chunkV g len (8 * x.1)]) (KpC S) (fun ys => ys.map (·.1) = List.range (chunks len)) (fun pre => ∃ k, k ≤ chunks len ∧ pre.map (·.1) = List.range k) (chunks len) w := fun l J Jx W hW hJ _ hY h0 =>
  chunk1_in F n h6 hro hn l Bs Bn g len cap hlen hcap hcap2 a ha S hS hSn J Jx hY W hJ (Go.Proofs.YtnkpogjiiohapaaGreatDoor.keep hW hBs) (Go.Proofs.YtnkpogjiiohapaaGreatDoor.keep hW hBn) h0

end Go.Proofs.YtnkpogjiiohapaaGreatDoor
