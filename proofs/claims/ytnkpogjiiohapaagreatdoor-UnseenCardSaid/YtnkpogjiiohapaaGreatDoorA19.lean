/- Our own text (GRepA, GRepW). -/
import Derived.Test.YtnkpogjiiohapaaGreatDoorA18
set_option linter.unusedSimpArgs false
set_option linter.unusedVariables false

/-! GRepA: One copy of the program's room in memory, in general; have. -/
namespace Go.Proofs.YtnkpogjiiohapaaGreatDoor
open Go.RowKit
attribute [local go_sem ↓] Go.wp_at_zero Go.wp_at_succ

def gRow (N : Nat) (has : Nat → Int) : Array Value := ((List.range N).map fun i => Value.int .i64 (has i)).toArray
theorem gRow_get {N : Nat} {has : Nat → Int} {c : Nat} (h : c < N) : (gRow N has)[c]? = some (.int .i64 (has c)) := by
  simp [gRow, h]
theorem gRow_set {N : Nat} {has : Nat → Int} {c : Nat} (m : Int) : (gRow N has).setIfInBounds c (.int .i64 m) = gRow N (upd has c m) := by
  apply Array.ext_getElem?
  intro i
  rw [Array.getElem?_setIfInBounds]
  by_cases hic : c = i
  · subst hic
    by_cases hl : c < N
    · simp [gRow, hl, upd]
    · simp [gRow, hl]
  · rw [if_neg hic]
    by_cases hl : i < N
    · simp [gRow, hl, upd, Ne.symm hic]
    · simp [gRow, hl]
def mopV (o : MOp) : Value := .agg #[.int .i64 o.op.id.1, .int .i64 o.op.id.2, .int .i64 o.op.nth, .iface o.t o.v]
def rowV (N : Nat) (g : Nat) : Value := .slice (some ⟨g, 0, none⟩) N N

/-- What a copy is made of. -/
structure RQ where
  gh : Nat
  hb : Nat
  bE : Nat
  bN : Nat
  su : Nat
  d : Nat
  bo : Nat
  be : Nat
  vo : Value
  vr : Value
  rs : List RDoc
  D0 : BDoc
  D : QDoc
  ns : List (Int × Nat)
  nv : Nat → List Int
  FH : Nat → Prop

/-- The parts that a history's turn leaves. -/
def sameQ (q q' : RQ) : Prop := q'.D0 = q.D0 ∧ q'.ns = q.ns ∧ q'.nv = q.nv

/-- A COPY: c its number, gt the greatest counter, has how many of each it has; ops its history's operations. -/
structure RepM (w : World) (rb : Nat) (F I : Nat → Prop) (N sp c : Nat) (gt : Int) (has : Nat → Int) (ops : List MOp) (early : List (PId × MOp)) (q : RQ) : Prop where
  blk : w.heap[rb]? = some (.cells #[.int .i64 c, .int .i64 gt, .slice (some ⟨q.gh, 0, none⟩) N N, .pointer (some ⟨q.hb, 0, none⟩), .map (some q.bE), .map (some q.bN)] 109 (0, 0))
  heard : w.heap[q.gh]? = some (.cells (gRow N has) 3 (0, 0))
  hist : HistG w q.hb sp q.su q.vo q.vr ops ops.length q.rs q.d q.bo q.be q.FH I q.D0 q.D
  cnt : q.rs.length = (q.su + ops.length) / sp + 1
  asc : AscO ops
  emap : ∃ es clk, isMap idV mopV w q.bE early es clk
  echg : ∀ p ∈ early, isChgI w I (.iface p.2.t p.2.v) p.2.op.chg
  newest : ∃ es clk, isMap numV (rowV N) w q.bN q.ns es clk
  nrow : ∀ p ∈ q.ns, ((q.nv p.2).length = N ∧ w.heap[p.2]? = some (.cells ((q.nv p.2).map fun x => Value.int .i64 x).toArray 3 (0, 0))) ∧ p.2 ≠ q.gh ∧ F p.2 ∧ ¬ q.FH p.2
  hc : c < N
  hN : N ≤ 4
  fr : F rb
  fg : F q.gh
  fE : F q.bE
  fN : F q.bN
  fH : ∀ k, q.FH k → F k
  nr : ¬ q.FH rb
  ng : ¬ q.FH q.gh
  nE : ¬ q.FH q.bE
  nN : ¬ q.FH q.bN
  nEN : q.bE ≠ q.bN
  lt : ∀ k, F k → k < w.heap.size
  nI : ∀ k, I k → ¬ F k

section
theorem RepM.keepF {w w' : World} {rb : Nat} {F I : Nat → Prop} {N sp c : Nat} {gt : Int} {has : Nat → Int} {ops : List MOp} {early : List (PId × MOp)} {q : RQ} (h : RepM w rb F I N sp c gt has ops early q) (hs : w.heap.size ≤ w'.heap.size) (hk : ∀ k, F k → w'.heap[k]? = w.heap[k]?) (hi : ∀ k, I k → w'.heap[k]? = w.heap[k]?) : RepM w' rb F I N sp c gt has ops early q := by
  obtain ⟨es, clk, he⟩ := h.emap
  obtain ⟨es2, clk2, hn⟩ := h.newest
  refine ⟨by rw [hk _ h.fr]; exact h.blk, by rw [hk _ h.fg]; exact h.heard, h.hist.keepF hs (fun k hF => hk k (h.fH k hF)) hi, h.cnt, h.asc, ⟨es, clk, he.blockK (hk _ h.fE)⟩, fun p hp => (h.echg p hp).keepI hi (fun _ x => x), ⟨es2, clk2, hn.blockK (hk _ h.fN)⟩, fun p hp => ?_, h.hc, h.hN, h.fr, h.fg, h.fE, h.fN, h.fH, h.nr, h.ng, h.nE, h.nN, h.nEN, fun k hF => Nat.lt_of_lt_of_le (h.lt k hF) hs, h.nI⟩
  obtain ⟨⟨h1, h2⟩, h3, h4, h5⟩ := h.nrow p hp
  exact ⟨⟨h1, by rw [hk _ h4]; exact h2⟩, h3, h4, h5⟩
theorem RepM.keep {w w' : World} {rb : Nat} {F I : Nat → Prop} {N sp c : Nat} {gt : Int} {has : Nat → Int} {ops : List MOp} {early : List (PId × MOp)} {q : RQ} (h : RepM w rb F I N sp c gt has ops early q) (hb' : Below w.heap.size w w') : RepM w' rb F I N sp c gt has ops early q := h.keepF hb'.size (fun k hk => hb'.block k (h.lt k hk)) (fun k hk => hb'.block k (h.hist.iI k hk))
theorem RepM.cells {w : World} {rb : Nat} {F I : Nat → Prop} {N sp c : Nat} {gt : Int} {has : Nat → Int} {ops : List MOp} {early : List (PId × MOp)} {q : RQ} (h : RepM w rb F I N sp c gt has ops early q) : w.cell? ⟨rb, 0, none⟩ = some (.int .i64 c) ∧ w.cell? ⟨rb, 1, none⟩ = some (.int .i64 gt) ∧ w.cell? ⟨rb, 2, none⟩ = some (.slice (some ⟨q.gh, 0, none⟩) N N) ∧ w.cell? ⟨rb, 3, none⟩ = some (.pointer (some ⟨q.hb, 0, none⟩)) ∧ w.cell? ⟨rb, 4, none⟩ = some (.map (some q.bE)) ∧ w.cell? ⟨rb, 5, none⟩ = some (.map (some q.bN)) := by
  refine ⟨?_, ?_, ?_, ?_, ?_, ?_⟩ <;> simp [World.cell?, h.blk]
theorem RepM.heardAt {w : World} {rb : Nat} {F I : Nat → Prop} {N sp c : Nat} {gt : Int} {has : Nat → Int} {ops : List MOp} {early : List (PId × MOp)} {q : RQ} (h : RepM w rb F I N sp c gt has ops early q) {i : Nat} (hi : i < N) : w.cell? ⟨q.gh, i, none⟩ = some (.int .i64 (has i)) := by
  have := gRow_get (has := has) hi
  simp [World.cell?, h.heard, this]
theorem RepM.iI {w : World} {rb : Nat} {F I : Nat → Prop} {N sp c : Nat} {gt : Int} {has : Nat → Int} {ops : List MOp} {early : List (PId × MOp)} {q : RQ} (h : RepM w rb F I N sp c gt has ops early q) : ∀ k, I k → k < w.heap.size := h.hist.iI
theorem RepM.rg {w : World} {rb : Nat} {F I : Nat → Prop} {N sp c : Nat} {gt : Int} {has : Nat → Int} {ops : List MOp} {early : List (PId × MOp)} {q : RQ} (h : RepM w rb F I N sp c gt has ops early q) : rb ≠ q.gh := fun e => by
  have h1 := h.blk
  rw [e] at h1
  exact absurd (cells_type h1 h.heard) (by decide)
/-- Its number of each, and its greatest counter, are others. -/
theorem RepM.count {w w' : World} {rb : Nat} {F I : Nat → Prop} {N sp c : Nat} {gt : Int} {has : Nat → Int} {ops : List MOp} {early : List (PId × MOp)} {q : RQ} (h : RepM w rb F I N sp c gt has ops early q) {gt' : Int} {has' : Nat → Int} (ht : Turned (fun k => k = rb ∨ k = q.gh) w w') (h1 : w'.heap[rb]? = some (.cells #[.int .i64 c, .int .i64 gt', .slice (some ⟨q.gh, 0, none⟩) N N, .pointer (some ⟨q.hb, 0, none⟩), .map (some q.bE), .map (some q.bN)] 109 (0, 0))) (h2 : w'.heap[q.gh]? = some (.cells (gRow N has') 3 (0, 0))) : RepM w' rb F I N sp c gt' has' ops early q := by
  have hk : ∀ k, F k → k ≠ rb → k ≠ q.gh → w'.heap[k]? = w.heap[k]? := fun k hF n1 n2 => ht.other k (h.lt k hF) fun hS => hS.elim n1 n2
  have hi : ∀ k, I k → w'.heap[k]? = w.heap[k]? := fun k hI => ht.other k (h.iI k hI) fun hS => by
    rcases hS with rfl | rfl
    · exact h.nI _ hI h.fr
    · exact h.nI _ hI h.fg
  obtain ⟨es, clk, he⟩ := h.emap
  obtain ⟨es2, clk2, hn⟩ := h.newest
  have hmap : ∀ (b : Nat) (es : Array MapEntry) (clk : Nat), w.heap[b]? = some (.map es clk) → b ≠ rb ∧ b ≠ q.gh := fun b es clk hb => by
    constructor
    · rintro rfl; rw [h.blk] at hb; cases hb
    · rintro rfl; rw [h.heard] at hb; cases hb
  refine ⟨h1, h2, h.hist.keepF ht.size (fun k hF => hk k (h.fH k hF) (fun e => h.nr (e ▸ hF)) (fun e => h.ng (e ▸ hF))) hi, h.cnt, h.asc, ⟨es, clk, he.blockK (hk _ h.fE (hmap _ _ _ he.blk).1 (hmap _ _ _ he.blk).2)⟩, fun p hp => (h.echg p hp).keepI hi (fun _ x => x), ⟨es2, clk2, hn.blockK (hk _ h.fN (hmap _ _ _ hn.blk).1 (hmap _ _ _ hn.blk).2)⟩, fun p hp => ?_, h.hc, h.hN, h.fr, h.fg, h.fE, h.fN, h.fH, h.nr, h.ng, h.nE, h.nN, h.nEN, fun k hF => Nat.lt_of_lt_of_le (h.lt k hF) ht.size, h.nI⟩
  obtain ⟨⟨h3, h4⟩, h5, h6, h7⟩ := h.nrow p hp
  refine ⟨⟨h3, ?_⟩, h5, h6, h7⟩
  rw [hk _ h6 (fun e => ?_) h5]
  · exact h4
  · rw [e] at h4
    exact absurd (cells_type h4 h.blk) (by decide)
/-- Its history is another. -/
theorem RepM.histTo {w w' : World} {rb : Nat} {F I : Nat → Prop} {N sp c : Nat} {gt : Int} {has : Nat → Int} {ops : List MOp} {early : List (PId × MOp)} {q : RQ} (h : RepM w rb F I N sp c gt has ops early q) {ops' : List MOp} {su' d' bo' be' : Nat} {vo' vr' : Value} {rs' : List RDoc} {D0' : BDoc} {D' : QDoc} {FH' : Nat → Prop} (hK : Keeps q.FH FH' w w') (hG : HistG w' q.hb sp su' vo' vr' ops' ops'.length rs' d' bo' be' FH' I D0' D') (hcnt : rs'.length = (su' + ops'.length) / sp + 1) (ha : AscO ops') :
    ∃ F', RepM w' rb F' I N sp c gt has ops' early { q with su := su', d := d', bo := bo', be := be', vo := vo', vr := vr', rs := rs', D0 := D0', D := D', FH := FH' } ∧ Keeps F F' w w' := by
  have hk : ∀ k, F k → ¬ q.FH k → w'.heap[k]? = w.heap[k]? := fun k hF hn => hK.other k (h.lt k hF) hn
  have hi : ∀ k, I k → w'.heap[k]? = w.heap[k]? := fun k hI => hK.other k (h.iI k hI) (h.hist.nI k hI)
  have hn' : ∀ k, F k → ¬ q.FH k → ¬ FH' k := fun k hF hn hF' => (hK.sub k hF').elim hn fun x => by have := h.lt k hF; omega
  obtain ⟨es, clk, he⟩ := h.emap
  obtain ⟨es2, clk2, hn⟩ := h.newest
  refine ⟨fun k => F k ∨ (w.heap.size ≤ k ∧ k < w'.heap.size), ⟨by rw [hk _ h.fr h.nr]; exact h.blk, by rw [hk _ h.fg h.ng]; exact h.heard, hG, hcnt, ha, ⟨es, clk, he.blockK (hk _ h.fE h.nE)⟩, fun p hp => (h.echg p hp).keepI hi (fun _ x => x), ⟨es2, clk2, hn.blockK (hk _ h.fN h.nN)⟩, fun p hp => ?_, h.hc, h.hN, .inl h.fr, .inl h.fg, .inl h.fE, .inl h.fN, fun k hF => ?_, hn' _ h.fr h.nr, hn' _ h.fg h.ng, hn' _ h.fE h.nE, hn' _ h.fN h.nN, h.nEN, fun k hF => hF.elim (fun x => Nat.lt_of_lt_of_le (h.lt k x) hK.size) (fun x => x.2), fun k hI hF => hF.elim (h.nI k hI) (fun x => by have := h.iI k hI; omega)⟩, ⟨hK.os, hK.tape, hK.output, hK.size, fun k hk' hF => hK.other k hk' fun x => hF (h.fH k x), fun k hF => hF.imp id (·.1)⟩⟩
  · obtain ⟨⟨h3, h4⟩, h5, h6, h7⟩ := h.nrow p hp
    exact ⟨⟨h3, by rw [hk _ h6 h7]; exact h4⟩, h5, .inl h6, hn' _ h6 h7⟩
  · exact (hK.sub k hF).imp (h.fH k) fun x => ⟨x, hG.lt k hF⟩
end

def gtAll (gt : Int) (xs : List MOp) : Int := xs.foldl (fun g x => max g x.op.id.1) gt
def hasAll (has : Nat → Int) (xs : List MOp) : Nat → Int := xs.foldl (fun h x => upd h x.op.id.2.toNat x.op.nth) has
theorem gtAll_snoc {gt : Int} {xs : List MOp} {k : Nat} (hk : k < xs.length) : gtAll gt (xs.take (k + 1)) = max (gtAll gt (xs.take k)) xs[k].op.id.1 := by
  rw [List.take_succ_eq_append_getElem hk]
  unfold gtAll
  rw [List.foldl_append]
  rfl
theorem hasAll_snoc {has : Nat → Int} {xs : List MOp} {k : Nat} (hk : k < xs.length) : hasAll has (xs.take (k + 1)) = upd (hasAll has (xs.take k)) xs[k].op.id.2.toNat xs[k].op.nth := by
  rw [List.take_succ_eq_append_getElem hk]
  unfold hasAll
  rw [List.foldl_append]
  rfl

set_option maxRecDepth 1000000 in
set_option maxHeartbeats 4000000 in
/-- HAVE: the operations that have come. -/
theorem have_any {w : World} {rb : Nat} {F I : Nat → Prop} {N sp c : Nat} {gt : Int} {has : Nat → Int} {ops : List MOp} {early : List (PId × MOp)} {q : RQ} (h : RepM w rb F I N sp c gt has ops early q) (xs : List MOp) (hnd : ((xs ++ ops).map fun o => o.op.id).Nodup) (hlen : ops.length + xs.length ≤ 300) (hcp : ∀ x ∈ xs, 0 ≤ x.op.id.2 ∧ x.op.id.2 < N) (v : Value) (hv : ownMOps 0 w v xs) (hvF : ∀ k, v.ownBlock = some k → ¬ F k) (hc : ∀ x ∈ xs, isChgI w I (.iface x.t x.v) x.op.chg) :
    Calls Tryz.prog 142 #[.pointer (some ⟨rb, 0, none⟩), v] w fun e w' => (∃ r, e = .returned r) ∧ ∃ F' q', RepM w' rb F' I N sp c (gtAll gt xs) (hasAll has xs) (insAll ops xs) early q' ∧ sameQ q q' ∧ Keeps F F' w w' := by
  obtain ⟨av, cv, rfl, hlv, hcv, hfv⟩ := owns_form hv
  unfold maxLen at hcv
  have hN4 := h.hN
  have HH := hid h; clear h
  have HV := hid (And.intro hv (And.intro hvF (And.intro hc (And.intro hnd hcp)))); clear hv hvF hc hnd hcp
  have HFV := hid hfv; clear hfv
  go_enter Tryz.func142, Tryz.ntmps142
  go_wp2_with fail
  go_loopw [8] (fun i wr => ∃ k, k ≤ xs.length ∧ i = .int .i64 (k : Nat) ∧ RepM wr rb F I N sp c (gtAll gt (xs.take k)) (hasAll has (xs.take k)) ops early q ∧ Turned (fun k => k = rb ∨ k = q.gh) w wr) (fun i _ => xs.length - (intOf i).toNat)
  case atStart => exact ⟨0, Nat.zero_le _, rfl, HH.out, Turned.of_below (Below.refl _ _)⟩
  case round =>
    obtain ⟨k, hk, rfl, hM, hT⟩ := hrel
    have HM := hid (And.intro hM hT); clear hM hT
    have HVW := hid (show ownMOps 0 wr (.slice av xs.length cv) xs from row_blk HV.out.1 fun g hg => by
      obtain ⟨cur, hc⟩ := own_type HV.out.1 hg
      exact HM.out.2.other g (blk_lt hc) fun hS => by
        rcases hS with rfl | rfl
        · exact HV.out.2.1 _ hg HH.out.fr
        · exact HV.out.2.1 _ hg HH.out.fg)
    by_cases hlt : k < xs.length
    · obtain ⟨g, rfl⟩ := HFV.out 0 (by omega)
      obtain ⟨e0, e1, e2, e3⟩ := ownMOps.cells HVW.out k hlt
      have hk0 : (0 : Int) ≤ (k : Int) := Int.natCast_nonneg _
      have hk1 : (k : Int) < (xs.length : Int) := by omega
      obtain ⟨hp0, hp1⟩ := HV.out.2.2.2.2 xs[k] (List.getElem_mem hlt)
      obtain ⟨x, hxe⟩ : ∃ x, x = xs[k] := ⟨_, rfl⟩
      rw [← hxe] at e0 e1 e2 e3 hp0 hp1
      obtain ⟨cp, hcp⟩ : ∃ cp : Nat, x.op.id.2 = (cp : Int) := ⟨x.op.id.2.toNat, by omega⟩
      have hcpN : cp < N := by omega
      obtain ⟨c0, c1, c2, c3, c4, c5⟩ := HM.out.1.cells
      clear c0 c3 c4 c5
      have c6 := HM.out.1.heardAt hcpN
      obtain ⟨gk, hgk⟩ : ∃ gk, gk = gtAll gt (xs.take k) := ⟨_, rfl⟩
      obtain ⟨hs, hhs⟩ : ∃ hs, hs = hasAll has (xs.take k) := ⟨_, rfl⟩
      have hG1 : gtAll gt (xs.take (k + 1)) = max gk x.op.id.1 := by rw [gtAll_snoc hlt, hgk, hxe]
      have hH1 : hasAll has (xs.take (k + 1)) = upd hs cp x.op.nth := by rw [hasAll_snoc hlt, hhs, ← hxe, hcp]; rfl
      rw [← hgk] at c1 HM
      rw [← hhs] at c6 HM
      rw [hcp] at e1
      have HNX := hid (And.intro hG1 hH1); clear hG1 hH1
      clear hgk hhs hxe
      obtain ⟨gn, hgn⟩ : ∃ gn, gn = max gk x.op.id.1 := ⟨_, rfl⟩
      have hrl := HM.out.1.lt _ HM.out.1.fr
      have hgl := HM.out.1.lt _ HM.out.1.fg
      have hrg := HM.out.1.rg
      have hfz := blk_fz HM.out.1.blk 1
      have HX1 := hid (set6_1 (u := .int .i64 gn) HM.out.1.blk)
      obtain ⟨w1, hW1⟩ : ∃ w1, w1 = wr.setCell ⟨rb, 1, none⟩ (.int .i64 gn) := ⟨_, rfl⟩
      rw [← hW1] at HX1
      have hsz1 : w1.heap.size = wr.heap.size := by rw [hW1]; simp [World.setCell]
      have HT1 := hid (show Turned (fun k => k = rb) wr w1 by rw [hW1]; exact Turned.setC _ rfl)
      have hcp0 : (0 : Int) ≤ (cp : Int) := Int.natCast_nonneg _
      have hcp1 : (cp : Int) < (N : Int) := by omega
      have hwn : wr.heap.size ≠ rb := by omega
      have hwg : wr.heap.size ≠ q.gh := by omega
      go_wp2_with fail
      go_region
      go_wp2_with fail
      rw [← hgn, ← hW1]
      have HGN := hid hgn
      clear c1 hfz hgn hW1
      have d2 : w1.cell? ⟨rb, 2, none⟩ = some (.slice (some ⟨q.gh, 0, none⟩) N N) := by simp [World.cell?, HX1.out]
      have HG1 := hid ((HT1.out.other q.gh hgl (Ne.symm hrg)).trans HM.out.1.heard)
      have d4 := HT1.out.cell (Ne.symm hrg) c6
      have hfz3 := blk_fz HG1.out cp
      clear c2 c6 e0 e1 e2 e3
      obtain ⟨n0, n1, n2, n3⟩ := boxed4 w1 (.int .i64 x.op.id.1) (.int .i64 cp) (.int .i64 x.op.nth) (.iface x.t x.v) 210
      clear n0 n3
      rw [hsz1] at n1 n2
      obtain ⟨w2, hW2⟩ : ∃ w2, w1.setCell ⟨q.gh, cp, none⟩ (.int .i64 x.op.nth) = w2 := ⟨_, rfl⟩
      have hsz2 : w2.heap.size = wr.heap.size := by rw [← hW2, ← hsz1]; simp [World.setCell]
      have HT2 := hid (show Turned (fun k => k = q.gh) w1 w2 by rw [← hW2]; exact Turned.setC _ rfl)
      have f2 : w2.cell? ⟨rb, 2, none⟩ = some (.slice (some ⟨q.gh, 0, none⟩) N N) := HT2.out.cell hrg d2
      obtain ⟨n4, q1, q2, n5⟩ := boxed4 w2 (.int .i64 x.op.id.1) (.int .i64 cp) (.int .i64 x.op.nth) (.iface x.t x.v) 210
      clear n4 n5
      rw [hsz2] at q1 q2
      go_region_held3 (fun W => W.cell? ⟨rb, 2, none⟩ = some (.slice (some ⟨q.gh, 0, none⟩) N N) ∧ W.cell? ⟨wr.heap.size, 1, none⟩ = some (.int .i64 cp) ∧ W.cell? ⟨wr.heap.size, 2, none⟩ = some (.int .i64 x.op.nth)) (go_keep) (fail)
      go_wp2
      go_roundw
      case rel =>
        have HG2 := show w2.heap[q.gh]? = some (.cells (gRow N (upd hs cp x.op.nth)) 3 (0, 0)) by rw [← hW2, setRow HG1.out, gRow_set]
        have HX2 := (HT2.out.other rb (by omega) hrg).trans HX1.out
        have hbel : Below w2.heap.size w2 (w2.alloc (.cells #[.int .i64 x.op.id.1, .int .i64 cp, .int .i64 x.op.nth, .iface x.t x.v] 210)).drew.drew := ((Below.refl _ w2).alloc (Nat.le_refl _) _).drew.drew
        have ht2 : Turned (fun k => k = rb ∨ k = q.gh) wr w2 := (HT1.out.mono (S' := fun k => k = rb ∨ k = q.gh) fun k hk => .inl hk).trans (HT2.out.mono fun k hk => .inr hk)
        refine ⟨k + 1, by omega, by go_num, ?_, HM.out.2.trans (ht2.trans (Turned.of_below hbel))⟩
        rw [HNX.out.1, HNX.out.2, ← HGN.out]
        exact (HM.out.1.count ht2 HX2 HG2).keep hbel
      case measure => simp [intOf]; omega
    · have hke : k = xs.length := by omega
      subst hke
      rw [List.take_length] at HM
      obtain ⟨c0, c1, c2, c3, c4, c5⟩ := HM.out.1.cells
      clear c0 c1 c2 c4 c5
      have HA := hid (histAdd_any HM.out.1.hist HM.out.1.cnt HM.out.1.asc xs HV.out.2.2.2.1 hlen (.slice av xs.length cv) HVW.out (fun k hk hF => HV.out.2.1 k hk (HH.out.fH k hF)) (fun x hx => (HV.out.2.2.1 x hx).keepI (fun j hj => HM.out.2.other j (HH.out.iI j hj) fun hS => by
        rcases hS with rfl | rfl
        · exact HH.out.nI _ hj HH.out.fr
        · exact HH.out.nI _ hj HH.out.fg) (fun _ x => x)))
      go_wp2_with fail
      refine HA.out.mono ?_
      rintro e w3 ⟨⟨r, rfl⟩, vo', vr', rs', d', bo', be', FH', D', hG3, hl3, hK3⟩
      have HG3 := hid (And.intro hG3 (And.intro hl3 hK3)); clear hG3 hl3 hK3
      go_wp2
      go_end0
      obtain ⟨F', hM', hK'⟩ := HM.out.1.histTo HG3.out.2.2 HG3.out.1 HG3.out.2.1 (insAll_asc xs ops HM.out.1.asc HV.out.2.2.2.1)
      have hT := HM.out.2
      refine ⟨⟨_, rfl⟩, F', _, hM', ⟨rfl, rfl, rfl⟩, ?_⟩
      exact ⟨hK'.os.trans hT.os, hK'.tape.trans hT.tape, hK'.output.trans hT.output, Nat.le_trans hT.size hK'.size, fun k hk hF => (hK'.other k (Nat.lt_of_lt_of_le hk hT.size) hF).trans (hT.other k hk fun hS => by
        rcases hS with rfl | rfl
        · exact hF HH.out.fr
        · exact hF HH.out.fg), fun k hk => (hK'.sub k hk).imp id fun x => Nat.le_trans hT.size x⟩

end Go.Proofs.YtnkpogjiiohapaaGreatDoor

/-! GRepW: One copy of the program's room in general: more that stays; document, mayMake, write. -/
namespace Go.Proofs.YtnkpogjiiohapaaGreatDoor
open Go.RowKit
attribute [local go_sem ↓] Go.wp_at_zero Go.wp_at_succ

/-- More blocks stay as they are. -/
theorem HistG.moreI {w : World} {hb sp su : Nat} {vo vr : Value} {ops : List MOp} {n : Nat} {rs : List RDoc} {d bo be : Nat} {F I I' : Nat → Prop} {D0 : BDoc} {D : QDoc} (h : HistG w hb sp su vo vr ops n rs d bo be F I D0 D) (hI : ∀ k, I k → I' k) (h1 : ∀ k, I' k → k < w.heap.size) (h2 : ∀ k, I' k → ¬ F k) : HistG w hb sp su vo vr ops n rs d bo be F I' D0 D :=
  ⟨h.blk, h.row, fun o ho => (h.chg o ho).keepI (fun _ _ => rfl) hI, h.mem, h.sp1, h.sp2, h.su1, h.le, h.len, h.docs, h.does, h.q, h.own, h.nd, h.did, h.maps, h.fh, h.fo, h.fv, h.fr, h.fd, h.fbo, h.fbe, h.lt, h2, h1⟩
theorem RepM.moreI {w : World} {rb : Nat} {F I I' : Nat → Prop} {N sp c : Nat} {gt : Int} {has : Nat → Int} {ops : List MOp} {early : List (PId × MOp)} {q : RQ} (h : RepM w rb F I N sp c gt has ops early q) (hI : ∀ k, I k → I' k) (h1 : ∀ k, I' k → k < w.heap.size) (h2 : ∀ k, I' k → ¬ F k) : RepM w rb F I' N sp c gt has ops early q :=
  ⟨h.blk, h.heard, h.hist.moreI hI h1 fun k hk hF => h2 k hk (h.fH k hF), h.cnt, h.asc, h.emap, fun p hp => (h.echg p hp).keepI (fun _ _ => rfl) hI, h.newest, h.nrow, h.hc, h.hN, h.fr, h.fg, h.fE, h.fN, h.fH, h.nr, h.ng, h.nE, h.nN, h.nEN, h.lt, h2⟩
theorem RepM.set {w : World} {rb : Nat} {F I : Nat → Prop} {N sp c : Nat} {gt : Int} {has : Nat → Int} {ops : List MOp} {early : List (PId × MOp)} {q : RQ} (h : RepM w rb F I N sp c gt has ops early q) {g o : Nat} (u : Value) (hg : ¬ F g) (hi : ¬ I g) : RepM (w.setCell ⟨g, o, none⟩ u) rb F I N sp c gt has ops early q := by
  have ht : Turned (fun k => k = g) w (w.setCell ⟨g, o, none⟩ u) := Turned.setC _ rfl
  exact h.keepF ht.size (fun k hk => ht.other k (h.lt k hk) fun e => hg (e ▸ hk)) (fun k hk => ht.other k (h.iI k hk) fun e => hi (e ▸ hk))

set_option maxRecDepth 1000000 in
set_option maxHeartbeats 1000000 in
theorem document_any {w : World} {rb : Nat} {F I : Nat → Prop} {N sp c : Nat} {gt : Int} {has : Nat → Int} {ops : List MOp} {early : List (PId × MOp)} {q : RQ} (h : RepM w rb F I N sp c gt has ops early q) :
    Calls Tryz.prog 48 #[.pointer (some ⟨rb, 0, none⟩)] w fun e w' => e = .returned (.pointer (some ⟨q.d, 0, none⟩)) ∧ Below w.heap.size w w' := by
  obtain ⟨c0, c1, c2, c3, c4, c5⟩ := h.cells
  have HD := hid (histDoc_q (sp := sp) (su := q.su) (by have := h.hist.blk; unfold isHs at this; exact this))
  clear c0 c1 c2 c4 c5 h
  go_enter Tryz.func48, Tryz.ntmps48
  go_wp2_with fail
  refine HD.out.mono ?_
  rintro e w1 ⟨rfl, hb1⟩
  have HB := hid hb1; clear hb1
  go_wp2
  go_ret
  exact ⟨rfl, HB.out⟩

set_option maxRecDepth 1000000 in
set_option maxHeartbeats 2000000 in
theorem mayMake_any {w : World} {rb : Nat} {F I : Nat → Prop} {N sp c : Nat} {gt : Int} {has : Nat → Int} {ops : List MOp} {early : List (PId × MOp)} {q : RQ} (h : RepM w rb F I N sp c gt has ops early q) (k : Nat) (hk : k ≤ 10) :
    Calls Tryz.prog 60 #[.pointer (some ⟨rb, 0, none⟩), .int .i64 k] w fun e w' => e = .returned (.bool (decide (has c + k ≤ 60))) ∧ Below w.heap.size w w' := by
  obtain ⟨c0, c1, c2, c3, c4, c5⟩ := h.cells
  have c6 := h.heardAt h.hc
  have hc0 : (0 : Int) ≤ (c : Int) := Int.natCast_nonneg _
  have hc1 : (c : Int) < (N : Int) := by have := h.hc; omega
  have hcN := h.hc
  have hN4 := h.hN
  have hdec : decide (has c ≤ 60 - (k : Int)) = decide (has c + k ≤ 60) := by congr 1; apply propext; omega
  clear c1 c3 c4 c5 h
  go_enter Tryz.func60, Tryz.ntmps60
  go_wp2_with fail
  go_region_held3 (fun W => W.cell? ⟨rb, 0, none⟩ = some (.int .i64 c) ∧ W.cell? ⟨rb, 2, none⟩ = some (.slice (some ⟨q.gh, 0, none⟩) N N) ∧ W.cell? ⟨q.gh, c, none⟩ = some (.int .i64 (has c))) (go_keep) (fail)
  all_goals go_wp2
  all_goals go_ret
  all_goals
    rw [← hdec, Go.IntWalk.i64_in (60 - (k : Int)) (by omega)]
    exact ⟨rfl, (Below.refl _ w).drew⟩

/-- The operation that a copy makes. -/
def newOp (c : Nat) (gt : Int) (has : Nat → Int) (chg : QChg) (t : TypeId) (v : Value) : MOp := ⟨⟨(gt + 1, (c : Int)), has c + 1, chg⟩, t, v⟩
theorem ins_end {x : MOp} : ∀ {l : List MOp}, (∀ o ∈ l, ltI o.op.id x.op.id = true) → insO x l = l ++ [x]
  | [], _ => rfl
  | o :: l, h => by
    unfold insO
    rw [if_pos (h o List.mem_cons_self), ins_end fun y hy => h y (List.mem_cons_of_mem _ hy)]
    rfl

set_option maxRecDepth 1000000 in
set_option maxHeartbeats 4000000 in
/-- WRITE: one operation more. -/
theorem write_any {w : World} {rb : Nat} {F I : Nat → Prop} {N sp c : Nat} {gt : Int} {has : Nat → Int} {ops : List MOp} {early : List (PId × MOp)} {q : RQ} (h : RepM w rb F I N sp c gt has ops early q) (hgt : 0 ≤ gt ∧ gt ≤ 100000) (hhc : 0 ≤ has c ∧ has c ≤ 1000) (hold : ∀ o ∈ ops, o.op.id.1 ≤ gt) (hl : ops.length < 300)
    (t : TypeId) (v : Value) (chg : QChg) (hx : isChgI w I (.iface t v) chg) :
    Calls Tryz.prog 91 #[.pointer (some ⟨rb, 0, none⟩), .iface t v] w fun e w' => e = .returned (.agg #[.int .i64 (gt + 1), .int .i64 c]) ∧ ∃ F' q', RepM w' rb F' I N sp c (gt + 1) (upd has c (has c + 1)) (ops ++ [newOp c gt has chg t v]) early q' ∧ sameQ q q' ∧ Keeps F F' w w' := by
  obtain ⟨c0, c1, c2, c3, c4, c5⟩ := h.cells
  clear c3 c4 c5
  have c6 := h.heardAt h.hc
  have hc0 : (0 : Int) ≤ (c : Int) := Int.natCast_nonneg _
  have hc1 : (c : Int) < (N : Int) := by have := h.hc; omega
  have hcN := h.hc
  have hrl := h.lt _ h.fr
  have hgl := h.lt _ h.fg
  have hrg : rb ≠ q.gh := h.rg
  have hN4 := h.hN
  obtain ⟨n1, hn1e⟩ : ∃ n1, n1 = gt + 1 := ⟨_, rfl⟩
  obtain ⟨n2, hn2e⟩ : ∃ n2, n2 = has c + 1 := ⟨_, rfl⟩
  have hwr1 : IntKind.i64.wrap (gt + 1) = n1 := by rw [hn1e]; exact Go.IntWalk.i64_in _ (by omega)
  have hwr2 : IntKind.i64.wrap (has c + 1) = n2 := by rw [hn2e]; exact Go.IntWalk.i64_in _ (by omega)
  have HB2 := hid (((Below.refl w.heap.size w).alloc (Nat.le_refl _) (.cells #[.int .i64 0, .int .i64 0] 36)).alloc (by simp) (.cells #[.int .i64 n1, .int .i64 c] 36))
  have HB3 := hid (HB2.out.alloc (by simp; omega) (.cells #[.int .i64 n1, .int .i64 c, .int .i64 n2, .iface t v] 210)).drew.drew
  have HBK := hid (show (((w.alloc (.cells #[.int .i64 0, .int .i64 0] 36)).alloc (.cells #[.int .i64 n1, .int .i64 c] 36)).alloc (.cells #[.int .i64 n1, .int .i64 c, .int .i64 n2, .iface t v] 210)).drew.drew.heap[w.heap.size + 2]? = some (.cells #[.int .i64 n1, .int .i64 c, .int .i64 n2, .iface t v] 210 (0, 0)) by
      have := blk_new ((w.alloc (.cells #[.int .i64 0, .int .i64 0] 36)).alloc (.cells #[.int .i64 n1, .int .i64 c] 36)) (.cells #[.int .i64 n1, .int .i64 c, .int .i64 n2, .iface t v] 210)
      rw [show ((w.alloc (.cells #[.int .i64 0, .int .i64 0] 36)).alloc (.cells #[.int .i64 n1, .int .i64 c] 36)).heap.size = w.heap.size + 2 by simp] at this
      exact this)
  have hlast : ∀ o ∈ ops, ltI o.op.id (newOp c gt has chg t v).op.id = true := fun o ho => (ltI_iff _ _).2 (.inl (by have := hold o ho; simp only [newOp]; omega))
  have HHV := hid (have_any (h.keep HB3.out) [newOp c gt has chg t v] (by
      simp only [List.singleton_append, List.map_cons, List.nodup_cons]
      refine ⟨fun hm => ?_, ?_⟩
      · obtain ⟨o, ho, he⟩ := List.mem_map.1 hm
        have := hlast o ho
        rw [he, ltI_irr] at this
        cases this
      · have := h.asc
        unfold AscO at this
        refine List.pairwise_map.2 (this.imp fun {a b} hab e => ?_)
        rw [e, ltI_irr] at hab
        cases hab) (by simp; omega) (fun x hx => by
      obtain rfl := List.mem_singleton.1 hx
      exact ⟨hc0, hc1⟩) (.slice (some ⟨w.heap.size + 2, 0, none⟩) 1 1) (by
      refine ⟨rfl, .inr ⟨w.heap.size + 2, 1, _, rfl, Nat.zero_le _, HBK.out, Nat.le_refl _, by unfold maxLen; omega, rfl, ?_⟩⟩
      simp [mopC, newOp, ← hn1e, ← hn2e]) (fun k hk hF => by
      have := h.lt k hF
      simp [Value.ownBlock] at hk
      omega) (fun x hx' => by
      obtain rfl := List.mem_singleton.1 hx'
      exact hx.keepI (fun k hk => HB3.out.block k (h.iI k hk)) (fun _ y => y)))
  have HLT := hid (And.intro h.lt h.iI)
  have HIE := hid (show insAll ops [newOp c gt has chg t v] = ops ++ [newOp c gt has chg t v] from ins_end hlast)
  have HNE := hid (And.intro hn1e hn2e)
  have HGA := hid (show gtAll gt [newOp c gt has chg t v] = gt + 1 from (by show max gt (gt + 1) = gt + 1; omega))
  have HHA := hid (show hasAll has [newOp c gt has chg t v] = upd has c (has c + 1) from rfl)
  clear h hx hold hlast hn1e hn2e hgt hhc
  have hn0 := World.new_ne w ⟨rb, 0, none⟩ c0
  have hn1 := World.new_ne w ⟨q.gh, c, none⟩ c6
  have hn2 : w.heap.size + 1 ≠ rb := by omega
  have hn3 : w.heap.size + 1 ≠ q.gh := by omega
  have hn4 : w.heap.size + 2 ≠ rb := by omega
  have hn5 : w.heap.size + 2 ≠ q.gh := by omega
  go_enter Tryz.func91, Tryz.ntmps91
  go_wp2_with fail
  go_region_held3 (fun W => W.cell? ⟨rb, 0, none⟩ = some (.int .i64 c) ∧ W.cell? ⟨rb, 1, none⟩ = some (.int .i64 gt)) (go_keep) (fail)
  go_wp2_with fail
  replace c0 := keep HB2.out c0
  replace c2 := keep HB2.out c2
  replace c6 := keep HB2.out c6
  clear hn0 hn1 hn2 hn3 hn4 hn5
  have HR1 := hid (show (((w.alloc (.cells #[.int .i64 0, .int .i64 0] 36)).alloc (.cells #[.int .i64 n1, .int .i64 c] 36)).alloc (.cells #[.int .i64 n1, .int .i64 c, .int .i64 n2, .iface t v] 210)).drew.drew.heap[w.heap.size]? = some (.cells #[.int .i64 0, .int .i64 0] 36 (0, 0)) from (alloc_old_r _ _ (by simp; omega)).trans ((alloc_old_r _ _ (by simp)).trans (blk_new w _)))
  have HR2 := hid (show (((w.alloc (.cells #[.int .i64 0, .int .i64 0] 36)).alloc (.cells #[.int .i64 n1, .int .i64 c] 36)).alloc (.cells #[.int .i64 n1, .int .i64 c, .int .i64 n2, .iface t v] 210)).drew.drew.heap[w.heap.size + 1]? = some (.cells #[.int .i64 n1, .int .i64 c] 36 (0, 0)) from (alloc_old_r _ _ (by simp)).trans (by
    have := blk_new (w.alloc (.cells #[.int .i64 0, .int .i64 0] 36)) (.cells #[.int .i64 n1, .int .i64 c] 36)
    rw [show (w.alloc (.cells #[.int .i64 0, .int .i64 0] 36)).heap.size = w.heap.size + 1 by simp] at this
    exact this))
  go_region_with (first | (go_at_call 142; refine HHV.out.mono ?_; rintro e w4 ⟨⟨r, rfl⟩, F', q', hr4, hd4, hk4⟩; have HR4 := hid (And.intro hr4 hd4); have HK4 := hid hk4; clear hr4 hd4 hk4))
  all_goals (
    have hnF : ∀ k, w.heap.size ≤ k → ¬ F k := fun k hk hF => by have := HLT.out.1 k hF; omega
    have hb1 : w4.heap[w.heap.size]? = some (.cells #[.int .i64 0, .int .i64 0] 36 (0, 0)) := (HK4.out.other _ (by simp; omega) (hnF _ (Nat.le_refl _))).trans HR1.out
    have hb2 : w4.heap[w.heap.size + 1]? = some (.cells #[.int .i64 n1, .int .i64 c] 36 (0, 0)) := (HK4.out.other _ (by simp) (hnF _ (by omega))).trans HR2.out
    obtain ⟨r0, r1⟩ := blk2 hb1
    obtain ⟨j0, j1⟩ := blk2 hb2
    have rf := blk_fz hb1
    have rl := blk_lt hb1
    clear hb1 hb2 hnF c0 c2 c6)
  all_goals go_wp2
  all_goals refine bodyPost_ret (v := .agg #[.int .i64 n1, .int .i64 c]) (by simp [results, Tryz.results91, go_sem, r0, r1]) rfl ?_
  all_goals (
    have hnF' : ¬ F' w.heap.size := fun hF => by
      rcases HK4.out.sub _ hF with h | h
      · have := HLT.out.1 _ h; omega
      · simp at h; omega
    have hnI : ¬ I w.heap.size := fun hI => by have := HLT.out.2 _ hI; omega
    have hR := HR4.out.1
    rw [HIE.out, HGA.out, HHA.out] at hR
    exact ⟨by rw [HNE.out.1], F', q', (hR.set _ hnF' hnI).set _ hnF' hnI, HR4.out.2, ((HK4.out.before HB3.out).setNew (Nat.le_refl _) _).setNew (Nat.le_refl _) _⟩)

end Go.Proofs.YtnkpogjiiohapaaGreatDoor
