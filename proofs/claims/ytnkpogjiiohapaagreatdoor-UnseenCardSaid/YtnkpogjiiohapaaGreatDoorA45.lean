/- Our own text (GTrimE, GTrimF, ALawA). -/
import Derived.Test.YtnkpogjiiohapaaGreatDoorA25
import Derived.Test.YtnkpogjiiohapaaGreatDoorA44
import Derived.Test.YtnkpogjiiohapaaGreatDoorA05
import Derived.Test.YtnkpogjiiohapaaGreatDoorA31
import Derived.Test.YtnkpogjiiohapaaGreatDoorA33
import Derived.Test.YtnkpogjiiohapaaGreatDoorA41
set_option linter.unusedSimpArgs false
set_option linter.unusedVariables false

/-! GTrimE: One copy of the program's room in general: what is settled. -/
namespace Go.Proofs.YtnkpogjiiohapaaGreatDoor
open Go.RowKit
open Go.ChangeMaps (setBlock)
attribute [local go_sem ↓] Go.wp_at_zero Go.wp_at_succ

/-- The least of what a copy has and of what it knows that others had. -/
def MinOf (N : Nat) (has : Nat → Int) (rows : List (Nat → Int)) (f : Nat → Int) : Prop := ∀ i, i < N → f i ≤ has i ∧ (∀ r ∈ rows, f i ≤ r i) ∧ (f i = has i ∨ ∃ r ∈ rows, f i = r i)
/-- What is settled: nothing while one is missing. -/
def SetOk (N : Nat) (has : Nat → Int) (ns : List (Int × Nat)) (nv : Nat → List Int) (st : Nat → Int) : Prop :=
  ((∃ p ∈ ns, has p.1.toNat < rowOf (nv p.2) p.1.toNat) ∧ ∀ i, i < N → st i = 0) ∨ ((∀ p ∈ ns, rowOf (nv p.2) p.1.toNat ≤ has p.1.toNat) ∧ MinOf N has (ns.map fun p => rowOf (nv p.2)) st)
theorem MinOf.perm {N : Nat} {has : Nat → Int} {a b : List (Nat → Int)} {f : Nat → Int} (h : MinOf N has a f) (hp : a.Perm b) : MinOf N has b f := fun i hi => by
  obtain ⟨h1, h2, h3⟩ := h i hi
  exact ⟨h1, fun r hr => h2 r (hp.mem_iff.2 hr), h3.imp id fun ⟨r, hr, e⟩ => ⟨r, hp.mem_iff.1 hr, e⟩⟩
theorem MinOf.step {N : Nat} {has : Nat → Int} {a : List (Nat → Int)} {f : Nat → Int} (h : MinOf N has a f) (r : Nat → Int) : MinOf N has (a ++ [r]) fun i => min (f i) (r i) := fun i hi => by
  obtain ⟨h1, h2, h3⟩ := h i hi
  refine ⟨by simp only; omega, fun q hq => ?_, ?_⟩
  · rcases List.mem_append.1 hq with hq | hq
    · have := h2 q hq; simp only; omega
    · rw [List.mem_singleton.1 hq]; simp only; omega
  · simp only
    by_cases hl : f i ≤ r i
    · rw [Int.min_eq_left hl]
      exact h3.imp id fun ⟨q, hq, e⟩ => ⟨q, List.mem_append_left _ hq, e⟩
    · rw [Int.min_eq_right (by omega)]
      exact .inr ⟨r, List.mem_append_right _ (List.mem_singleton.2 rfl), rfl⟩
theorem MinOf.congr {N : Nat} {has : Nat → Int} {a : List (Nat → Int)} {f g : Nat → Int} (h : MinOf N has a f) (he : ∀ i, i < N → g i = f i) : MinOf N has a g := fun i hi => by rw [he i hi]; exact h i hi
/-- A row of numbers of one's own. -/
structure OwnR (w : World) (g N : Nat) (f : Nat → Int) : Prop where
  cells : ∀ i, i < N → w.cell? ⟨g, i, none⟩ = some (.int .i64 (f i))
  blk : ∃ cur, w.heap[g]? = some (.cells cur 3 (0, 0))
theorem OwnR.fz {w : World} {g N : Nat} {f : Nat → Int} (h : OwnR w g N f) (i : Nat) : w.frozen? ⟨g, i, none⟩ = false := by
  obtain ⟨cur, hc⟩ := h.blk
  exact blk_fz hc i
theorem OwnR.keepB {w w' : World} {g N : Nat} {f : Nat → Int} (h : OwnR w g N f) (hk : w'.heap[g]? = w.heap[g]?) : OwnR w' g N f := by
  obtain ⟨cur, hc⟩ := h.blk
  refine ⟨fun i hi => ?_, cur, hk.trans hc⟩
  have := h.cells i hi
  simp only [World.cell?] at this ⊢
  rw [hk]
  exact this
theorem OwnR.set {w : World} {g N : Nat} {f : Nat → Int} (h : OwnR w g N f) {k : Nat} (hk : k < N) (v : Int) : OwnR (w.setCell ⟨g, k, none⟩ (.int .i64 v)) g N (upd f k v) := by
  obtain ⟨cur, hc⟩ := h.blk
  have hc' := setRow (i := k) (u := .int .i64 v) hc
  refine ⟨fun i hi => ?_, _, hc'⟩
  have hi' := h.cells i hi
  simp only [World.cell?, hc, hc'] at hi' ⊢
  by_cases e : i = k
  · subst e
    rw [upd_same]
    have : i < cur.size := by
      rcases Nat.lt_or_ge i cur.size with h1 | h1
      · exact h1
      · simp [h1] at hi'
    simp [this]
  · rw [upd_ne _ _ e]
    rw [Array.getElem?_setIfInBounds, if_neg (Ne.symm e)]
    exact hi'

theorem rows_of {ns : List (Int × Nat)} {nv : Nat → List Int} {N : Nat} {w : World} (h : ∀ p ∈ ns, (nv p.2).length = N ∧ w.heap[p.2]? = some (.cells ((nv p.2).map fun x => Value.int .i64 x).toArray 3 (0, 0))) {p : Int × Nat} (hp : p ∈ ns) {i : Nat} (hi : i < N) : w.cell? ⟨p.2, i, none⟩ = some (.int .i64 (rowOf (nv p.2) i)) := by
  obtain ⟨h1, h2⟩ := h p hp
  have hl : i < (nv p.2).length := by omega
  simp [World.cell?, h2, rowOf, hl]

theorem zrow_eqT (N : Nat) : zrow N = gRow N fun _ => 0 := by
  have h1 : (zrow N).toList = List.replicate N (Value.int .i64 0) := by
    unfold zrow
    have := toList_madeCells_one (.int .i64 0) (N * 1)
    rw [Nat.mul_one] at this ⊢
    exact this
  apply Array.ext'
  rw [h1]
  unfold gRow
  apply List.ext_getElem
  · simp
  · intro i h2 h3
    simp
theorem Walk.keepB {es : Array MapEntry} {clk b r : Nat} {seen : Array Nat} {l : List MapEntry} {w w' : World} (h : Walk es clk b r seen l w) (h1 : w'.heap[b]? = w.heap[b]?) (h2 : w'.heap[r]? = w.heap[r]?) : Walk es clk b r seen l w' := ⟨h1.trans h.map, h2.trans h.iter, h.seen, h.sub⟩
/-- The first k made less. -/
def minTo (f r : Nat → Int) (k i : Nat) : Int := if i < k then min (f i) (r i) else f i
theorem minTo_set (f r : Nat → Int) (k : Nat) : upd (minTo f r k) k (min (f k) (r k)) = minTo f r (k + 1) := by
  funext i
  by_cases e : i = k
  · subst e
    rw [upd_same]
    unfold minTo
    rw [if_pos (by omega)]
  · rw [upd_ne _ _ e]
    unfold minTo
    by_cases h : i < k
    · rw [if_pos h, if_pos (by omega)]
    · rw [if_neg h, if_neg (by omega)]
theorem minTo_at (f r : Nat → Int) (k : Nat) : minTo f r k k = f k := if_neg (Nat.lt_irrefl _)

set_option maxRecDepth 1000000 in
set_option maxHeartbeats 4000000 in
/-- SETTLED. -/
theorem settled_any {w : World} {rb : Nat} {F I : Nat → Prop} {N sp c : Nat} {gt : Int} {has : Nat → Int} {ops : List MOp} {early : List (PId × MOp)} {q : RQ} (h : RepM w rb F I N sp c gt has ops early q) (hkeys : ∀ p ∈ q.ns, ∃ d : Nat, d < N ∧ d ≠ c ∧ p.1 = (d : Int)) :
    Calls Tryz.prog 82 #[.pointer (some ⟨rb, 0, none⟩)] w fun e w' => ∃ g cap st, e = .returned (.slice (some ⟨g, 0, none⟩) N cap) ∧ isKn w' g cap N st ∧ SetOk N has q.ns q.nv st ∧ Below w.heap.size w w' := by
  have hN4 := h.hN
  have hc := h.hc
  obtain ⟨c0, c1, c2, c3, c4, c5⟩ := h.cells
  have HCL := hid (cloneInts_q h.ints (by rw [hasL_len]; omega))
  rw [hasL_len] at HCL
  obtain ⟨es, clk, hm⟩ := h.newest
  have HM := hid hm
  have HH := hid h; have HKE := hid hkeys
  have hbl := hm.lt
  have hmk := run_mkInts N hN4
  clear h hkeys hm c0 c1 c3 c4
  go_enter Tryz.func82, Tryz.ntmps82
  go_wp2_with fail
  refine HCL.out.mono ?_
  rintro e w1 ⟨u, rfl, hu, hb1⟩
  obtain ⟨gs, cs, rfl, hs1, hs2, hs3, hs4, hs5⟩ := hu.kn (by rw [hasL_len]; omega) (by rw [hasL_len]; omega)
  have hown1 : OwnR w1 gs N has := ⟨fun i hi => (by rw [hs5 i (by rw [hasL_len]; exact hi)]; simp [hasL]), own_type hu rfl⟩
  rw [hasL_len] at hs1 ⊢
  unfold maxLen at hs2
  have HB1 := hid hb1
  have HO1 := hid hown1
  replace c5 := keep hb1 c5
  clear hb1 hu hs5 hown1
  have HM1 := hid (HM.out.keep HB1.out)
  have hrg := run_range_map (P := Tryz.prog) w1 107 3 24 q.bN es clk Tryz.underlying107 HM1.out.blk
  go_wp2_with fail
  obtain ⟨wi, hwi⟩ : ∃ wi, wi = w1.alloc (.mapIter (some q.bN) clk #[] clk) := ⟨_, rfl⟩
  rw [← hwi]
  have hz1 := HB1.out.size
  have HBI := hid (show Below w.heap.size w wi by rw [hwi]; exact HB1.out.alloc hz1 _)
  have HWI := hid (show Walk es clk q.bN w1.heap.size #[] [] wi by
    rw [hwi]
    exact ⟨(alloc_old_r w1 _ HM1.out.lt).trans HM1.out.blk, heap_alloc_new w1 _, rfl, fun e he => by cases he⟩)
  have HOI := hid (show OwnR wi gs N has from HO1.out.keepB (by rw [hwi]; exact alloc_old_r w1 _ hs4))
  clear hwi hrg
  go_loopw [18] (fun _ wr => ∃ seen el f, Walk es clk q.bN w1.heap.size seen el wr ∧ (el.map (·.born)).Nodup ∧ OwnR wr gs N f ∧ MinOf N has ((el.filterMap (pairOf es.toList q.ns)).map fun p => rowOf (q.nv p.2)) f ∧ (∀ p ∈ el.filterMap (pairOf es.toList q.ns), rowOf (q.nv p.2) p.1.toNat ≤ has p.1.toNat) ∧ Below w.heap.size w wr) (fun _ wr => leftM q.bN w1.heap.size wr)
  case atStart => exact ⟨#[], [], has, HWI.out, by simp, HOI.out, fun i _ => ⟨Int.le_refl _, fun r hr => (by simp at hr), .inl rfl⟩, fun p hp => (by simp at hp), HBI.out⟩
  case round =>
    obtain ⟨seen, el, f, hwk, hnd, hor, hmin, hall, hbel⟩ := hrel
    have HW := hid hwk; have HN := hid hnd; have HOR := hid hor; have HMI := hid hmin; have HAL := hid hall; have HBE := hid hbel
    clear hwk hnd hor hmin hall hbel
    have hbz := HBE.out.size
    rcases run_next_at (P := Tryz.prog) wr 0 w1.heap.size q.bN clk clk seen es clk HW.out.iter HW.out.map HM.out.old (Nat.le_refl _) with ⟨hl0, hrun⟩ | ⟨e, he, w1', hw1', hrun⟩
    · have hp := HW.out.all HM.out.nodup HN.out hl0
      have HP := hid (show (el.filterMap (pairOf es.toList q.ns)).Perm q.ns by
        have h1 := hp.filterMap (pairOf es.toList q.ns)
        rw [pairOf_map HM.out.nodup (by have := HM.out.len; simpa using this)] at h1
        exact h1)
      have hgl : gs < wr.heap.size := by obtain ⟨cur, hcu⟩ := HOR.out.blk; exact blk_lt hcu
      clear hp
      go_wp2
      go_ret
      exact ⟨gs, cs, f, rfl, ⟨HOR.out.cells, hs1, by omega, hgl⟩, .inr ⟨fun p hp => HAL.out p (HP.out.mem_iff.2 hp), HMI.out.perm (HP.out.map _)⟩, HBE.out⟩
    · have hmem : e ∈ es.toList := by unfold leftOf at he; simp at he; simpa using he.1
      obtain ⟨⟨kd, g⟩, hpm, hpo, hek, hev⟩ := pairOf_mem HM.out.nodup HM.out.ents hmem
      have HW2 := hid (HW.out.next (by have := HM1.out.lt; omega) he hw1')
      obtain ⟨w2, hw2⟩ : ∃ w2, w2 = setBlock w1' w1.heap.size (.mapIter (some q.bN) clk (seen.push e.born) clk) := ⟨_, rfl⟩
      rw [← hw2] at hrun HW2
      have hen := run_entry_at (P := Tryz.prog) w2 w1.heap.size q.bN clk seen es clk e HW2.out.iter HW2.out.map hmem HM.out.nodup
      rw [hek, hev] at hrun hen
      simp only [numV, rowV] at hrun hen
      have hg2 : wr.grownBy w2 (some w1.heap.size) := by rw [hw2]; exact setBlock_grown hw1' _ _
      clear hw2 hw1'
      have HB2 := hid (HBE.out.grown hg2 hbz (fun k hk => by cases hk; exact hz1))
      have HO2 := hid (show OwnR w2 gs N f from HOR.out.keepB (by
        obtain ⟨cur, hcu⟩ := HOR.out.blk
        exact hg2.block gs (blk_lt hcu) (fun e => by injection e with e; subst e; rw [HW.out.iter] at hcu; cases hcu)))
      have HND2 := hid (show ((el ++ [e]).map (·.born)).Nodup by
        rw [List.map_append, List.nodup_append]
        refine ⟨HN.out, by simp, fun a ha c hc hac => ?_⟩
        simp at hc
        subst hc
        unfold leftOf at he
        simp at he
        rw [← HW.out.seen] at ha
        rw [hac] at ha
        exact he.2 (by simpa using ha))
      have HLS := hid (left_less he)
      have HFM := hid (show (el ++ [e]).filterMap (pairOf es.toList q.ns) = el.filterMap (pairOf es.toList q.ns) ++ [(kd, g)] by rw [List.filterMap_append]; simp [hpo])
      clear hg2 hpo hek hev hmem
      obtain ⟨dn, hdN, hdc, hkd⟩ := HKE.out _ hpm
      simp only at hkd
      subst hkd
      have HPM := hid hpm
      have HH2 := hid (HH.out.keep HB2.out)
      have HRO := hid (fun i (hi : i < N) => rows_of (fun p hp => (HH2.out.nrow p hp).1) hpm hi)
      have d2 := (HH2.out.cells).2.2.1
      have r1 := HRO.out dn hdN
      have r2 := HH2.out.heardAt hdN
      simp only at r1
      have hd0 : (0 : Int) ≤ (dn : Int) := Int.natCast_nonneg _
      have hd1 : (dn : Int) < (N : Int) := by omega
      have hgl2 : g < w2.heap.size := World.block_lt_of_cell? _ _ r1
      have hhl2 : q.gh < w2.heap.size := World.block_lt_of_cell? _ _ r2
      have hrl2 : rb < w2.heap.size := World.block_lt_of_cell? _ _ d2
      by_cases hq : has dn < rowOf (q.nv g) dn
      · have HQ := hid hq
        have hz2 := HB2.out.size
        go_wp2_with fail
        go_region
        all_goals go_wp2
        all_goals go_ret
        all_goals (
          have HBF := hid (show Below w.heap.size w (w2.alloc (.cells (zrow N) 3)).drew from (HB2.out.alloc hz2 _).drew)
          have hnew : (w2.alloc (.cells (zrow N) 3)).drew.heap[w2.heap.size]? = some (.cells (gRow N fun _ => 0) 3 (0, 0)) := by rw [← zrow_eqT]; exact blk_new w2 _
          exact ⟨_, N, fun _ => 0, rfl, ⟨fun i hi => (by simp only [World.cell?, hnew]; exact gRow_get hi), Nat.le_refl _, by omega, blk_lt hnew⟩, .inl ⟨⟨_, HPM.out, HQ.out⟩, fun _ _ => rfl⟩, HBF.out⟩)
      · have HQ := hid hq
        have HOD := hid (show OwnR w2.drew gs N (minTo f (rowOf (q.nv g)) 0) from (by
          have e : minTo f (rowOf (q.nv g)) 0 = f := by funext i; exact if_neg (Nat.not_lt_zero _)
          rw [e]
          exact HO2.out.keepB rfl))
        have HWD := hid (HW2.out.keepB (w' := w2.drew) rfl rfl)
        have HBD := hid (HB2.out.drew)
        obtain ⟨wo, hwo⟩ : ∃ wo, wo = wr := ⟨_, rfl⟩
        subst hwo
        have HLM := hid (show leftM q.bN w1.heap.size w2 < leftM q.bN w1.heap.size wo by rw [HW2.out.left, HW.out.left]; exact HLS.out)
        go_wp2_with fail
        go_region
        all_goals go_wp2_with fail
        all_goals clear d2 r1 r2 hgl2 hhl2 hrl2 hrun hen
        go_loopw [43] (fun i wj => ∃ k : Nat, k ≤ N ∧ i = .int .i64 k ∧ OwnR wj gs N (minTo f (rowOf (q.nv g)) k) ∧ Walk es clk q.bN w1.heap.size (seen.push e.born) (el ++ [e]) wj ∧ Below w.heap.size w wj) (fun i _ => N - (intOf i).toNat)
        case atStart => exact ⟨0, Nat.zero_le _, rfl, HOD.out, HWD.out, HBD.out⟩
        case round =>
          obtain ⟨k, hk, rfl, hoj, hwj, hbj⟩ := hrel
          have HOJ := hid hoj; have HWJ := hid hwj; have HBJ := hid hbj
          clear hoj hwj hbj
          by_cases hkl : k < N
          · have hkl' : (k : Int) < (N : Int) := by omega
            have hk0 : (0 : Int) ≤ (k : Int) := Int.natCast_nonneg _
            have hkc : (k : Int) < (cs : Int) := by omega
            have e1 := rows_of (fun p hp => ((HH.out.keep HBJ.out).nrow p hp).1) HPM.out hkl
            have e2 := HOJ.out.cells k hkl
            rw [minTo_at] at e2
            have e3 := HOJ.out.fz k
            simp only at e1
            have hel := World.block_lt_of_cell? _ _ e1
            have hel2 := World.block_lt_of_cell? _ _ e2
            simp only at hel hel2
            have HON := hid (HOJ.out.set hkl (min (f k) (rowOf (q.nv g) k)))
            rw [minTo_set] at HON
            obtain ⟨cur, hcu⟩ := HOJ.out.blk
            have HWN := hid (HWJ.out.keepB (w' := wr.setCell ⟨gs, k, none⟩ (.int .i64 (min (f k) (rowOf (q.nv g) k)))) (setCell_other fun e => by rw [← e, HWJ.out.map] at hcu; cases hcu) (setCell_other fun e => by rw [← e, HWJ.out.iter] at hcu; cases hcu))
            have HBN := hid (HBJ.out.setCell (p := ⟨gs, k, none⟩) hs3 (Value.int .i64 (min (f k) (rowOf (q.nv g) k))))
            clear hcu
            go_wp2
            go_roundw
            case rel => exact ⟨k + 1, by omega, by go_num, HON.out, HWN.out, HBN.out⟩
            case measure => simp [intOf]; omega
          · have hkl' : ¬ (k : Int) < (N : Int) := by omega
            go_wp2
            go_roundw
            case rel => exact ⟨seen.push e.born, el ++ [e], minTo f (rowOf (q.nv g)) k, HWJ.out, HND2.out, HOJ.out, (by
              rw [HFM.out, List.map_append]
              refine (HMI.out.step (rowOf (q.nv g))).congr fun i hi => ?_
              unfold minTo
              rw [if_pos (by omega)]), (fun p hp => by
              rw [HFM.out] at hp
              rcases List.mem_append.1 hp with hp | hp
              · exact HAL.out p hp
              · rw [List.mem_singleton.1 hp]
                have := HQ.out
                simp only [Int.toNat_natCast]
                omega), HBJ.out⟩
            case measure =>
              have h1 := HWJ.out.left
              have h2 := HW2.out.left
              have h3 := HLM.out
              show leftM q.bN w1.heap.size wr < leftM q.bN w1.heap.size wo
              omega

end Go.Proofs.YtnkpogjiiohapaaGreatDoor

/-! GTrimF: One copy of the program's room in general: trim; the room's Trim. -/
namespace Go.Proofs.YtnkpogjiiohapaaGreatDoor
open Go.RowKit
attribute [local go_sem ↓] Go.wp_at_zero Go.wp_at_succ

theorem asc_drop {l : List MOp} (h : AscO l) (n : Nat) : AscO (l.drop n) := List.Pairwise.sublist (List.drop_sublist n l) h
/-- What trim leaves of a copy. -/
def TrimM (w : World) (rb : Nat) (F I : Nat → Prop) (N sp c : Nat) (gt : Int) (has : Nat → Int) (ops : List MOp) (early : List (PId × MOp)) (q : RQ) (G : Nat) (w' : World) : Prop := ∃ F' q', RepM w' rb F' I N sp c gt has (ops.drop G) early q' ∧ q'.ns = q.ns ∧ q'.nv = q.nv ∧ q'.D0 = (q.D0.1, q.D0.2 ++ (ops.take G).map (·.op)) ∧ Keeps F F' w w'

theorem trim_to {w w1 w2 : World} {rb : Nat} {F I : Nat → Prop} {N sp c : Nat} {gt : Int} {has : Nat → Int} {ops : List MOp} {early : List (PId × MOp)} {q : RQ} (h : RepM w rb F I N sp c gt has ops early q) (hb : Below w.heap.size w w1) {G : Nat} (hf : ForgD q.hb sp ops q.d q.bo q.be q.FH I q.D0 q.D G w1 w2) : TrimM w rb F I N sp c gt has ops early q G w2 := by
  obtain ⟨su', vo', vr', rs', FH', hG, hcnt, hK⟩ := hf
  obtain ⟨F', hr, hk⟩ := (h.keep hb).histTo hK hG hcnt (asc_drop h.asc G)
  exact ⟨F', _, hr, rfl, rfl, rfl, hk.before hb⟩
theorem trim_cell {w1 w2 : World} {rb hb : Nat} {q : RQ} {sp : Nat} {ops : List MOp} {I : Nat → Prop} {G : Nat} (hn : ¬ q.FH rb) (hr : rb < w1.heap.size) (hf : ForgD hb sp ops q.d q.bo q.be q.FH I q.D0 q.D G w1 w2) {v : Value} (h1 : w1.cell? ⟨rb, 3, none⟩ = some v) : w2.cell? ⟨rb, 3, none⟩ = some v := by
  obtain ⟨su', vo', vr', rs', FH', hG, hcnt, hK⟩ := hf
  have := hK.other rb hr hn
  simp only [World.cell?] at h1 ⊢
  rw [this]
  exact h1

set_option maxRecDepth 1000000 in
set_option maxHeartbeats 4000000 in
/-- TRIM, of a copy. -/
theorem trim_any {w : World} {rb : Nat} {F I : Nat → Prop} {N sp c : Nat} {gt : Int} {has : Nat → Int} {ops : List MOp} {early : List (PId × MOp)} {q : RQ} (h : RepM w rb F I N sp c gt has ops early q) (hkeys : ∀ p ∈ q.ns, ∃ d : Nat, d < N ∧ d ≠ c ∧ p.1 = (d : Int)) (hcp : ∀ x ∈ ops, 0 ≤ x.op.id.2 ∧ x.op.id.2 < N) :
    Calls Tryz.prog 45 #[.pointer (some ⟨rb, 0, none⟩)] w fun e w' => ∃ st, SetOk N has q.ns q.nv st ∧ e = .returned (.int .i64 (leadN st ops)) ∧ TrimM w rb F I N sp c gt has ops early q (leadN st ops) w' := by
  obtain ⟨_, _, _, c3, _, _⟩ := h.cells
  have HST := hid (fun W (hb : Below w.heap.size w W) => settled_any (h.keep hb) hkeys)
  have HH := hid h; have HCP := hid hcp
  have hrl := blk_lt h.blk
  clear h hkeys hcp
  go_enter Tryz.func45, Tryz.ntmps45
  go_wp2_with fail
  go_region_held3 (fun W => W.cell? ⟨rb, 3, none⟩ = some (.pointer (some ⟨q.hb, 0, none⟩))) (first | exact HC2.out | exact HC1.out | exact c3 | exact keep (Below.refl _ _).drew c3)
    (first
      | (go_at_call 82; refine (HST.out _ (Below.refl _ _).drew).mono ?_; rintro e w1 ⟨g1, k1, st, rfl, hkn, hso, hb1⟩; have hb1' := Hid.out (below_drew_left hb1); have HC1 := hid (keep hb1' c3); have HF1 := hid (forget_any (HH.out.keep hb1').hist (HH.out.keep hb1').cnt hkn HCP.out); have HS1 := hid hso; have HB1 := hid hb1'; clear hb1 hb1' hkn hso)
      | (go_at_call 81; refine HF1.out.mono ?_; rintro e w2 ⟨rfl, hfd⟩; have HTM := hid (show TrimM w rb F I N sp c gt has ops early q (leadN st ops) w2 from trim_to HH.out HB1.out hfd); have HC2 := hid (show w2.cell? ⟨rb, 3, none⟩ = some (.pointer (some ⟨q.hb, 0, none⟩)) from trim_cell HH.out.nr (Nat.lt_of_lt_of_le hrl HB1.out.size) hfd HC1.out); clear hfd))
  all_goals go_wp2
  all_goals go_ret
  all_goals exact ⟨st, HS1.out, rfl, HTM.out⟩

/-- A copy has forgotten so many more. -/
def trimS (s : RoomS) (c G : Nat) : RoomS := { s with gone := upd s.gone c (s.gone c ++ (s.kept c).take G), kept := upd s.kept c ((s.kept c).drop G) }
/-- What is settled, plainly. -/
def SetP (N : Nat) (s : RoomS) (c : Nat) (st : Nat → Int) : Prop :=
  ((∃ d, d < N ∧ d ≠ c ∧ s.has c d < s.nw c d d) ∧ ∀ i, i < N → st i = 0) ∨ ((∀ d, d < N → d ≠ c → s.nw c d d ≤ s.has c d) ∧ ∀ i, i < N → st i ≤ s.has c i ∧ (∀ d, d < N → d ≠ c → st i ≤ s.nw c d i) ∧ (st i = s.has c i ∨ ∃ d, d < N ∧ d ≠ c ∧ st i = s.nw c d i))
theorem RoomM.lookNs {w : World} {r : Nat} {F I : Nat → Prop} {N sp : Nat} {s : RoomS} {x : RoomX} (h : RoomM w r F I N sp s x) {c : Nat} (hc : c < N) {p : Int × Nat} (hp : p ∈ (x.q c).ns) : lookI p.1 (x.q c).ns = some p.2 := by
  exact look_of_mem (h.nj c hc).2.2 hp
theorem RoomM.setP {w : World} {r : Nat} {F I : Nat → Prop} {N sp : Nat} {s : RoomS} {x : RoomX} (h : RoomM w r F I N sp s x) {c : Nat} (hc : c < N) {st : Nat → Int} (hs : SetOk N (s.has c) (x.q c).ns (x.q c).nv st) : SetP N s c st := by
  have key : ∀ d, d < N → d ≠ c → ∃ g, ((d : Int), g) ∈ (x.q c).ns ∧ ∀ i, i < N → rowOf ((x.q c).nv g) i = s.nw c d i := fun d hd hdc => by
    obtain ⟨g, hg, hv⟩ := h.nk c d hc hd (Ne.symm hdc)
    exact ⟨g, look_mem hg, hv⟩
  have back : ∀ p ∈ (x.q c).ns, ∃ d, d < N ∧ d ≠ c ∧ p.1 = (d : Int) ∧ ∀ i, i < N → rowOf ((x.q c).nv p.2) i = s.nw c d i := fun p hp => by
    obtain ⟨d, hd, hdc, e⟩ := (h.nj c hc).2.1 p hp
    obtain ⟨g, hg, hv⟩ := h.nk c d hc hd (Ne.symm hdc)
    have hl : lookI p.1 (x.q c).ns = some p.2 := h.lookNs hc hp
    rw [e, hg] at hl
    cases hl
    exact ⟨d, hd, hdc, e, hv⟩
  rcases hs with ⟨⟨p, hp, hlt⟩, hz⟩ | ⟨h1, h2⟩
  · obtain ⟨d, hd, hdc, e, hv⟩ := back p hp
    rw [e, Int.toNat_natCast, hv d hd] at hlt
    exact .inl ⟨⟨d, hd, hdc, hlt⟩, hz⟩
  · refine .inr ⟨fun d hd hdc => ?_, fun i hi => ?_⟩
    · obtain ⟨g, hg, hv⟩ := key d hd hdc
      have := h1 _ hg
      simp only [Int.toNat_natCast] at this
      rw [hv d hd] at this
      exact this
    · obtain ⟨a, b, e⟩ := h2 i hi
      refine ⟨a, fun d hd hdc => ?_, e.imp id fun ⟨r', hr', e'⟩ => ?_⟩
      · obtain ⟨g, hg, hv⟩ := key d hd hdc
        have := b _ (List.mem_map.2 ⟨_, hg, rfl⟩)
        simp only at this
        rw [hv i hi] at this
        exact this
      · obtain ⟨p, hp, rfl⟩ := List.mem_map.1 hr'
        obtain ⟨d, hd, hdc, _, hv⟩ := back p hp
        exact ⟨d, hd, hdc, e'.trans (hv i hi)⟩
/-- FORGETTING KEEPS THE ROOM IN ORDER. -/
theorem RoomOk.trim {N : Nat} {M : Nat → List MOp} {s : RoomS} (h : RoomOk N M s) {c : Nat} (hc : c < N) {st : Nat → Int} (hs : SetP N s c st) : RoomOk N M (trimS s c (leadN st (s.kept c))) := by
  have hg : ∀ g ∈ (s.kept c).take (leadN st (s.kept c)), g ∈ s.ops c ∧ ∃ e, e < N ∧ g ∈ M e ∧ g.op.id.2.toNat = e ∧ 1 ≤ g.op.nth ∧ g.op.nth ≤ s.has c e ∧ ∀ d, d < N → d ≠ c → s.nw c d d ≤ s.has c d ∧ g.op.nth ≤ s.nw c d e := fun g hg => by
    have hset := of_decide_eq_true (lead_mem hg)
    have hgo : g ∈ s.ops c := (h.kept_sub hc).subset (List.mem_of_mem_take hg)
    obtain ⟨e, he, hm⟩ := (h.copy c hc).made hgo
    obtain ⟨i, hi, _, a1, a2, _⟩ := h.made.at he hm
    have ee : g.op.id.2.toNat = e := by omega
    have hle := ((h.copy c hc).mem h.made ⟨e, he, hm⟩).1 hgo
    rw [ee] at hset hle
    refine ⟨hgo, e, he, hm, ee, by omega, hle, fun d hd hdc => ?_⟩
    rcases hs with ⟨_, hz⟩ | ⟨h1, h2⟩
    · rw [hz e he] at hset; omega
    · exact ⟨h1 d hd hdc, Int.le_trans hset ((h2 e he).2.1 d hd hdc)⟩
  refine ⟨h.made, h.copy, h.own, h.asc, h.gtU, h.cnt, h.msgs, fun e he => ?_, h.qok, h.nok, fun e he g hge d hd => ?_, fun e he g hge d hd y hy hl => ?_⟩
  · by_cases ec : e = c
    · subst ec
      show s.ops e = upd s.gone e _ e ++ upd s.kept e _ e
      rw [upd_same, upd_same, List.append_assoc, List.take_append_drop]
      exact h.spl e he
    · show s.ops e = upd s.gone c _ e ++ upd s.kept c _ e
      rw [upd_ne _ _ ec, upd_ne _ _ ec]
      exact h.spl e he
  · by_cases ec : e = c
    · subst ec
      replace hge : g ∈ upd s.gone e _ e := hge
      rw [upd_same] at hge
      rcases List.mem_append.1 hge with hge | hge
      · exact h.gnl e he g hge d hd
      · obtain ⟨_, e', he', _, ee, _, hle, hall⟩ := hg g hge
        rw [ee]
        by_cases hdc : d = e
        · subst hdc; exact hle
        · exact Int.le_trans (hall d hd hdc).2 ((h.nok e d he hd (Ne.symm hdc)).1 e' he').2
    · replace hge : g ∈ upd s.gone c _ e := hge
      rw [upd_ne _ _ ec] at hge
      exact h.gnl e he g hge d hd
  · by_cases ec : e = c
    · subst ec
      replace hge : g ∈ upd s.gone e _ e := hge
      rw [upd_same] at hge
      rcases List.mem_append.1 hge with hge | hge
      · exact h.gnf e he g hge d hd y hy hl
      · obtain ⟨_, e', he', hm, ee, _, hle, hall⟩ := hg g hge
        by_cases hdc : d = e
        · subst hdc
          exfalso
          replace hl : s.has d d < y.op.nth := hl
          rw [h.own d hd] at hl
          obtain ⟨i, hi, _, _, a2, _⟩ := h.made.at hd hy
          omega
        · have h1 := hall d hd hdc
          exact (h.nok e d he hd (Ne.symm hdc)).2 y hy (Int.lt_of_le_of_lt h1.1 hl) e' he' g hm h1.2
    · replace hge : g ∈ upd s.gone c _ e := hge
      rw [upd_ne _ _ ec] at hge
      exact h.gnf e he g hge d hd y hy hl

/-- What Trim leaves. -/
def TrimD (r N sp : Nat) (F I : Nat → Prop) (M : Nat → List MOp) (s : RoomS) (x : RoomX) (c : Nat) (w : World) (e : Ending) (w' : World) : Prop := ∃ st, SetP N s c st ∧ e = .returned (.tuple #[.int .i64 (leadN st (s.kept c)), .int .i64 0]) ∧ RoomDTo r N sp F I w w' x.rbs M (trimS s c (leadN st (s.kept c)))
theorem RoomD.trimTo {w W w' : World} {r : Nat} {F I : Nat → Prop} {N sp : Nat} {M : Nat → List MOp} {s : RoomS} {x : RoomX} (h : RoomD w r F I N sp M s x) (hb : Below w.heap.size w W) {c : Nat} (hc : c < N) {st : Nat → Int} (hs : SetOk N (s.has c) (x.q c).ns (x.q c).nv st) (ht : TrimM W (x.rbs c) (x.Fc c) I N sp c (s.gt c) (s.has c) (s.kept c) (s.early c) (x.q c) (leadN st (s.kept c)) w') : RoomDTo r N sp F I w w' x.rbs M (trimS s c (leadN st (s.kept c))) := by
  obtain ⟨F', q', hr, e1, e2, e3, hk⟩ := ht
  have hW := h.m.keep hb
  obtain ⟨x', hR, hK, ex, _⟩ := hW.copyToG hc hr hk (fun _ y => y) (fun _ y => .inl y) (gone' := s.gone c ++ (s.kept c).take (leadN st (s.kept c))) (ops' := s.ops c) (nw' := s.nw c) (by
    obtain ⟨a1, a2, a3, a4⟩ := h.m.ag c hc
    rw [e3]
    exact ⟨a1, a2, a3, by rw [a4, List.map_append]⟩) (by rw [List.append_assoc, List.take_append_drop]; exact h.m.spl c hc) e1 (fun d hd hcd g hg i hi => by
    obtain ⟨g', hg', hv⟩ := h.m.nk c d hc hd hcd
    rw [hg] at hg'
    cases hg'
    rw [e2]
    exact hv i hi)
  have es : ({ s with gt := upd s.gt c (s.gt c), has := upd s.has c (s.has c), ops := upd s.ops c (s.ops c), gone := upd s.gone c (s.gone c ++ (s.kept c).take (leadN st (s.kept c))), kept := upd s.kept c ((s.kept c).drop (leadN st (s.kept c))), early := upd s.early c (s.early c), nw := upd s.nw c (s.nw c) } : RoomS) = trimS s c (leadN st (s.kept c)) := by
    rw [upd_self, upd_self, upd_self, upd_self, upd_self]
    rfl
  rw [es] at hR
  refine ⟨_, I, x', ⟨hR, h.ok.trim hc (h.m.setP hc hs), h.md⟩, ex, hK.before hb, fun k hk' => ⟨hk', ?_⟩, fun _ hk' => .inl hk'⟩
  exact (hK.other k (Nat.lt_of_lt_of_le (h.m.iI k hk') hb.size) (h.m.nI k hk')).trans (hb.block k (h.m.iI k hk'))

set_option maxRecDepth 1000000 in
set_option maxHeartbeats 2000000 in
/-- TRIM. -/
theorem gTrim {w : World} {r : Nat} {F I : Nat → Prop} {N sp : Nat} {M : Nat → List MOp} {s : RoomS} {x : RoomX} (h : RoomD w r F I N sp M s x) {c : Nat} (hc : c < N) :
    Calls Tryz.prog 21 #[.pointer (some ⟨r, 0, none⟩), .int .i64 c] w fun e w' => TrimD r N sp F I M s x c w e w' := by
  have HIC := hid (inCopy_any h.m c hc)
  have HTR := hid (trim_any (h.m.reps c hc) (h.m.nj c hc).2.1 fun y hy => (h.ok.copy c hc).copy h.ok.made ((h.ok.kept_sub hc).subset hy))
  have HH := hid h
  clear h
  go_enter Tryz.func21, Tryz.ntmps21
  go_wp2_with fail
  refine HIC.out.mono ?_
  rintro e w1 ⟨rfl, rfl⟩
  go_wp2_with fail
  refine HTR.out.mono ?_
  rintro e w2 ⟨st, hs, rfl, ht⟩
  have HX := hid (And.intro hs ht); clear hs ht
  go_wp2
  go_ret2
  exact (show ∃ st, _ from ⟨st, HH.out.m.setP hc HX.out.1, rfl, HH.out.trimTo (Below.refl _ _) hc HX.out.1 HX.out.2⟩)

end Go.Proofs.YtnkpogjiiohapaaGreatDoor

/-! ALawA: quirekeep: Trim as a step; what a copy tells. -/
namespace Go.Proofs.YtnkpogjiiohapaaGreatDoor
open Go.RowKit
attribute [local go_sem ↓] Go.wp_at_zero Go.wp_at_succ

section
theorem QInv.trim {Z : Nat → Prop} {tb : Nat} {w : World} {r N sp : Nat} {ls : PId} {M : Nat → List MOp} {s : RoomS} (h : QInv Z tb w r N sp ls M s) {c : Nat} (hc : c < N) : Calls Tryz.prog 21 #[.pointer (some ⟨r, 0, none⟩), .int .i64 c] w fun e w' => (∃ n : Int, e = .returned (.tuple #[.int .i64 n, .int .i64 0])) ∧ Stepd Z tb r N sp ls M s none w w' := by
  obtain ⟨F, I, x, hr⟩ := h.i
  refine (gTrim hr.d hc).mono ?_
  rintro e w' ⟨st, _, rfl, hto⟩
  exact ⟨⟨_, rfl⟩, h.step (Went.same (s' := trimS s c (leadN st (s.kept c))) rfl rfl) (hr.to hto hr.nice)⟩
theorem QInv.heard {Z : Nat → Prop} {tb : Nat} {w : World} {r N sp : Nat} {ls : PId} {M : Nat → List MOp} {s : RoomS} (h : QInv Z tb w r N sp ls M s) {c : Nat} (hc : c < N) : Calls Tryz.prog 25 #[.pointer (some ⟨r, 0, none⟩), .int .i64 c] w fun e w' => ∃ g cap, e = .returned (.tuple #[.slice (some ⟨g, 0, none⟩) N cap, .int .i64 0]) ∧ ownInts w.heap.size w' (.slice (some ⟨g, 0, none⟩) (hasL N (s.has c)).length cap) (hasL N (s.has c)) ∧ Below w.heap.size w w' := by
  obtain ⟨F, I, x, hr⟩ := h.i
  refine (heard_any hr.d.m c hc).mono ?_
  rintro e w' ⟨u, rfl, hu, hb⟩
  obtain ⟨g, cap, rfl, h1, h2, h3, h4, h5⟩ := hu.kn (by rw [hasL_len]; omega) (by rw [hasL_len]; have := hr.d.m.hN; omega)
  exact ⟨g, cap, by rw [hasL_len], hu, hb⟩
theorem QInv.shows {Z : Nat → Prop} {tb : Nat} {w : World} {r N sp : Nat} {ls : PId} {M : Nat → List MOp} {s : RoomS} (h : QInv Z tb w r N sp ls M s) {c : Nat} (hc : c < N) (hp : Pow w) : Calls Tryz.prog 28 #[.pointer (some ⟨r, 0, none⟩), .int .i64 c] w fun e w' => e = .returned (.tuple #[.string (textG (ROf (s.ops c)) 4 (0, 0)), .int .i64 0]) ∧ Below w.heap.size w w' := by
  obtain ⟨F, I, x, hr⟩ := h.i
  exact gShows hr.d hp hr.nice.n hc

set_option maxRecDepth 1000000 in
set_option maxHeartbeats 1000000 in
/-- TOLD. -/
theorem QInv.told {Z : Nat → Prop} {tb : Nat} {w : World} {r N sp : Nat} {ls : PId} {M : Nat → List MOp} {s : RoomS} (h : QInv Z tb w r N sp ls M s) {c : Nat} (hc : c < N) (hp : Pow w) : Calls Tryz.prog 19 #[.pointer (some ⟨tb, 0, none⟩), .int .i64 c] w fun e w' => ∃ g cap, e = .returned (.tuple #[.string (textG (ROf (s.ops c)) 4 (0, 0)), .slice (some ⟨g, 0, none⟩) N cap, .bool true]) ∧ ownInts w.heap.size w' (.slice (some ⟨g, 0, none⟩) (hasL N (s.has c)).length cap) (hasL N (s.has c)) ∧ Below w.heap.size w w' := by
  have HS := hid (h.shows hc hp)
  have HE := hid (fun W (hb : Below w.heap.size w W) => (h.keep hb).heard hc)
  have HT := hid h.i.tab
  obtain ⟨_, t1, _, _⟩ := h.i.tab.cells
  have htl := blk_lt h.i.tab
  clear h hp
  go_enter Tryz.func19, Tryz.ntmps19
  go_wp2_with fail
  refine HS.out.mono ?_
  rintro e w1 ⟨rfl, hb1⟩
  replace t1 := ((HT.out.keep hb1).cells).2.1
  have HB1 := hid hb1; clear hb1
  go_wp2_with fail
  refine (HE.out w1 HB1.out).mono ?_
  rintro e w2 ⟨g, cap, rfl, hu, hb2⟩
  have HX := hid (And.intro hu hb2); clear hu hb2
  go_wp2
  go_ret3
  exact ⟨g, cap, rfl, ⟨HX.out.1.1, by
    rcases HX.out.1.2 with h0 | ⟨a, b, d, e1, e2, e3⟩
    · exact .inl h0
    · exact .inr ⟨a, b, d, e1, Nat.le_trans HB1.out.size e2, e3⟩⟩, HB1.out.trans (HX.out.2.mono HB1.out.size)⟩
end

end Go.Proofs.YtnkpogjiiohapaaGreatDoor
