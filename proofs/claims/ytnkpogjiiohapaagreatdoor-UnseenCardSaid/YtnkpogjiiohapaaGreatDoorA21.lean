/- Our own text (GRepB, GSortB). -/
import Derived.Test.YtnkpogjiiohapaaGreatDoorA19
import Derived.Test.YtnkpogjiiohapaaGreatDoorA17
import Derived.Test.YtnkpogjiiohapaaGreatDoorA12
set_option linter.unusedSimpArgs false
set_option linter.unusedVariables false

/-! GRepB: One copy of the program's room in general: ready. -/
namespace Go.Proofs.YtnkpogjiiohapaaGreatDoor
open Go.RowKit
attribute [local go_sem ↓] Go.wp_at_zero Go.wp_at_succ

/-- The early ones of a copy that no longer wait: those that follow each other from its number on. -/
def runOf (m : List (PId × MOp)) (c n : Int) : Nat → List MOp
  | 0 => []
  | f + 1 => match lookI (c, n + 1) m with
    | none => []
    | some o => o :: runOf m c (n + 1) f
theorem run_get (m : List (PId × MOp)) (c : Int) : ∀ (f : Nat) (n : Int) (j : Nat) (hj : j < (runOf m c n f).length), lookI (c, n + 1 + j) m = some (runOf m c n f)[j]
  | 0, n, j, hj => by simp [runOf] at hj
  | f + 1, n, j, hj => by
    cases hl : lookI (c, n + 1) m with
    | none => simp [runOf, hl] at hj
    | some o =>
      match j with
      | 0 => simp [runOf, hl]
      | j + 1 =>
        have := run_get m c f (n + 1) j (by simpa [runOf, hl] using hj)
        simp only [runOf, hl, List.getElem_cons_succ]
        rw [← this]
        congr 2
        omega
theorem run_end (m : List (PId × MOp)) (c : Int) : ∀ (f : Nat) (n : Int), (runOf m c n f).length < f → lookI (c, n + 1 + (runOf m c n f).length) m = none
  | 0, n, h => by omega
  | f + 1, n, h => by
    cases hl : lookI (c, n + 1) m with
    | none => simp [runOf, hl]
    | some o =>
      have h' : (runOf m c (n + 1) f).length < f := by simpa [runOf, hl] using h
      have := run_end m c f (n + 1) h'
      simp only [runOf, hl, List.length_cons]
      rw [← this]
      congr 2
      omega
theorem run_le (m : List (PId × MOp)) (c : Int) : ∀ (f : Nat) (n : Int), (runOf m c n f).length ≤ f
  | 0, n => by simp [runOf]
  | f + 1, n => by
    cases hl : lookI (c, n + 1) m with
    | none => simp [runOf, hl]
    | some o => simpa [runOf, hl] using run_le m c f (n + 1)
/-- With enough to go on the run ends by itself. -/
theorem run_lt {m : List (PId × MOp)} (hk : ∀ p ∈ m, p.1.2 ≤ 60) {c n : Int} (hn : 0 ≤ n) : (runOf m c n 61).length < 61 := by
  have h := run_le m c 61 n
  rcases Nat.lt_or_ge (runOf m c n 61).length 61 with h' | h'
  · exact h'
  · have hg := run_get m c 61 n 60 (by omega)
    have := hk _ (look_mem hg)
    simp only at this
    omega

def readyTo (m : List (PId × MOp)) (has : Nat → Int) (c : Nat) : List MOp := (List.range c).flatMap fun (i : Nat) => runOf m (i : Int) (has i) 61
def goneTo (m : List (PId × MOp)) (has : Nat → Int) (c : Nat) : List PId := (List.range c).flatMap fun (i : Nat) => (List.range (runOf m (i : Int) (has i) 61).length).map fun (j : Nat) => ((i : Int), has i + 1 + (j : Int))
theorem readyTo_succ (m : List (PId × MOp)) (has : Nat → Int) (c : Nat) : readyTo m has (c + 1) = readyTo m has c ++ runOf m c (has c) 61 := by
  unfold readyTo
  rw [List.range_succ, List.flatMap_append]
  simp
theorem goneTo_succ (m : List (PId × MOp)) (has : Nat → Int) (c : Nat) : goneTo m has (c + 1) = goneTo m has c ++ (List.range (runOf m (c : Int) (has c) 61).length).map fun (j : Nat) => ((c : Int), has c + 1 + (j : Int)) := by
  unfold goneTo
  rw [List.range_succ, List.flatMap_append]
  simp
theorem readyTo_len (m : List (PId × MOp)) (has : Nat → Int) : ∀ c, (readyTo m has c).length ≤ c * 61
  | 0 => by simp [readyTo]
  | c + 1 => by
    have h1 := readyTo_len m has c
    have h2 := run_le m (c : Int) 61 (has c)
    rw [readyTo_succ, List.length_append, Nat.add_mul]
    omega
theorem gone_copy {m : List (PId × MOp)} {has : Nat → Int} {c : Nat} {x : PId} (h : x ∈ goneTo m has c) : x.1 < c := by
  unfold goneTo at h
  obtain ⟨i, hi, hx⟩ := List.mem_flatMap.1 h
  obtain ⟨j, _, rfl⟩ := List.mem_map.1 hx
  have := List.mem_range.1 hi
  simp only
  omega

/-- A map without some keys. -/
structure CutOf (m : List (PId × MOp)) (gone : List PId) (m' : List (PId × MOp)) : Prop where
  nd : (m'.map (·.1)).Nodup
  sub : ∀ p ∈ m', p ∈ m
  look : ∀ x, x ∉ gone → lookI x m' = lookI x m
  gone : ∀ x ∈ gone, lookI x m' = none
theorem cut_sub {κ ν : Type} [DecidableEq κ] (x : κ) : ∀ m : List (κ × ν), (cutI x m).Sublist m
  | [] => .slnil
  | p :: m => by
    unfold cutI
    split
    · exact List.sublist_cons_self _ _
    · exact (cut_sub x m).cons_cons p
theorem look_cons {κ ν : Type} [DecidableEq κ] (x : κ) (p : κ × ν) (m : List (κ × ν)) : lookI x (p :: m) = if x = p.1 then some p.2 else lookI x m := by
  unfold lookI
  rw [List.find?_cons]
  by_cases h : x = p.1 <;> simp [h]
theorem look_cut {κ ν : Type} [DecidableEq κ] {x y : κ} (h : x ≠ y) : ∀ m : List (κ × ν), lookI x (cutI y m) = lookI x m
  | [] => rfl
  | p :: m => by
    unfold cutI
    split
    · rename_i e
      rw [look_cons, if_neg (fun e' => h (e'.trans e.symm))]
    · rw [look_cons, look_cons, look_cut h m]
theorem look_cut_self {κ ν : Type} [DecidableEq κ] {x : κ} : ∀ {m : List (κ × ν)}, (m.map (·.1)).Nodup → lookI x (cutI x m) = none
  | [], _ => rfl
  | p :: m, hn => by
    simp only [List.map_cons, List.nodup_cons] at hn
    unfold cutI
    split
    · rename_i e
      exact look_none (e ▸ hn.1)
    · rename_i e
      rw [look_cons, if_neg e]
      exact look_cut_self hn.2
theorem CutOf.cut {m m' : List (PId × MOp)} {gone : List PId} (h : CutOf m gone m') (x : PId) : CutOf m (gone ++ [x]) (cutI x m') := by
  have hs := cut_sub x m'
  refine ⟨(hs.map _).nodup h.nd, fun p hp => h.sub p (hs.subset hp), fun y hy => ?_, fun y hy => ?_⟩
  · have hyx : y ≠ x := fun e => hy (by simp [e])
    rw [look_cut hyx, h.look y fun hg => hy (List.mem_append_left _ hg)]
  · by_cases e : y = x
    · subst e; exact look_cut_self h.nd
    · rw [look_cut e]
      exact h.gone y (by simpa [e] using hy)

section
/-- Others wait. -/
theorem RepM.earlyTo {w w' : World} {rb : Nat} {F I : Nat → Prop} {N sp c : Nat} {gt : Int} {has : Nat → Int} {ops : List MOp} {early : List (PId × MOp)} {q : RQ} (h : RepM w rb F I N sp c gt has ops early q) {early' : List (PId × MOp)} (ht : Turned (fun k => k = q.bE) w w') (hm : ∃ es clk, isMap idV mopV w' q.bE early' es clk) (hc : ∀ p ∈ early', isChgI w I (.iface p.2.t p.2.v) p.2.op.chg) : RepM w' rb F I N sp c gt has ops early' q := by
  have hk : ∀ k, F k → k ≠ q.bE → w'.heap[k]? = w.heap[k]? := fun k hF n1 => ht.other k (h.lt k hF) n1
  have hi : ∀ k, I k → w'.heap[k]? = w.heap[k]? := fun k hI => ht.other k (h.iI k hI) fun e => h.nI k hI (e ▸ h.fE)
  obtain ⟨es, clk, he⟩ := h.emap
  obtain ⟨es2, clk2, hn⟩ := h.newest
  have hcell : ∀ (k : Nat) (c : Array Value) (t : TypeId) (f : Nat × Nat), w.heap[k]? = some (.cells c t f) → k ≠ q.bE := fun k c t f hk e => by
    rw [e, he.blk] at hk; cases hk
  refine ⟨by rw [hk _ h.fr (hcell _ _ _ _ h.blk)]; exact h.blk, by rw [hk _ h.fg (hcell _ _ _ _ h.heard)]; exact h.heard, h.hist.keepF ht.size (fun k hF => hk k (h.fH k hF) (fun e => h.nE (e ▸ hF))) hi, h.cnt, h.asc, hm, fun p hp => (hc p hp).keepI hi (fun _ x => x), ⟨es2, clk2, hn.blockK (hk _ h.fN (Ne.symm h.nEN))⟩, fun p hp => ?_, h.hc, h.hN, h.fr, h.fg, h.fE, h.fN, h.fH, h.nr, h.ng, h.nE, h.nN, h.nEN, fun k hF => Nat.lt_of_lt_of_le (h.lt k hF) ht.size, h.nI⟩
  obtain ⟨⟨h3, h4⟩, h5, h6, h7⟩ := h.nrow p hp
  exact ⟨⟨h3, by rw [hk _ h6 (hcell _ _ _ _ h4)]; exact h4⟩, h5, h6, h7⟩
end

theorem Turned.over {S : Nat → Prop} {w W W' : World} (h : Turned S w W) (k : Turned (fun k => w.heap.size ≤ k) W W') : Turned S w W' :=
  ⟨k.os.trans h.os, k.tape.trans h.tape, k.output.trans h.output, Nat.le_trans h.size k.size, fun i hi hs => (k.other i (Nat.lt_of_lt_of_le hi h.size) (by omega)).trans (h.other i hi hs)⟩
theorem Turned.grownT {S : Nat → Prop} {w W W' : World} {row : Option Nat} (h : Turned S w W) (hg : W.grownBy W' row) (hr : ∀ k, row = some k → w.heap.size ≤ k) : Turned S w W' :=
  h.over (Turned.of_grown hg hr)
def lenV : Value → Nat
  | .slice _ n _ => n
  | _ => 0
theorem zero_oper (W : World) : (zeroValue 210).run Tryz.prog W = .ok (.agg #[.int .i64 0, .int .i64 0, .int .i64 0, .nilIface]) W := by kernel_rfl

set_option maxRecDepth 1000000 in
set_option maxHeartbeats 4000000 in
/-- READY: those that no longer wait, one copy's behind another's. -/
theorem ready_any {w : World} {rb : Nat} {F I : Nat → Prop} {N sp c : Nat} {gt : Int} {has : Nat → Int} {ops : List MOp} {early : List (PId × MOp)} {q : RQ} (h : RepM w rb F I N sp c gt has ops early q) (hnd : (early.map (·.1)).Nodup) (hk60 : ∀ p ∈ early, p.1.2 ≤ 60) (hhas : ∀ i, i < N → 0 ≤ has i ∧ has i ≤ 1000) :
    Calls Tryz.prog 310 #[.pointer (some ⟨rb, 0, none⟩)] w fun e w' => ∃ v early', e = .returned v ∧ ownMOps w.heap.size w' v (readyTo early has N) ∧ RepM w' rb F I N sp c gt has ops early' q ∧ CutOf early (goneTo early has N) early' ∧ Turned (fun k => k = q.bE) w w' := by
  have hN4 := h.hN
  obtain ⟨c0, c1, c2, c3, c4, c5⟩ := h.cells
  clear c0 c1 c3 c4 c5
  have HH := hid h; clear h
  have HK := hid (And.intro hnd (And.intro hk60 hhas)); clear hnd hk60 hhas
  go_enter Tryz.func310, Tryz.ntmps310
  go_wp2_with fail
  go_loopw [3, 14] (fun v i wr => ∃ k early', k ≤ N ∧ i = .int .i64 (k : Nat) ∧ ownMOps w.heap.size wr v (readyTo early has k) ∧ RepM wr rb F I N sp c gt has ops early' q ∧ CutOf early (goneTo early has k) early' ∧ Turned (fun k => k = q.bE) w wr) (fun _ i _ => N - (intOf i).toNat)
  case atStart => exact ⟨0, early, Nat.zero_le _, rfl, (show ownMOps w.heap.size w (.slice none 0 0) [] from World.ownsRow_nil _ _ _ _), HH.out, ⟨HK.out.1, fun _ x => x, fun _ _ => rfl, fun x hx => by cases hx⟩, Turned.of_below (Below.refl _ _)⟩
  case round =>
    obtain ⟨k, early1, hk, rfl, hown, hM, hC, hT⟩ := hrel
    by_cases hlt : k < N
    · have c6 := hM.heardAt hlt
      obtain ⟨hh0, hh1⟩ := HK.out.2.2 k hlt
      have hk0 : (0 : Int) ≤ (k : Int) := Int.natCast_nonneg _
      have hk1 : (k : Int) < (N : Int) := by omega
      have hwr1 : IntKind.i64.wrap (has k + 1) = has k + 1 := Go.IntWalk.i64_in _ (by omega)
      have HR := hid (And.intro hown (And.intro hM (And.intro hC hT))); clear hown hM hC hT
      obtain ⟨wo, hwo⟩ : ∃ wo, wo = wr := ⟨_, rfl⟩
      subst hwo
      go_wp2_with fail
      have hrun := run_lt HK.out.2.1 (c := (k : Int)) hh0
      obtain ⟨run, hrn⟩ : ∃ run, run = runOf early (k : Int) (has k) 61 := ⟨_, rfl⟩
      rw [← hrn] at hrun
      have HRN := hid hrn
      have HPL := hid (readyTo_len early has k)
      have hpl : (readyTo early has k).length ≤ 200 := by have := HPL.out; omega
      obtain ⟨pre, hpre⟩ : ∃ pre, pre = readyTo early has k := ⟨_, rfl⟩
      obtain ⟨gn, hgn⟩ : ∃ gn, gn = goneTo early has k := ⟨_, rfl⟩
      rw [← hpre] at hpl HR
      rw [← hgn] at HR
      have HPG := hid (And.intro hpre (And.intro hgn fun x (hx : x ∈ gn) => gone_copy (hgn ▸ hx)))
      clear hrn hpre hgn c6
      have HB0 := hid (show Below wo.heap.size wo (wo.alloc (.cells #[.int .i64 k, .int .i64 (has k + 1)] 371)) from (Below.refl _ wo).alloc (Nat.le_refl _) _)
      go_loopw [3, 6] (fun v b wi => ∃ j early2 Bx, b = .pointer (some ⟨Bx, 0, none⟩) ∧ w.heap.size ≤ Bx ∧ wi.heap[Bx]? = some (.cells #[.int .i64 k, .int .i64 (has k + 1 + (j : Nat))] 371 (0, 0)) ∧ j ≤ run.length ∧ ownMOps w.heap.size wi v (pre ++ run.take j) ∧ RepM wi rb F I N sp c gt has ops early2 q ∧ CutOf early (gn ++ (List.range j).map fun (i : Nat) => ((k : Int), has k + 1 + (i : Int))) early2 ∧ Turned (fun k => k = q.bE) w wi) (fun v _ _ => 1000 - lenV v)
      case atStart =>
        refine ⟨0, early1, wo.heap.size, rfl, HR.out.2.2.2.size, ?_, Nat.zero_le _, ?_, HR.out.2.1.keep HB0.out, ?_, HR.out.2.2.2.trans (Turned.of_below HB0.out)⟩
        · have := blk_new wo (.cells #[.int .i64 k, .int .i64 (has k + 1)] 371)
          simpa using this
        · rw [List.take_zero, List.append_nil]; exact owns_keep HR.out.1 HB0.out
        · rw [List.range_zero, List.map_nil, List.append_nil]; exact HR.out.2.2.1
      case round =>
        obtain ⟨j, early2, Bx, rfl, hBx, hbx, hjl, hown2, hM2, hC2, hT2⟩ := hrel
        have HI := hid (And.intro hown2 (And.intro hM2 (And.intro hC2 hT2)))
        obtain ⟨d0, d1, d2, d3, d4, d5⟩ := hM2.cells
        clear d0 d1 d2 d3 d5
        obtain ⟨b0, b1⟩ := blk2 hbx
        obtain ⟨es, clk, hmap⟩ := hM2.emap
        have hlook := hC2.look ((k : Int), has k + 1 + (j : Int)) (fun hx => by
          rcases List.mem_append.1 hx with hx | hx
          · have := HPG.out.2.2 _ hx
            simp only at this
            omega
          · obtain ⟨i, hi, he⟩ := List.mem_map.1 hx
            have := List.mem_range.1 hi
            injection he with _ he
            omega)
        have hbl := blk_lt hbx
        have hne4 : wr.heap.size ≠ q.bE := by have := hM2.lt _ hM2.fE; omega
        have hneB : Bx ≠ q.bE := fun e => by have := HH.out.lt _ HH.out.fE; omega
        obtain ⟨av, cv, rfl, hlv, hcv, hfv⟩ := owns_form hown2
        clear hfv
        unfold maxLen at hcv
        have hsz2 := hT2.size
        clear hown2 hM2 hC2 hT2
        by_cases hj : j < run.length
        · have hg := run_get early (k : Int) 61 (has k) j (by rw [← HRN.out]; exact hj)
          obtain ⟨o, ho⟩ : ∃ o, o = run[j] := ⟨_, rfl⟩
          have hg' : lookI ((k : Int), has k + 1 + (j : Int)) early2 = some o := by
            rw [hlook, hg, ho]
            congr 1
            exact List.getElem_of_eq HRN.out.symm _
          have HO := hid (show pre ++ run.take (j + 1) = (pre ++ run.take j) ++ [o] by rw [List.take_succ_eq_append_getElem hj, ← ho, List.append_assoc]); clear ho hg hlook
          have hln : (pre ++ run.take j).length ≤ 300 := by rw [List.length_append, List.length_take]; omega
          have HLN := hid (show (pre ++ run.take j).length = pre.length + j by rw [List.length_append, List.length_take]; omega)
          obtain ⟨acc, hacc⟩ : ∃ acc, acc = pre ++ run.take j := ⟨_, rfl⟩
          rw [← hacc] at HO HI hln hlv HLN ⊢
          clear hacc
          have hLK : ∀ W, Below wr.heap.size wr W → (Instr.lookup 106 (.map (some q.bE)) (.agg #[.int .i64 k, .int .i64 (has k + 1 + (j : Int))]) true).run Tryz.prog W = .ok (.tuple #[.agg #[.int .i64 o.op.id.1, .int .i64 o.op.id.2, .int .i64 o.op.nth, .iface o.t o.v], .bool true]) W := fun W hb => by
            have := run_lookI placeKey (hmap.keep hb) Tryz.underlying106 (zero_oper W) ((k : Int), has k + 1 + (j : Int)) true
            rw [hg'] at this
            exact this
          have l1 := hLK wr (Below.refl _ _)
          have l2 := hLK wr.drew (Below.refl _ _).drew
          have l3 := hLK _ ((Below.refl wr.heap.size wr).alloc (Nat.le_refl _) (.cells #[.int .i64 0, .int .i64 0, .int .i64 0, .nilIface] 210))
          have l4 := hLK _ ((Below.refl wr.heap.size wr).alloc (Nat.le_refl _) (.cells #[.int .i64 0, .int .i64 0, .int .i64 0, .nilIface] 210)).drew
          have HLK := hid hLK; clear hLK
          have HMP := hid hmap; clear hmap
          have HBX := hid hbx; clear hbx
          have hrl := World.block_lt_of_cell? wr _ d4
          simp only at hrl
          have hn4 := World.new_ne wr ⟨rb, 4, none⟩ d4
          have hnb := World.new_ne wr ⟨Bx, 0, none⟩ b0
          have HB7 := hid (((Below.refl wr.heap.size wr).alloc (Nat.le_refl _) (.cells #[.int .i64 o.op.id.1, .int .i64 o.op.id.2, .int .i64 o.op.nth, .iface o.t o.v] 210)).drew.drew)
          obtain ⟨es4, hcut4, hm4⟩ := run_cutI placeKey (HMP.out.keep HB7.out) Tryz.underlying106 (ty := 0) (t2 := 371) ((k : Int), has k + 1 + (j : Int))
          simp only [idV] at hcut4
          have HT9 := hid (show Turned (fun k => k = q.bE) _ (putObj (wr.alloc (.cells #[.int .i64 o.op.id.1, .int .i64 o.op.id.2, .int .i64 o.op.nth, .iface o.t o.v] 210)).drew.drew q.bE (.map es4 clk)) from Turned.put _ rfl)
          have HM4 := hid hm4
          clear hm4
          obtain ⟨w9, hw9⟩ : ∃ w9, putObj (wr.alloc (.cells #[.int .i64 o.op.id.1, .int .i64 o.op.id.2, .int .i64 o.op.nth, .iface o.t o.v] 210)).drew.drew q.bE (.map es4 clk) = w9 := ⟨_, rfl⟩
          have hz9 : w9.heap.size = wr.heap.size + 1 := by rw [← hw9]; simp [putObj]
          rw [hw9] at hcut4 HM4 HT9
          have HZ9 := hid hz9
          clear hw9 hz9
          obtain ⟨p0, p1, p2, p3⟩ := boxed4 wr (.int .i64 o.op.id.1) (.int .i64 o.op.id.2) (.int .i64 o.op.nth) (.iface o.t o.v) 210
          replace p0 := HT9.out.cell hne4 p0
          replace p1 := HT9.out.cell hne4 p1
          replace p2 := HT9.out.cell hne4 p2
          replace p3 := HT9.out.cell hne4 p3
          have HX9 := hid ((HT9.out.other Bx (Nat.lt_of_lt_of_le hbl HB7.out.size) hneB).trans (blk_keep HBX.out HB7.out))
          have d4' := keep HB7.out d4
          have b0' := keep HB7.out b0
          have b1' := keep HB7.out b1
          have HWN := hid (show ownMOps w.heap.size w9 (.slice av acc.length cv) acc from row_blk (owns_keep HI.out.1 HB7.out) fun g hg => HT9.out.other g (by obtain ⟨cur, hc⟩ := own_type (owns_keep HI.out.1 HB7.out) hg; exact blk_lt hc) (fun e => by
            have h1 := (World.ownsRow.lt HI.out.1 _ hg).1
            have := HH.out.lt _ HH.out.fE
            omega))
          have HBA := hid ((Below.refl w9.heap.size w9).alloc (Nat.le_refl _) (.cells #[.int .i64 o.op.id.1, .int .i64 o.op.id.2, .int .i64 o.op.nth, .iface o.t o.v] 210))
          have HCN := hid (cells_mop (x := o) (boxed4 w9 (.int .i64 o.op.id.1) (.int .i64 o.op.id.2) (.int .i64 o.op.nth) (.iface o.t o.v) 210).1 (boxed4 w9 (.int .i64 o.op.id.1) (.int .i64 o.op.id.2) (.int .i64 o.op.nth) (.iface o.t o.v) 210).2.1 (boxed4 w9 (.int .i64 o.op.id.1) (.int .i64 o.op.id.2) (.int .i64 o.op.nth) (.iface o.t o.v) 210).2.2.1 (boxed4 w9 (.int .i64 o.op.id.1) (.int .i64 o.op.id.2) (.int .i64 o.op.nth) (.iface o.t o.v) 210).2.2.2)
          have HNB := hid (show (Value.slice av acc.length cv).ownBlock ≠ some Bx from fun e => by
            obtain ⟨cur, hc⟩ := own_type HWN.out e
            exact absurd (cells_type hc HX9.out) (by decide))
          have HXA := hid (blk_keep HX9.out HBA.out)
          have HOB := hid (fun k (hk : (Value.slice av acc.length cv).ownBlock = some k) => (World.ownsRow.lt HI.out.1 k hk).1)
          go_wp2_with fail
          go_region
          all_goals go_wp2_with fail
          all_goals clear l1 l2 l3 l4 d4 b0 b1
          all_goals go_region
          all_goals clear d4' b0' b1' hcut4
          all_goals go_wp2_with (first
            | (at_builtin; refine app_one_at mopC 4 40 202 210 (.agg #[.int .i64 0, .int .i64 0, .int .i64 0, .nilIface]) (by kernel_rfl) Tryz.underlying202 rfl (by omega) (fun _ => rfl) rfl (.tmp 43) (.tmp 45) rfl w.heap.size (.slice av acc.length cv) acc rfl (owns_keep HWN.out HBA.out) w9.heap.size 1 o rfl HCN.out (wf_mop o) (by omega) (by unfold maxLen; omega) (by have := HZ9.out; simp; omega) ?_; intro v' w10 ho10 hg10 hn10; have HO10 := hid ho10; have HG10 := hid hg10; obtain ⟨q0, q1⟩ := blk2 (((Turned.of_grown (S := fun k => (Value.slice av acc.length cv).ownBlock = some k) hg10 (fun k hk => hk)).other Bx (blk_lt HXA.out) HNB.out).trans HXA.out); clear ho10 hg10 hn10 p0 p1 p2 p3)
            | fail)
          all_goals go_roundw
          case rel | rel =>
            have hT10 : Turned (fun k => k = q.bE) w w10 := (HI.out.2.2.2.trans ((Turned.of_below HB7.out).trans (HT9.out.trans (Turned.of_below HBA.out)))).grownT HG10.out HOB.out
            have hR9 : RepM w9 rb F I N sp c gt has ops (cutI ((k : Int), has k + 1 + (j : Int)) early2) q := (HI.out.2.1.keep HB7.out).earlyTo HT9.out ⟨_, _, HM4.out⟩ fun p hp => (HI.out.2.1.keep HB7.out).echg p ((cut_sub _ _).subset hp)
            have hR9A := hR9.keep HBA.out
            have hTg := Turned.of_grown (S := fun k => (Value.slice av acc.length cv).ownBlock = some k) HG10.out (fun k hk => hk)
            have hR10 := hR9A.keepF hTg.size (fun k hF => hTg.other k (hR9A.lt k hF) fun e => by have := HOB.out k e; have := HH.out.lt k hF; omega) (fun k hF => hTg.other k (hR9A.iI k hF) fun e => by have := HOB.out k e; have := HH.out.iI k hF; omega)
            have hbel : Below w10.heap.size w10 (w10.alloc (.cells #[.int .i64 k, .int .i64 (has k + 1 + (j : Int) + 1)] 371)) := (Below.refl _ w10).alloc (Nat.le_refl _) _
            refine ⟨j + 1, _, w10.heap.size, rfl, hT10.size, ?_, by omega, ?_, hR10.keep hbel, ?_, hT10.trans (Turned.of_below hbel)⟩
            · have := blk_new w10 (.cells #[.int .i64 k, .int .i64 (has k + 1 + (j : Int) + 1)] 371)
              rw [this, show has k + 1 + (j : Int) + 1 = has k + 1 + ((j + 1 : Nat) : Int) by omega]
            · rw [HO.out]
              refine owns_keep ?_ hbel
              have := HO10.out
              show w10.ownsRow w.heap.size 210 4 v' (acc ++ [o]).length ((acc ++ [o]).flatMap mopC)
              rwa [List.length_append]
            · have := HI.out.2.2.1.cut ((k : Int), has k + 1 + (j : Int))
              rwa [List.append_assoc, ← List.map_singleton (f := fun (i : Nat) => ((k : Int), has k + 1 + (i : Int))), ← List.map_append, ← List.range_succ] at this
          case measure | measure =>
            obtain ⟨a', c', rfl, _, _, _⟩ := owns_form HO10.out
            simp only [lenV]
            omega
        · have hje : j = run.length := by omega
          have hg := run_end early (k : Int) 61 (has k) (by rw [← HRN.out]; exact hrun)
          rw [← HRN.out, ← hje] at hg
          rw [hg] at hlook
          have hLK : ∀ W, Below wr.heap.size wr W → (Instr.lookup 106 (.map (some q.bE)) (.agg #[.int .i64 k, .int .i64 (has k + 1 + (j : Int))]) true).run Tryz.prog W = .ok (.tuple #[.agg #[.int .i64 0, .int .i64 0, .int .i64 0, .nilIface], .bool false]) W := fun W hb => by
            have := run_lookI placeKey (hmap.keep hb) Tryz.underlying106 (zero_oper W) ((k : Int), has k + 1 + (j : Int)) true
            rw [hlook] at this
            exact this
          have l1 := hLK wr (Below.refl _ _)
          have l2 := hLK wr.drew (Below.refl _ _).drew
          have l3 := hLK _ ((Below.refl wr.heap.size wr).alloc (Nat.le_refl _) (.cells #[.int .i64 0, .int .i64 0, .int .i64 0, .nilIface] 210))
          have l4 := hLK _ ((Below.refl wr.heap.size wr).alloc (Nat.le_refl _) (.cells #[.int .i64 0, .int .i64 0, .int .i64 0, .nilIface] 210)).drew
          have HLK := hid hLK; clear hLK hlook
          have HMP := hid hmap; clear hmap
          have HBX := hid hbx; clear hbx
          have hrl := World.block_lt_of_cell? wr _ d4
          simp only at hrl
          have hn4 := World.new_ne wr ⟨rb, 4, none⟩ d4
          have hnb := World.new_ne wr ⟨Bx, 0, none⟩ b0
          have HRT := hid (show pre ++ run.take j = readyTo early has (k + 1) by rw [readyTo_succ, ← HPG.out.1, ← HRN.out, hje, List.take_length])
          have HGT := hid (show gn ++ (List.range j).map (fun (i : Nat) => ((k : Int), has k + 1 + (i : Int))) = goneTo early has (k + 1) by rw [goneTo_succ, ← HPG.out.2.1, ← HRN.out, hje])
          clear hje hj hg
          go_wp2_with fail
          go_region
          all_goals go_wp2_with fail
          all_goals
            have hbel : Below wr.heap.size wr (wr.alloc (.cells #[.int .i64 0, .int .i64 0, .int .i64 0, .nilIface] 210)).drew := ((Below.refl wr.heap.size wr).alloc (Nat.le_refl _) _).drew
            refine ⟨⟨k + 1, early2, by omega, by go_num, ?_, HI.out.2.1.keep hbel, ?_, HI.out.2.2.2.trans (Turned.of_below hbel)⟩, by simp [intOf]; omega⟩
            · have h1 := owns_keep HI.out.1 hbel
              rw [← HRT.out]
              rw [show (pre ++ run.take j).length = pre.length + j by rw [List.length_append, List.length_take]; omega] at h1
              show World.ownsRow _ _ _ _ _ (pre ++ run.take j).length _
              rw [show (pre ++ run.take j).length = pre.length + j by rw [List.length_append, List.length_take]; omega]
              exact h1
            · rw [← HGT.out]
              exact HI.out.2.2.1
    · have hke : k = N := by omega
      have HX := hid (And.intro hown (And.intro hM (And.intro hC (And.intro hT hke))))
      clear hown hM hC hT hke
      go_wp2_with fail
      go_ret
      obtain ⟨h1, h2, h3, h4, rfl⟩ := HX.out
      exact ⟨_, early1, rfl, h1, h2, h3, h4⟩

end Go.Proofs.YtnkpogjiiohapaaGreatDoor

/-! GSortB: slices.SortFunc at operations: by their copies, then by their places among those. -/
namespace Go.Proofs.YtnkpogjiiohapaaGreatDoor
open Go.RowKit Go.Sort Go.Shelf
attribute [local go_sem ↓] Go.wp_at_zero Go.wp_at_succ

def plOf (x : MOp) : PId := (x.op.id.2, x.op.nth)
def cmpP (x y : MOp) : Int := cmpI (plOf x) (plOf y)
theorem swoP : SWO (ltOf cmpP) := ⟨fun x => swoI.1 (plOf x), fun x y z => swoI.2 (plOf x) (plOf y) (plOf z), fun x y z => swoI.3 (plOf x) (plOf y) (plOf z)⟩

set_option maxRecDepth 1000000 in
set_option maxHeartbeats 2000000 in
theorem byCopy_lays (x y : MOp) (w : World) :
    Calls Tryz.prog 282 #[.agg #[.int .i64 x.op.id.1, .int .i64 x.op.id.2, .int .i64 x.op.nth, .iface x.t x.v], .agg #[.int .i64 y.op.id.1, .int .i64 y.op.id.2, .int .i64 y.op.nth, .iface y.t y.v]] w fun e w' => e = .returned (.int .i64 (cmpP x y)) ∧ ∃ q os', w' = grow (w.drewN q) os' := by
  go_enter Tryz.func282, Tryz.ntmps282
  go_wp2_with fail
  go_region_held3 (fun W => W.cell? ⟨w.heap.size, 1, none⟩ = some (.int .i64 x.op.id.2) ∧ W.cell? ⟨w.heap.size, 2, none⟩ = some (.int .i64 x.op.nth) ∧ W.cell? ⟨w.heap.size + 1, 1, none⟩ = some (.int .i64 y.op.id.2) ∧ W.cell? ⟨w.heap.size + 1, 2, none⟩ = some (.int .i64 y.op.nth)) (go_keep)
    (first
      | (go_at_call 166; refine (cmpCompare_q _ _ _).mono ?_; rintro e w' ⟨rfl, rfl⟩)
      | (go_at_call 165; refine (cmpOr_q (g := w.heap.size + 2) (a := cmpZ x.op.id.2 y.op.id.2) (b := cmpZ x.op.nth y.op.nth) ?_ ?_).mono ?_; (exact (cells2_new _ _ _ _ _ _).1); (exact (cells2_new _ _ _ _ _ _).2); rintro e w' ⟨rfl, rfl⟩))
  all_goals go_wp2
  all_goals go_ret
  all_goals exact ⟨rfl, 1, _, grown3 _ _ _ _⟩

theorem enters_byCopy (args : Array Value) (w : World) : (callFunc 282 args).run Tryz.prog w = .ok (.enter 282 args) w :=
  enters_of Tryz.func282 (by kernel_rfl) rfl args w

/-- By copies, then by places. -/
def AscP (l : List MOp) : Prop := l.Pairwise fun x y => ltI (plOf x) (plOf y) = true
theorem ascP_of {l : List MOp} (hn : (l.map plOf).Nodup) (hs : ∀ i j (hi : i < l.length) (hj : j < l.length), i < j → ltI (plOf l[j]) (plOf l[i]) = false) : AscP l := by
  unfold AscP
  rw [List.pairwise_iff_getElem]
  intro i j hi hj hij
  cases h : ltI (plOf l[i]) (plOf l[j]) with
  | true => rfl
  | false =>
    exfalso
    have := pid_eq h (hs i j hi hj hij)
    have hp := List.pairwise_iff_getElem.1 hn i j (by simpa using hi) (by simpa using hj) hij
    simp only [List.getElem_map] at hp
    exact hp this

set_option maxRecDepth 1000000 in
set_option maxHeartbeats 400000 in
theorem insertionO (a : Option Addr) (c : Nat) (f : Value) (w : World) : Calls Tryz.prog 286 #[.slice a 0 c, .int .i64 0, .int .i64 0, f] w fun e w' => e = .returned (.tuple #[]) ∧ Below w.heap.size w w' := by
  go_enter Tryz.func286, Tryz.ntmps286
  go_wp2
  refine wp_loop_rounds 1 ?_
  rw [rounds_succ]
  go_wp2
  go_end0
  exact ⟨rfl, Below.refl _ _⟩

set_option maxRecDepth 1000000 in
set_option maxHeartbeats 400000 in
theorem pdqO (a : Option Addr) (c : Nat) (lim : Int) (f : Value) (w : World) : Calls Tryz.prog 285 #[.slice a 0 c, .int .i64 0, .int .i64 0, .int .i64 lim, f] w fun e w' => e = .returned (.tuple #[]) ∧ Below w.heap.size w w' := by
  have HI := hid (insertionO a c f w)
  go_enter Tryz.func285, Tryz.ntmps285
  go_wp2_with fail
  refine wp_loop_rounds 1 ?_
  rw [rounds_succ]
  go_wp2_with fail
  refine HI.out.mono ?_
  rintro e w1 ⟨rfl, hb⟩
  go_wp2
  exact bodyPost_ret (v := .tuple #[]) (by simp [results, Tryz.results285, go_sem]) rfl ⟨rfl, hb⟩

set_option maxRecDepth 1000000 in
set_option maxHeartbeats 400000 in
theorem sortOps_none (a : Option Addr) (c : Nat) (f : Value) (w : World) : Calls Tryz.prog 281 #[.slice a 0 c, f] w fun e w' => e = .returned (.tuple #[]) ∧ Below w.heap.size w w' := by
  have HL := hid (bitsLen1 0 (by omega) w)
  have HP := hid (fun lim => pdqO a c lim f w)
  go_enter Tryz.func281, Tryz.ntmps281
  go_wp2_with fail
  refine HL.out.mono ?_
  rintro e w1 ⟨⟨lim, rfl⟩, rfl⟩
  go_wp2_with fail
  refine (HP.out lim).mono ?_
  rintro e w2 ⟨rfl, hb⟩
  go_wp2
  go_end0
  exact ⟨rfl, hb⟩

set_option maxHeartbeats 1000000 in
/-- SORTED, WHATEVER THEIR NUMBER. -/
theorem sortOps_q {B : Nat} {w : World} {u : Value} {l : List MOp} (h : ownMOps B w u l) (hn : (l.map plOf).Nodup) (hl : l.length ≤ 10000) :
    Calls Tryz.prog 281 #[u, .func (.func 282) #[] #[]] w fun e w' => e = .returned (.tuple #[]) ∧ ∃ l', l'.Perm l ∧ AscP l' ∧ ownMOps B w' u l' ∧ w.grownBy w' u.ownBlock := by
  by_cases h0 : l.length = 0
  · have : l = [] := List.eq_nil_of_length_eq_zero h0
    subst this
    obtain ⟨a, c, rfl, _, _, _⟩ := owns_form h
    refine (sortOps_none a c _ w).mono ?_
    rintro e w' ⟨rfl, hb⟩
    exact ⟨rfl, [], .refl _, List.Pairwise.nil, owns_keep h hb, ⟨hb.os, hb.tape, hb.output, hb.size, fun k hk _ => hb.block k hk⟩⟩
  · haveI : Inhabited MOp := ⟨⟨⟨(0, 0), 0, .inl false⟩, 0, .nilIface⟩⟩
    obtain ⟨a, c, rfl, hlc, hcm, hf⟩ := owns_form h
    obtain ⟨g, rfl⟩ := hf 0 (by omega)
    obtain ⟨hH, hgl⟩ := owns_holds mopC 4 (fun _ => rfl) h
    have hcon := AnyQ.slices_SortFunc Tryz.sortOps 4 Tryz.isAgg210 Tryz.sizeOf210 mopC (fun _ => rfl) (fun x v hv => by simp [mopC] at hv; rcases hv with rfl | rfl | rfl | rfl <;> rfl) cmpP swoP 282 #[] g 0 c l.toArray w enters_byCopy (fun m os dk _ x y => byCopy_lays x y _) hH hgl (by simp; omega)
    change Calls Tryz.prog 281 _ _ _ at hcon
    simp only [List.size_toArray] at hcon
    refine hcon.mono ?_
    rintro e w' ⟨rfl, d', n, os, hp, hs, rfl⟩
    obtain ⟨hsz, _, hpm⟩ := hp
    simp at hsz
    obtain ⟨h1, h2⟩ := sorted_owns mopC 4 (fun _ => rfl) h n d' hsz os
    have hperm : d'.toList.Perm l := by
      have e1 : (d'.extract 0 l.length).toList = d'.toList := by rw [← hsz]; simp
      have e2 : (l.toArray.extract 0 l.length).toList = l := by simp
      rwa [e1, e2] at hpm
    refine ⟨rfl, d'.toList, hperm, ascP_of ((hperm.map plOf).nodup_iff.2 hn) (fun i j hi hj hij => ?_), ?_, h2⟩
    · have := hs i j (Nat.zero_le _) hij (by simpa [hsz] using hj)
      rw [getElem!_pos d' j (by simpa using hj), getElem!_pos d' i (by simpa using hi)] at this
      simp only [Array.getElem_toList]
      exact this
    · unfold ownMOps
      rw [show d'.toList.length = l.length by simp [hsz]]
      exact h1

end Go.Proofs.YtnkpogjiiohapaaGreatDoor
