/- Our own text (ALawD). -/
import Derived.Deep.CutBlock
import Derived.Deep.DeepCutAuto
import Derived.Test.YtnkpogjiiohapaaGreatDoorA46
set_option linter.unusedSimpArgs false
set_option linter.unusedVariables false

/-! ALawD: quirekeep: Apart, where its room is laid. -/
namespace Go.Proofs.YtnkpogjiiohapaaGreatDoor
open Go.RowKit
attribute [local go_sem ↓] Go.wp_at_zero Go.wp_at_succ

/-- What the first copies tell. -/
def toldU (s : RoomS) (k : Nat) : List ByteArray := (List.range k).map fun c => textG (ROf (s.ops c)) 4 (0, 0)
def toldH (N : Nat) (s : RoomS) (k : Nat) : List (List Int) := (List.range k).map fun c => hasL N (s.has c)
theorem toldU_len (s : RoomS) (k : Nat) : (toldU s k).length = k := by simp [toldU]
theorem toldH_len (N : Nat) (s : RoomS) (k : Nat) : (toldH N s k).length = k := by simp [toldH]
theorem toldU_succ (s : RoomS) (k : Nat) : toldU s (k + 1) = toldU s k ++ [textG (ROf (s.ops k)) 4 (0, 0)] := by simp [toldU, List.range_succ]
theorem toldH_succ (N : Nat) (s : RoomS) (k : Nat) : toldH N s (k + 1) = toldH N s k ++ [hasL N (s.has k)] := by simp [toldH, List.range_succ]
def boxP (w : World) (b : Nat) (p : Stp) : Prop := w.heap[b]? = some (.cells #[.int .i64 p.k, .int .i64 p.c, .int .i64 p.d, .int .i64 p.a, .int .i64 p.n] 32 (0, 0))
/-- What is told by now. -/
structure TInv (B : Nat) (tb : Nat) (w : World) (r N sp : Nat) (ls : PId) (M : Nat → List MOp) (s : RoomS) (u h : Value) (k : Nat) (b : Nat) (p : Stp) (w0 : World) : Prop where
  i : ∃ Z hs, AInv B Z tb w r N sp ls M s u h (toldU s k) hs ∧ hs.map (·.2) = toldH N s k
  box : boxP w b p
  bel : Below B w0 w
/-- Between the two appends. -/
structure UInv (B : Nat) (tb : Nat) (w : World) (r N sp : Nat) (ls : PId) (M : Nat → List MOp) (s : RoomS) (u h : Value) (k : Nat) (b : Nat) (p : Stp) (w0 : World) (vl : Value) : Prop where
  i : ∃ Z hs, AInv B Z tb w r N sp ls M s u h (toldU s (k + 1)) hs ∧ hs.map (·.2) = toldH N s k ∧ ∀ g, vl.ownBlock = some g → Z g
  li : ownInts 0 w vl (hasL N (s.has k))
  box : boxP w b p
  bel : Below B w0 w
section
theorem hs_len {N : Nat} {s : RoomS} {k : Nat} {hs : List (Value × List Int)} (hm : hs.map (·.2) = toldH N s k) : hs.length = k := by rw [← List.length_map (f := (·.2)), hm, toldH_len]
theorem TInv.rowU {B tb : Nat} {w : World} {r N sp : Nat} {ls : PId} {M : Nat → List MOp} {s : RoomS} {u h : Value} {k b : Nat} {p : Stp} {w0 : World} (ht : TInv B tb w r N sp ls M s u h k b p w0) : w.ownsRow 0 9 1 u (toldU s k).length ((toldU s k).flatMap strC) := by
  obtain ⟨Z, hs, ha, hm⟩ := ht.i
  exact ha.u
theorem TInv.q {B tb : Nat} {w : World} {r N sp : Nat} {ls : PId} {M : Nat → List MOp} {s : RoomS} {u h : Value} {k b : Nat} {p : Stp} {w0 : World} (ht : TInv B tb w r N sp ls M s u h k b p w0) : ∃ Z, QInv Z tb w r N sp ls M s ∧ ∀ k, k < B → Z k := by
  obtain ⟨Z, hs, ha, hm⟩ := ht.i
  exact ⟨Z, ha.q, ha.z0⟩
theorem TInv.textAt {B tb : Nat} {w : World} {r N sp : Nat} {ls : PId} {M : Nat → List MOp} {s : RoomS} {u h : Value} {k b : Nat} {p : Stp} {w0 : World} (ht : TInv B tb w r N sp ls M s u h k b p w0) {W w4 : World} {v1 vl : Value} (hb : Below w.heap.size w W) (hv : ownInts w.heap.size W vl (hasL N (s.has k)))
    (ho : w4.ownsRow 0 9 1 v1 ((toldU s k).length + 1) ((toldU s k ++ [textG (ROf (s.ops k)) 4 (0, 0)]).flatMap strC)) (hg : W.grownBy w4 u.ownBlock) (hn : newOr W u v1) : UInv B tb w4 r N sp ls M s v1 h k b p w0 vl := by
  obtain ⟨Z, hs, ha, hm⟩ := ht.i
  obtain ⟨⟨Z', ha', hz'⟩, hb', hT⟩ := ha.moreU hb ho hg hn
  have hlt := World.ownsRow.lt hv
  refine ⟨⟨Z', hs, by rw [toldU_succ]; exact ha', hm, fun g hg' => hz' g (hlt g hg').1 (Nat.lt_of_lt_of_le (hlt g hg').2 hg.size)⟩, hT.row (by decide) (owns_mono hv (Nat.zero_le _)), ?_, ht.bel.trans hb'⟩
  have h1 := blk_keep ht.box hb
  unfold boxP
  rw [hT b _ _ _ (by decide) h1]
  exact h1
theorem UInv.heardAt {B tb : Nat} {w : World} {r N sp : Nat} {ls : PId} {M : Nat → List MOp} {s : RoomS} {u h : Value} {k b : Nat} {p : Stp} {w0 : World} {vl : Value} (ht : UInv B tb w r N sp ls M s u h k b p w0 vl) {hs : List (Value × List Int)} {Z : Nat → Prop} (ha : AInv B Z tb w r N sp ls M s u h (toldU s (k + 1)) hs) (hm : hs.map (·.2) = toldH N s k) (hz : ∀ g, vl.ownBlock = some g → Z g) {W w4 : World} {v1 : Value} (hb : Below w.heap.size w W)
    (ho : w4.ownsRow 0 24 1 v1 (hs.length + 1) ((hs ++ [(vl, hasL N (s.has k))]).flatMap slI)) (hg : W.grownBy w4 h.ownBlock) (hn : newOr W h v1) : TInv B tb w4 r N sp ls M s u v1 (k + 1) b p w0 := by
  obtain ⟨⟨Z', ha'⟩, hb', hT⟩ := ha.moreH hb (owns_keep ht.li hb) hz ho hg hn
  refine ⟨⟨Z', _, ha', by rw [List.map_append, hm, toldH_succ]; rfl⟩, ?_, ht.bel.trans hb'⟩
  have h1 := blk_keep ht.box hb
  unfold boxP
  rw [hT b _ _ _ (by decide) h1]
  exact h1
end
theorem TInv.keep {B tb : Nat} {w : World} {r N sp : Nat} {ls : PId} {M : Nat → List MOp} {s : RoomS} {u h : Value} {k b : Nat} {p : Stp} {w0 : World} (ht : TInv B tb w r N sp ls M s u h k b p w0) {w' : World} (hb : Below w.heap.size w w') : TInv B tb w' r N sp ls M s u h k b p w0 := by
  obtain ⟨Z, hs, ha, hm⟩ := ht.i
  have hB : B ≤ w.heap.size := by
    rcases Nat.eq_zero_or_pos B with h0 | h0
    · omega
    · have := ha.q.i.zlt (B - 1) (ha.z0 (B - 1) (by omega))
      omega
  exact ⟨⟨Z, hs, ha.keep hb, hm⟩, blk_keep ht.box hb, ht.bel.trans (hb.mono hB)⟩
theorem TInv.forms {B tb : Nat} {w : World} {r N sp : Nat} {ls : PId} {M : Nat → List MOp} {s : RoomS} {u h : Value} {k b : Nat} {p : Stp} {w0 : World} (ht : TInv B tb w r N sp ls M s u h k b p w0) : ∃ ua uc ha hc, u = .slice ua k uc ∧ h = .slice ha k hc ∧ k ≤ uc ∧ uc ≤ maxLen ∧ k ≤ hc ∧ hc ≤ maxLen ∧ (0 < k → (∃ g, ua = some ⟨g, 0, none⟩) ∧ ∃ g, ha = some ⟨g, 0, none⟩) := by
  obtain ⟨Z, hs, ha, hm⟩ := ht.i
  obtain ⟨a1, c1, e1, l1, m1, f1⟩ := owns_form ha.u
  obtain ⟨a2, c2, e2, l2, m2, f2⟩ := owns_form ha.h
  rw [toldU_len] at e1 l1 f1
  rw [hs_len hm] at e2 l2 f2
  exact ⟨a1, c1, a2, c2, e1, e2, l1, m1, l2, m2, fun h0 => ⟨f1 0 h0, f2 0 h0⟩⟩
/-- Behind a step. -/
def DInv (B tb : Nat) (w : World) (r N sp : Nat) (ls : PId) (M : Nat → List MOp) (s : RoomS) (u h : Value) (w0 : World) (ch : Option Nat) : Prop := ∃ Z M' s' hs, Went N M s ch M' s' ∧ AInv B Z tb w r N sp ls M' s' u h (toldU s N) hs ∧ hs.map (·.2) = toldH N s N ∧ Below B w0 w
theorem DInv.of {B tb : Nat} {w : World} {r N sp : Nat} {ls : PId} {M : Nat → List MOp} {s : RoomS} {u h : Value} {b : Nat} {p : Stp} {w0 : World} (ht : TInv B tb w r N sp ls M s u h N b p w0) {Z : Nat → Prop} {hs : List (Value × List Int)} (ha : AInv B Z tb w r N sp ls M s u h (toldU s N) hs) (hm : hs.map (·.2) = toldH N s N) {ch : Option Nat} {w' : World} (hst : Stepd Z tb r N sp ls M s ch w w') : DInv B tb w' r N sp ls M s u h w0 ch := by
  obtain ⟨⟨M', s', hw, ha'⟩, hb⟩ := ha.step hst
  exact ⟨Z, M', s', hs, hw, ha', hm, ht.bel.trans hb⟩
theorem rem5 (n : Int) : -9223372036854775808 ≤ n.tmod 5 ∧ n.tmod 5 < 9223372036854775808 := by
  have h1 := Int.tmod_lt_of_pos n (show (0 : Int) < 5 by omega)
  have h2 : -5 < n.tmod 5 := by
    by_cases h : 0 ≤ n
    · have := Int.tmod_nonneg 5 h
      omega
    · have h3 := Int.neg_tmod (-n) 5
      rw [Int.neg_neg] at h3
      have h4 := Int.tmod_lt_of_pos (-n) (show (0 : Int) < 5 by omega)
      omega
  omega
theorem told_at {N : Nat} {s : RoomS} {hs : List (Value × List Int)} (hm : hs.map (·.2) = toldH N s N) {j : Nat} (hj : j < N) (hl : j < hs.length) : hs[j].2 = hasL N (s.has j) := by
  have h1 : (hs.map (·.2))[j]? = (toldH N s N)[j]? := by rw [hm]
  rw [List.getElem?_map, List.getElem?_eq_getElem hl] at h1
  unfold toldH at h1
  rw [List.getElem?_map, List.getElem?_range hj] at h1
  simpa using h1
theorem toldU_at {N : Nat} {s : RoomS} {j : Nat} (hj : j < N) (hl : j < (toldU s N).length) : (toldU s N)[j] = textG (ROf (s.ops j)) 4 (0, 0) := by
  have h1 : (toldU s N)[j]? = some (textG (ROf (s.ops j)) 4 (0, 0)) := by
    unfold toldU
    rw [List.getElem?_map, List.getElem?_range hj]
    rfl
  rw [List.getElem?_eq_getElem hl] at h1
  exact Option.some.inj h1
theorem may_no {ch : Option Nat} {j : Nat} (h : ch ≠ some j) : ((j : Int) == mayI ch) = false := by
  cases ch with
  | none =>
    have : ¬ (j : Int) = -1 := by omega
    simp [mayI, this]
  | some k =>
    have : ¬ j = k := fun e => h (by rw [e])
    have : ¬ (j : Int) = (k : Int) := by omega
    simp [mayI, this]
theorem ownInts.one {B : Nat} {w : World} {v : Value} {l : List Int} (h : ownInts B w v l) : v.oneCell' = true := by
  obtain ⟨a, cap, rfl, _⟩ := owns_form h
  rfl

set_option maxRecDepth 1000000 in
set_option maxHeartbeats 8000000 in
theorem apartLaw_g {w : World} (hp : Pow w) (raw spc : Int) {a : Option Addr} {n ca : Nat} (hn : n ≤ 4000000000000) (hs : isSteps w a n) (hl : Calls Tryz.prog 14 #[.int .i64 raw, .int .i64 spc] w fun e w' => LaidD w e w') :
    Calls Tryz.prog 8 #[.int .i64 raw, .int .i64 spc, .slice a n ca] w fun e w' => e = .returned (.bool true) ∧ Below w.heap.size w w' := by
  have HL := hid hl; have HS := hid hs; have HPW := hid hp
  clear hl hs hp
  go_enter Tryz.func8, Tryz.ntmps8
  go_wp2_with fail
  refine HL.out.mono ?_
  rintro e w1 ⟨hb1, tb, r, N, sp, ls, rfl, h2, M0, s0', hq⟩
  have HB1 := hid hb1; have HQ1 := hid hq; clear hb1 hq
  have hN4 := HQ1.out.i.hN
  go_upto_block 0 with fail
  go_cut [8, 9] (fun ok i wc => ok = .bool true ∧ (∃ Z M s, QInv Z tb wc r N sp ls M s ∧ ∀ k, k < w.heap.size → Z k) ∧ Below w.heap.size w wc)
  case first =>
   as_aux_lemma =>
    go_wp2_with fail
    go_loopw [8, 9] (fun ok i wr => ∃ (k : Nat) (Z : Nat → Prop) (M : Nat → List MOp) (s : RoomS), k ≤ n ∧ k ≤ 80 ∧ ok = .bool true ∧ i = .int .i64 k ∧ QInv Z tb wr r N sp ls M s ∧ (∀ k, k < w.heap.size → Z k) ∧ Below w.heap.size w wr) (fun _ i _ => 80 - (intOf i).toNat)
    case atStart => exact ⟨0, _, M0, s0', Nat.zero_le _, Nat.zero_le _, rfl, rfl, HQ1.out, fun k hk => .inl hk, HB1.out⟩
    case round =>
      obtain ⟨k, Z, M, s, hkn, hk8, rfl, rfl, hq, hz, hbw⟩ := hrel
      have HQ := hid hq; have HZ := hid hz; have HB := hid hbw; clear hq hz hbw
      by_cases hlt : k < n ∧ k < 80
      · obtain ⟨hlt1, hlt2⟩ := hlt
        have hi1 : (k : Int) < (n : Int) := by omega
        have hi2 : (k : Int) < 80 := by omega
        have hk0 : (0 : Int) ≤ (k : Int) := Int.natCast_nonneg _
        obtain ⟨g, off, p, rfl, hpo, c0, c1, c2, c3, c4⟩ := HS.out k hlt1
        replace c0 := keep HB.out c0
        replace c1 := keep HB.out c1
        replace c2 := keep HB.out c2
        replace c3 := keep HB.out c3
        replace c4 := keep HB.out c4
        have HPO := hid hpo; clear hpo
        have hc := pickN_lt p.c (show 0 < N by omega)
        have hd := toN_lt p (show 0 < N by omega)
        have HLK := hid (fun W (hb : Below wr.heap.size wr W) => link_g (HQ.out.i.tab.keep hb) h2 hN4 p HPO.out)
        obtain ⟨bx, hbx⟩ : ∃ bx, bx = wr.heap.size := ⟨_, rfl⟩
        have HBX := hid (show Below wr.heap.size wr (wr.alloc (.cells #[.int .i64 p.k, .int .i64 p.c, .int .i64 p.d, .int .i64 p.a, .int .i64 p.n] 32)) from (Below.refl _ wr).alloc (Nat.le_refl _) _)
        have HX0 := hid (show boxP (wr.alloc (.cells #[.int .i64 p.k, .int .i64 p.c, .int .i64 p.d, .int .i64 p.a, .int .i64 p.n] 32)) wr.heap.size p from blk_new wr _)
        go_wp2_with fail
        refine (HLK.out _ HBX.out).mono ?_
        rintro e w2 ⟨rfl, hb2⟩
        have HB2 := hid (HBX.out.trans (hb2.mono HBX.out.size))
        have HT2 := hid (show TInv w.heap.size tb w2 r N sp ls M s (.slice none 0 0) (.slice none 0 0) 0 bx p w from ⟨⟨Z, [], AInv.start (HQ.out.keep HB2.out) HZ.out, rfl⟩, by rw [hbx]; exact blk_keep HX0.out hb2, HB.out.trans (HB2.out.mono HB.out.size)⟩)
        rw [← hbx]
        clear hb2 hbx HLK c0 c1 c2 c3 c4
        go_wp2_with fail
        go_loopw [8, 13, 14, 15] (fun ok u h i wq => ∃ (j : Nat) (ua : Option Addr) (uc : Nat) (ha : Option Addr) (hc : Nat), j ≤ N ∧ ok = .bool true ∧ i = .int .i64 j ∧ u = .slice ua j uc ∧ h = .slice ha j hc ∧ TInv w.heap.size tb wq r N sp ls M s (.slice ua j uc) (.slice ha j hc) j bx p w) (fun _ _ _ i _ => N - (intOf i).toNat)
        case atStart => exact ⟨0, none, 0, none, 0, Nat.zero_le _, rfl, rfl, rfl, rfl, HT2.out⟩
        case round =>
          obtain ⟨j, ua, uc, ha, hac, hjN, rfl, rfl, rfl, rfl, ht⟩ := hrel
          have HT := hid ht
          obtain ⟨Zj, hqj, hzj⟩ := ht.q
          have HQJ := hid hqj
          obtain ⟨t0, _, _, _⟩ := hqj.i.tab.cells
          have htl := blk_lt hqj.i.tab
          clear ht hqj hzj HT2
          by_cases hjl : j < N
          · have hjl' : (j : Int) < (N : Int) := by omega
            have HTD := hid (HQJ.out.told hjl (HPW.out.keep HT.out.bel))
            have hlen : (toldU s j).length ≤ 1000 := by rw [toldU_len]; omega
            go_wp2_with fail
            refine HTD.out.mono ?_
            rintro e w3 ⟨gl, cl, rfl, hu3, hb3⟩
            have HU3 := hid hu3; have HB3 := hid hb3; clear hu3 hb3 HTD
            rw [hasL_len] at HU3
            have HB3' := hid (HB3.out.alloc HB3.out.size (.cells #[.string (textG (ROf (s.ops j)) 4 (0, 0))] 9))
            have HA3 := hid (show Below w3.heap.size w3 (w3.alloc (.cells #[.string (textG (ROf (s.ops j)) 4 (0, 0))] 9)) from (Below.refl _ w3).alloc (Nat.le_refl _) _)
            have HBL := hid (blk1 (blk_new w3 (.cells #[.string (textG (ROf (s.ops j)) 4 (0, 0))] 9)))
            go_wp2_with (at_builtin; first
              | (refine app_txt rfl (.tmp 78) (.tmp 80) rfl (.slice ua j uc) (toldU s j) rfl (owns_keep HT.out.rowU HB3'.out) w3.heap.size 1 (textG (ROf (s.ops j)) 4 (0, 0)) rfl HBL.out hlen ?_; intro v1 w4 ho4 hg4 hn4; have HU4 := hid (HT.out.textAt HB3'.out (owns_keep HU3.out HA3.out) ho4 hg4 hn4); clear ho4 hg4 hn4; obtain ⟨Z4, hs4, ha4, hm4, hz4⟩ := HU4.out.i; have HA4 := hid ha4; have HM4 := hid hm4; have HZ4 := hid hz4; clear ha4 hm4 hz4; have HB4 := hid (show Below w4.heap.size w4 (w4.alloc (.cells #[.slice (some ⟨gl, 0, none⟩) N cl] 24)) from (Below.refl _ w4).alloc (Nat.le_refl _) _); have HL4 := hid (blk1 (blk_new w4 (.cells #[.slice (some ⟨gl, 0, none⟩) N cl] 24))))
              | (refine app_hrd rfl (.tmp 82) (.tmp 84) rfl (.slice ha j hac) hs4 rfl (owns_keep HA4.out.h HB4.out) w4.heap.size 1 (.slice (some ⟨gl, 0, none⟩) N cl, hasL N (s.has j)) rfl HL4.out rfl (by rw [hs_len HM4.out]; omega) ?_; intro v2 w5 ho5 hg5 hn5; have HT5 := hid (HU4.out.heardAt HA4.out HM4.out HZ4.out HB4.out ho5 hg5 hn5); clear ho5 hg5 hn5))
            obtain ⟨ua5, uc5, ha5, hc5, rfl, rfl, _⟩ := HT5.out.forms
            go_wp2
            go_roundw
            case rel => exact ⟨j + 1, ua5, uc5, ha5, hc5, by omega, rfl, by go_num, rfl, rfl, HT5.out⟩
            case measure => simp [intOf]; omega
          · have hjl' : ¬ (j : Int) < (N : Int) := by omega
            have ejn : N = j := by omega
            subst ejn
            obtain ⟨x0, x1, x2, x3, x4⟩ := stpCells HT.out.box
            have hxl := blk_lt HT.out.box
            have HP8 := hid (fun W => (show Calls Tryz.prog 20 #[.int .i64 (p.k.tdiv 8), .int .i64 12] W _ from pick_g (p.k.tdiv 8) (quo8 HPO.out.1) 12 (by omega) (by omega) W))
            have hq8 := quo8 HPO.out.1
            have hw8 : IntKind.i64.wrap (p.k.tdiv 8) = p.k.tdiv 8 := Go.IntWalk.i64_in _ (by unfold intOk at hq8; omega)
            clear hq8
            go_wp2_with fail
            refine (HP8.out _).mono ?_
            rintro e w3 ⟨rfl, hb3⟩
            have HT3 := hid (show TInv w.heap.size tb w3 r N sp ls M s (.slice ua N uc) (.slice ha N hac) N bx p w from HT.out.keep hb3)
            clear hb3 x0 x1 x2 x3 x4 hxl t0 htl HQJ HT hw8 HP8
            have hkl := pickN_lt (p.k.tdiv 8) (show 0 < 12 by omega)
            go_upto_block 4 with fail
            go_cut [19] from 36 to 154 (fun may wc => may = .int .i64 (mayI (mayN p N)) ∧ wc = w3)
            case first =>
             as_aux_lemma =>
              have hk : pickN (p.k.tdiv 8) 12 = 0 ∨ pickN (p.k.tdiv 8) 12 = 1 ∨ pickN (p.k.tdiv 8) 12 = 2 ∨ pickN (p.k.tdiv 8) 12 = 3 ∨ pickN (p.k.tdiv 8) 12 = 4 ∨ pickN (p.k.tdiv 8) 12 = 5 ∨ pickN (p.k.tdiv 8) 12 = 6 ∨ pickN (p.k.tdiv 8) 12 = 7 ∨ pickN (p.k.tdiv 8) 12 = 8 ∨ pickN (p.k.tdiv 8) 12 = 9 ∨ pickN (p.k.tdiv 8) 12 = 10 ∨ pickN (p.k.tdiv 8) 12 = 11 := by omega
              rcases hk with hk | hk | hk | hk | hk | hk | hk | hk | hk | hk | hk | hk
              all_goals (
                have HK := hid hk
                rw [hk]
                clear hk hkl
                go_wp2_with fail
                go_meet
                exact ⟨by first
                  | (rw [mayN_w (by rw [HK.out]; decide)]; rfl)
                  | (rw [mayN_d (by rw [HK.out]; decide)]; rfl)
                  | (rw [mayN_n (by rw [HK.out]; decide)]; rfl), rfl⟩)
            case rest =>
             as_aux_lemma =>
              obtain ⟨rfl, rfl⟩ := hcut
              clear hkl
              obtain ⟨x0, x1, x2, x3, x4⟩ := stpCells HT3.out.box
              have hxl := blk_lt HT3.out.box
              have hw5 : IntKind.i64.wrap (p.n.tmod 5) = p.n.tmod 5 := Go.IntWalk.i64_in _ (by have := rem5 p.n; omega)
              go_upto_if 104 with fail
              go_cut [19] from 36 to 154 (fun may wd => ∃ ch, may = .int .i64 (mayI ch) ∧ DInv w.heap.size tb wd r N sp ls M s (.slice ua N uc) (.slice ha N hac) w ch)
              case first =>
               as_aux_lemma =>
                obtain ⟨Z3, hs3, ha3, hm3⟩ := HT3.out.i
                obtain ⟨_, t1, _, _⟩ := ha3.q.i.tab.cells
                have htl := blk_lt ha3.q.i.tab
                have HA3 := hid ha3; have HM3 := hid hm3; clear ha3 hm3
                by_cases hm : p.n.tmod 5 = 0
                · have HTR := hid (HA3.out.q.trim hc)
                  go_wp2_with fail
                  refine HTR.out.mono ?_
                  rintro e w4 ⟨⟨tn, rfl⟩, hst⟩
                  have HD := hid (DInv.of HT3.out HA3.out HM3.out hst); clear hst
                  go_wp2_with fail
                  go_meet
                  exact ⟨none, rfl, HD.out⟩
                · have HDO := hid (does_g HA3.out.q h2 p HPO.out)
                  have hmb : (p.n.tmod 5 == 0) = false := by simp [hm]
                  go_wp2_with fail
                  refine HDO.out.mono ?_
                  rintro e w4 ⟨⟨ev, rfl⟩, hst⟩
                  have HD := hid (DInv.of HT3.out HA3.out HM3.out hst); clear hst
                  go_wp2_with fail
                  go_meet
                  exact ⟨mayN p N, rfl, HD.out⟩
              case rest =>
               as_aux_lemma =>
                obtain ⟨ch, rfl, Z5, M5, s5, hs5, hwt, ha5, hm5, hb5⟩ := hcut
                obtain ⟨ua5, uc5, e5, l5, m5, f5⟩ := owns_form ha5.u
                obtain ⟨ha6, hc6, e6, l6, m6, f6⟩ := owns_form ha5.h
                rw [toldU_len] at e5 l5 f5
                rw [hs_len hm5] at e6 l6 f6
                injection e5 with e5 _ e5'
                injection e6 with e6 _ e6'
                subst e5 e5' e6 e6'
                obtain ⟨gu, rfl⟩ := f5 0 (by omega)
                obtain ⟨gh, rfl⟩ := f6 0 (by omega)
                have HA5 := hid ha5; have HM5 := hid hm5; have HWT := hid hwt; have HB5 := hid hb5
                clear ha5 hm5 hwt hb5 f5 f6 x0 x1 x2 x3 x4 hxl hw5 HT3
                unfold maxLen at m5 m6
                obtain ⟨mv, hmv⟩ : ∃ mv, mv = mayI ch := ⟨_, rfl⟩
                rw [← hmv]
                have HMV := hid hmv; clear hmv
                go_wp2_with fail
                go_loopw [8, 20] (fun ok i wq => ∃ j : Nat, j ≤ N ∧ ok = .bool true ∧ i = .int .i64 j ∧ Below wc.heap.size wc wq) (fun _ i _ => N - (intOf i).toNat)
                case atStart => exact ⟨0, Nat.zero_le _, rfl, rfl, Below.refl _ _⟩
                case round =>
                  obtain ⟨j, hjN, rfl, rfl, hbj⟩ := hrel
                  have HAJ := hid (HA5.out.keep hbj)
                  have HBJ := hid hbj; clear hbj
                  obtain ⟨t0, _, _, _⟩ := HAJ.out.q.i.tab.cells
                  have htl := blk_lt HAJ.out.q.i.tab
                  by_cases hjl : j < N
                  · have hjl' : (j : Int) < (N : Int) := by omega
                    have hj0 : (0 : Int) ≤ (j : Int) := Int.natCast_nonneg _
                    have hj5 : j < hs5.length := by rw [hs_len HM5.out]; exact hjl
                    have hjU : j < (toldU s N).length := by rw [toldU_len]; exact hjl
                    have hcu := HAJ.out.cellU hjU
                    have hch := HAJ.out.cellH hj5
                    rw [toldU_at hjl] at hcu
                    have HRJ := hid (HAJ.out.each _ (List.getElem_mem hj5)).1
                    rw [told_at HM5.out hjl] at HRJ
                    obtain ⟨gj, cj, hvj, _, _, _⟩ := HRJ.out.kn (by rw [hasL_len]; omega) (by rw [hasL_len]; omega)
                    rw [hasL_len] at hvj
                    rw [hvj] at hch HRJ
                    clear hvj
                    have HCU := hid hcu; have HCH := hid hch; clear hcu hch
                    have HAJ' := hid (HB5.out.trans (HBJ.out.mono (HB5.out.size)))
                    by_cases hcj : ch = some j
                    · have hmj : mv = (j : Int) := by rw [HMV.out, hcj]; rfl
                      clear HMV hcj
                      subst hmj
                      have HTD := hid (HAJ.out.q.told hjl (HPW.out.keep HAJ'.out))
                      go_wp2_with fail
                      refine HTD.out.mono ?_
                      rintro e w6 ⟨gl, cl, rfl, hu6, hb6⟩
                      have hch := keep hb6 HCH.out
                      have HSI := hid (sameInts_g hu6 (owns_keep HRJ.out hb6) (by rw [hasL_len, hasL_len]) (by rw [hasL_len]; omega) (by rw [hasL_len]; omega))
                      rw [hasL_len] at HSI
                      have HB6 := hid hb6; clear hu6 hb6
                      go_wp2_with fail
                      refine HSI.out.mono ?_
                      rintro e w7 ⟨rfl, hb7⟩
                      have HB7 := hid (HBJ.out.trans ((HB6.out.trans (hb7.mono HB6.out.size)).mono HBJ.out.size)); clear hb7
                      go_wp2
                      go_roundw
                      case rel => exact ⟨j + 1, by omega, rfl, by go_num, HB7.out⟩
                      case measure => simp [intOf]; omega
                    · have hmb : ((j : Int) == mv) = false := by rw [HMV.out]; exact may_no hcj
                      obtain ⟨e1, e2⟩ := HWT.out.only j hjl hcj
                      have htd := HAJ.out.q.told hjl (HPW.out.keep HAJ'.out)
                      rw [e1, e2] at htd
                      have HTD := hid htd; clear htd e1 e2
                      go_wp2_with fail
                      refine HTD.out.mono ?_
                      rintro e w6 ⟨gl, cl, rfl, hu6, hb6⟩
                      have hch := keep hb6 HCH.out
                      have hcu := keep hb6 HCU.out
                      have HSI := hid (sameInts_g hu6 (owns_keep HRJ.out hb6) (by rw [hasL_len]) (by rw [hasL_len]; omega) (by rw [hasL_len]; omega))
                      rw [hasL_len] at HSI
                      have HB6 := hid hb6; clear hu6 hb6
                      go_wp2_with fail
                      refine HSI.out.mono ?_
                      rintro e w7 ⟨rfl, hb7⟩
                      replace hcu := keep hb7 hcu
                      have HB7 := hid (HBJ.out.trans ((HB6.out.trans (hb7.mono HB6.out.size)).mono HBJ.out.size)); clear hb7
                      have hdt : decide (hasL N (s.has j) = hasL N (s.has j)) = true := decide_eq_true rfl
                      go_wp2
                      go_roundw
                      case rel => exact ⟨j + 1, by omega, rfl, by go_num, HB7.out⟩
                      case measure => simp [intOf]; omega
                  · have hjl' : ¬ (j : Int) < (N : Int) := by omega
                    go_wp2
                    go_roundw
                    case rel => exact ⟨k + 1, Z5, M5, s5, by omega, by omega, rfl, by go_num, HAJ.out.q, HAJ.out.z0, HB5.out.trans (HBJ.out.mono HB5.out.size)⟩
                    case measure => simp [intOf]; omega
      · by_cases h1 : k < n
        · have hi1 : (k : Int) < (n : Int) := by omega
          have hi2 : ¬ (k : Int) < 80 := by omega
          go_wp2_with fail
          go_meet
          exact ⟨rfl, ⟨Z, M, s, HQ.out, HZ.out⟩, HB.out⟩
        · have hi1 : ¬ (k : Int) < (n : Int) := by omega
          go_wp2_with fail
          go_meet
          exact ⟨rfl, ⟨Z, M, s, HQ.out, HZ.out⟩, HB.out⟩
  case rest =>
   as_aux_lemma =>
    obtain ⟨rfl, ⟨Z, M, s, hq, hz⟩, hb⟩ := hcut
    have HPT := hid (put_end hq.i hz h2 raw)
    obtain ⟨_, t1, _, _⟩ := hq.i.tab.cells
    have htl := blk_lt hq.i.tab
    have HB := hid hb; clear hq hz hb
    go_wp2_with fail
    refine HPT.out.mono ?_
    rintro e w2 ⟨hb2, m, rfl, ht2, hm⟩
    have HB2 := hid (HB.out.trans hb2); clear hb2 HPT t1 htl
    obtain ⟨_, t1, _, _⟩ := ht2.cells
    have htl := blk_lt ht2
    have HT2 := hid ht2; clear ht2
    have hB2 : w.heap.size ≤ w2.heap.size := HB2.out.size
    rcases hm with ⟨rfl, hv1, hv0⟩ | ⟨rfl, hv1, hv0⟩
    · have HV1 := hid hv1; have HV0 := hid hv0; clear hv1 hv0
      go_wp2_with fail
      refine (HV1.out _ (Below.refl _ _)).mono ?_
      rintro e w3 ⟨hb3, a3, n3, c3, e3, h31, h32, rfl, _⟩
      have HB3 := hid hb3; clear hb3 t1 htl
      obtain ⟨_, t1, _, _⟩ := (HT2.out.keep HB3.out).cells
      have htl := blk_lt (HT2.out.keep HB3.out)
      go_wp2_with fail
      refine (HV0.out _ HB3.out).mono ?_
      rintro e w4 ⟨hb4, a4, n4, c4, e4, h41, h42, rfl, _⟩
      have HB4 := hid (HB2.out.trans ((HB3.out.trans (hb4.mono HB3.out.size)).mono hB2)); clear hb4 t1 htl
      go_wp2
      go_ret
      exact ⟨rfl, HB4.out⟩
    · have HV1 := hid hv1; have HV0 := hid hv0; clear hv1 hv0
      go_wp2_with fail
      refine (HV1.out _ (Below.refl _ _)).mono ?_
      rintro e w3 ⟨hb3, a3, n3, c3, e3, h31, h32, rfl, rfl, rfl, g3, rfl, hc3⟩
      have HB3 := hid hb3; have HC3 := hid hc3; clear hb3 t1 htl hc3
      obtain ⟨_, t1, _, _⟩ := (HT2.out.keep HB3.out).cells
      have htl := blk_lt (HT2.out.keep HB3.out)
      go_wp2_with fail
      refine (HV0.out _ HB3.out).mono ?_
      rintro e w4 ⟨hb4, a4, n4, c4, e4, h41, h42, rfl, rfl, rfl⟩
      have hc3 := keep hb4 HC3.out
      have HB4 := hid (HB2.out.trans ((HB3.out.trans (hb4.mono HB3.out.size)).mono hB2)); clear hb4 t1 htl
      unfold maxLen at h32
      go_wp2
      go_ret
      exact ⟨rfl, HB4.out⟩

end Go.Proofs.YtnkpogjiiohapaaGreatDoor
