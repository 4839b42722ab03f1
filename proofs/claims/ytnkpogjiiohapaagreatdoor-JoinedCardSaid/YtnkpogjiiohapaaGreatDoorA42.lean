/- Our own text (JLawC). -/
import Derived.Deep.CutBlock
import Derived.Deep.DeepCutAuto
import Derived.Test.YtnkpogjiiohapaaGreatDoorA41
set_option linter.unusedSimpArgs false
set_option linter.unusedVariables false

/-! JLawC: quirekeep: Joined, where its room is laid. -/
namespace Go.Proofs.YtnkpogjiiohapaaGreatDoor
open Go.RowKit
attribute [local go_sem ↓] Go.wp_at_zero Go.wp_at_succ

/-- A room, and the law's own row of numbers beside it. -/
structure MInv (B : Nat) (Z : Nat → Prop) (tb : Nat) (w : World) (r N sp : Nat) (ls : PId) (M : Nat → List MOp) (s : RoomS) (gm : Nat) (f : Nat → Int) : Prop where
  q : QInv Z tb w r N sp ls M s
  z0 : ∀ k, k < B → Z k
  zg : Z gm
  gt : gm ≠ tb
  blk : w.heap[gm]? = some (.cells (gRow N f) 3 (0, 0))
section
theorem MInv.start {B : Nat} {Z : Nat → Prop} {tb : Nat} {w : World} {r N sp : Nat} {ls : PId} {M : Nat → List MOp} {s : RoomS} (h : QInv Z tb w r N sp ls M s) (hz : ∀ k, k < B → Z k) : MInv B (fun k => Z k ∨ (w.heap.size ≤ k ∧ k < (w.alloc (.cells (zrow N) 3)).heap.size)) tb (w.alloc (.cells (zrow N) 3)) r N sp ls M s w.heap.size fun _ => 0 :=
  ⟨⟨h.i.more ((Below.refl _ _).alloc (Nat.le_refl _) _), h.l⟩, fun k hk => .inl (hz k hk), .inr ⟨Nat.le_refl _, by simp⟩, fun e => by have := h.i.zlt tb h.i.ztb; omega, by rw [← zrow_eq]; exact blk_new w _⟩
theorem MInv.keep {B : Nat} {Z : Nat → Prop} {tb : Nat} {w : World} {r N sp : Nat} {ls : PId} {M : Nat → List MOp} {s : RoomS} {gm : Nat} {f : Nat → Int} (h : MInv B Z tb w r N sp ls M s gm f) {w' : World} (hb : Below w.heap.size w w') : MInv B Z tb w' r N sp ls M s gm f := ⟨h.q.keep hb, h.z0, h.zg, h.gt, blk_keep h.blk hb⟩
theorem MInv.step {B : Nat} {Z : Nat → Prop} {tb : Nat} {w : World} {r N sp : Nat} {ls : PId} {M : Nat → List MOp} {s : RoomS} {gm : Nat} {f : Nat → Int} (h : MInv B Z tb w r N sp ls M s gm f) {w' : World} {s' : RoomS} (hq : QInv Z tb w' r N sp ls M s') (hz : Zept Z w w') : MInv B Z tb w' r N sp ls M s' gm f := ⟨hq, h.z0, h.zg, h.gt, (hz.block gm h.zg).trans h.blk⟩
theorem MInv.set {B : Nat} {Z : Nat → Prop} {tb : Nat} {w : World} {r N sp : Nat} {ls : PId} {M : Nat → List MOp} {s : RoomS} {gm : Nat} {f : Nat → Int} (h : MInv B Z tb w r N sp ls M s gm f) {c : Nat} (v : Int) : ∃ Z', MInv B Z' tb (w.setCell ⟨gm, c, none⟩ (.int .i64 v)) r N sp ls M s gm (upd f c v) := by
  have hs : (w.setCell ⟨gm, c, none⟩ (.int .i64 v)).heap.size = w.heap.size := by simp [World.setCell]
  refine ⟨_, ⟨h.q.i.turn (ob := some gm) (fun g e => by cases e; exact ⟨h.zg, h.gt⟩) (by rw [hs]; exact Nat.le_refl _) (fun k _ hne => setCell_other fun e => hne (by rw [e])), h.q.l⟩, fun k hk => .inl (h.z0 k hk), .inl h.zg, h.gt, ?_⟩
  have := h.blk
  rw [← gRow_set]
  simp [World.setCell, Array.getElem?_modify, this]
theorem MInv.at {B : Nat} {Z : Nat → Prop} {tb : Nat} {w : World} {r N sp : Nat} {ls : PId} {M : Nat → List MOp} {s : RoomS} {gm : Nat} {f : Nat → Int} (h : MInv B Z tb w r N sp ls M s gm f) {i : Nat} (hi : i < N) : w.cell? ⟨gm, i, none⟩ = some (.int .i64 (f i)) ∧ w.frozen? ⟨gm, i, none⟩ = false := ⟨by simp [World.cell?, h.blk, gRow_get hi], blk_fz h.blk i⟩
theorem MInv.ints {B : Nat} {Z : Nat → Prop} {tb : Nat} {w : World} {r N sp : Nat} {ls : PId} {M : Nat → List MOp} {s : RoomS} {gm : Nat} {f : Nat → Int} (h : MInv B Z tb w r N sp ls M s gm f) : ownInts 0 w (.slice (some ⟨gm, 0, none⟩) (hasL N f).length N) (hasL N f) := by
  have hN := h.q.i.hN
  have hf : (hasL N f).flatMap intC = (gRow N f).toList := by
    rw [ints_flat]
    simp [hasL, gRow]
  refine ⟨by rw [ints_flat]; simp, .inr ⟨gm, N, _, by rw [hasL_len], Nat.zero_le _, h.blk, by rw [hasL_len]; exact Nat.le_refl _, by unfold maxLen; omega, by simp [gRow], ?_⟩⟩
  rw [hf, hasL_len, List.take_of_length_le (by simp [gRow])]
theorem MInv.heard {B : Nat} {Z : Nat → Prop} {tb : Nat} {w : World} {r N sp : Nat} {ls : PId} {M : Nat → List MOp} {s : RoomS} {gm : Nat} {f : Nat → Int} (h : MInv B Z tb w r N sp ls M s gm f) {c : Nat} (hc : c < N) : Calls Tryz.prog 25 #[.pointer (some ⟨r, 0, none⟩), .int .i64 c] w fun e w' => ∃ g cap, e = .returned (.tuple #[.slice (some ⟨g, 0, none⟩) N cap, .int .i64 0]) ∧ N ≤ cap ∧ cap ≤ maxLen ∧ ownInts w.heap.size w' (.slice (some ⟨g, 0, none⟩) (hasL N (s.has c)).length cap) (hasL N (s.has c)) ∧ (∀ i, i < N → w'.cell? ⟨g, i, none⟩ = some (.int .i64 (s.has c i))) ∧ Below w.heap.size w w' := by
  obtain ⟨F, I, x, hr⟩ := h.q.i
  refine (heard_any hr.d.m c hc).mono ?_
  rintro e w' ⟨u, rfl, hu, hb⟩
  obtain ⟨g, cap, rfl, h1, h2, h3, h4, h5⟩ := hu.kn (by rw [hasL_len]; omega) (by rw [hasL_len]; have := hr.d.m.hN; omega)
  refine ⟨g, cap, by rw [hasL_len], by rw [hasL_len] at h1; exact h1, h2, hu, fun i hi => ?_, hb⟩
  have := h5 i (by rw [hasL_len]; exact hi)
  rw [this]
  simp [hasL]
theorem MInv.shows {B : Nat} {Z : Nat → Prop} {tb : Nat} {w : World} {r N sp : Nat} {ls : PId} {M : Nat → List MOp} {s : RoomS} {gm : Nat} {f : Nat → Int} (h : MInv B Z tb w r N sp ls M s gm f) (hp : Pow w) {c : Nat} (hc : c < N) : Calls Tryz.prog 28 #[.pointer (some ⟨r, 0, none⟩), .int .i64 c] w fun e w' => e = .returned (.tuple #[.string (textG (ROf (s.ops c)) 4 (0, 0)), .int .i64 0]) ∧ Below w.heap.size w w' := by
  obtain ⟨F, I, x, hr⟩ := h.q.i
  exact gShows hr.d hp hr.nice hc
end

theorem hasL_ext {N : Nat} {f g : Nat → Int} (h : ∀ i, i < N → f i = g i) : hasL N f = hasL N g := by
  unfold hasL
  exact List.map_congr_left fun i hi => h i (List.mem_range.1 hi)
/-- Some have asked. -/
def AskedTo (N : Nat) (s : RoomS) (P : Nat → Nat → Prop) : Prop := ∀ c d, c < N → d < N → c ≠ d → (P c d → s.ms c d = [.inl (hasL N (s.has c))]) ∧ (¬ P c d → s.ms c d = [])
theorem AskedTo.mono {N : Nat} {s : RoomS} {P P' : Nat → Nat → Prop} (h : AskedTo N s P) (hp : ∀ c d, c < N → d < N → c ≠ d → (P c d ↔ P' c d)) : AskedTo N s P' := fun c d hc hd hcd => ⟨fun x => (h c d hc hd hcd).1 ((hp c d hc hd hcd).2 x), fun x => (h c d hc hd hcd).2 fun y => x ((hp c d hc hd hcd).1 y)⟩
theorem askS_eq {N : Nat} {s : RoomS} {c d : Nat} (h : s.ms c d = []) : askS N s c d = msTo s c d [.inl (hasL N (s.has c))] := by
  unfold askS msTo
  rw [h]
  rfl
theorem AskedTo.ask {N : Nat} {s : RoomS} {P P' : Nat → Nat → Prop} {a b : Nat} (h : AskedTo N s P) (he : s.ms a b = []) (hp : ∀ c d, c < N → d < N → c ≠ d → (P' c d ↔ P c d ∨ (c = a ∧ d = b))) : AskedTo N (askS N s a b) P' := by
  rw [askS_eq he]
  intro c d hc hd hcd
  rw [msTo_ms, hp c d hc hd hcd]
  by_cases e : c = a ∧ d = b
  · rw [if_pos e]
    refine ⟨fun _ => ?_, fun x => absurd (.inr e) x⟩
    rw [e.1]
    rfl
  · rw [if_neg e]
    exact ⟨fun x => (h c d hc hd hcd).1 (x.elim id fun y => absurd y e), fun x => (h c d hc hd hcd).2 fun y => x (.inl y)⟩
/-- In the middle of a round's questions. -/
def AskI (N : Nat) (M : Nat → List MOp) (k : Nat) (P : Nat → Nat → Prop) (s : RoomS) : Prop := Due N M k s ∧ AskedTo N s P
theorem AskI.mono {N : Nat} {M : Nat → List MOp} {k : Nat} {s : RoomS} {P P' : Nat → Nat → Prop} (h : AskI N M k P s) (hp : ∀ c d, c < N → d < N → c ≠ d → (P c d ↔ P' c d)) : AskI N M k P' s := ⟨h.1, h.2.mono hp⟩
theorem MInv.ask {B : Nat} {Z : Nat → Prop} {tb : Nat} {w : World} {r N sp : Nat} {ls : PId} {M : Nat → List MOp} {s : RoomS} {gm : Nat} {f : Nat → Int} (h : MInv B Z tb w r N sp ls M s gm f) {k : Nat} {P P' : Nat → Nat → Prop} (ha : AskI N M k P s) {c d : Nat} (hc : c < N) (hd : d < N) (hcd : c ≠ d) (hn : ¬ P c d) (hp : ∀ x y, x < N → y < N → x ≠ y → (P' x y ↔ P x y ∨ (x = c ∧ y = d))) : Calls Tryz.prog 27 #[.pointer (some ⟨r, 0, none⟩), .int .i64 c, .int .i64 d] w fun e w' => e = .returned (.int .i64 0) ∧ (∃ s', MInv B Z tb w' r N sp ls M s' gm f ∧ AskI N M k P' s') ∧ Zept Z w w' := by
  have he := (ha.2 c d hc hd hcd).2 hn
  obtain ⟨F, I, x, hr⟩ := h.q.i
  refine (ask_any hr.d.m hc hd hcd).mono ?_
  rintro e w' ⟨rfl, hto⟩
  obtain ⟨h1, h2⟩ := hr.goTo hto (hr.d.ok.ask hc hd hcd)
  refine ⟨by rw [he]; rfl, ⟨_, h.step ⟨h1, h.q.l.went (askS_went N M s c d)⟩ h2, ?_, ha.2.ask he hp⟩, h2⟩
  rw [askS_eq he]
  exact ha.1
/-- At the head of a round. -/
def HeadI (N : Nat) (M : Nat → List MOp) (k : Nat) (s : RoomS) : Prop := k = 0 ∨ ∃ j, k = j + 1 ∧ Owes N M j s
theorem HeadI.deliver {N : Nat} {M : Nat → List MOp} {k : Nat} : ∀ s s' c d, c < N → d < N → c ≠ d → RoomOk N M s → HeadI N M k s → DeliverTo N s c d s' → HeadI N M k s' := fun s s' c d hc hd hcd ok h hs => h.elim .inl fun ⟨j, hj, ho⟩ => .inr ⟨j, hj, ho.deliver ok hc hd hcd hs⟩
theorem HeadI.due {N : Nat} {M : Nat → List MOp} {k : Nat} {s : RoomS} (ok : RoomOk N M s) (h : HeadI N M k s) (hi : Idle N s) : Due N M k s := by
  rcases h with rfl | ⟨j, rfl, ho⟩
  · exact Due.zero ok
  · exact ho.idle ok hi
theorem AskI.head {N : Nat} {M : Nat → List MOp} {k : Nat} {s : RoomS} (ok : RoomOk N M s) (h : AskI N M k (fun c _ => c < N) s) : HeadI N M (k + 1) s := .inr ⟨k, rfl, Asked.owes ok h.1 fun c d hc hd hcd => (h.2 c d hc hd hcd).1 hc⟩
theorem MInv.still {B : Nat} {Z : Nat → Prop} {tb : Nat} {w : World} {r N sp : Nat} {ls : PId} {M : Nat → List MOp} {s : RoomS} {gm : Nat} {f : Nat → Int} (h : MInv B Z tb w r N sp ls M s gm f) {k : Nat} (hh : HeadI N M k s) : Calls Tryz.prog 26 #[.pointer (some ⟨tb, 0, none⟩)] w fun e w' => (∃ v, e = .returned v) ∧ (∃ s', MInv B Z tb w' r N sp ls M s' gm f ∧ AskI N M k (fun _ _ => False) s') ∧ Zept Z w w' := by
  refine (still_g HeadI.deliver h.q hh).mono ?_
  rintro e w' ⟨he, s', ⟨hq, hj, hz⟩, hi⟩
  exact ⟨he, ⟨s', h.step hq hz, hj.due hq.i.ok hi, fun c d hc hd hcd => ⟨fun x => x.elim, fun _ => hi c d hc hd hcd⟩⟩, hz⟩

set_option maxRecDepth 1000000 in
set_option maxHeartbeats 16000000 in
theorem joinedLaw_g {w : World} (hp : Pow w) (raw spc : Int) {a : Option Addr} {n ca : Nat} (hn : n ≤ 4000000000000) (hs : isSteps w a n) (hl : Calls Tryz.prog 14 #[.int .i64 raw, .int .i64 spc] w fun e w' => LaidD w e w') :
    Calls Tryz.prog 9 #[.int .i64 raw, .int .i64 spc, .slice a n ca] w fun e w' => e = .returned (.bool true) ∧ Below w.heap.size w w' := by
  have HL := hid hl; have HS := hid hs; have HPW := hid hp
  clear hl hs hp
  go_enter Tryz.func9, Tryz.ntmps9
  go_wp2_with fail
  refine HL.out.mono ?_
  rintro e w1 ⟨hb1, tb, r, N, sp, ls, rfl, h2, M0, s0', hq⟩
  have HB1 := hid hb1; have HQ1 := hid (show ∃ Z M s, QInv Z tb w1 r N sp ls M s ∧ ∀ k, k < w.heap.size → Z k from ⟨_, M0, s0', hq, fun k hk => .inl hk⟩)
  have hN4 := hq.i.hN
  clear hb1 hq
  go_upto_block 0 with fail
  go_cut [9] (fun i wc => (∃ Z M s, QInv Z tb wc r N sp ls M s ∧ ∀ k, k < w.heap.size → Z k) ∧ Below w.heap.size w wc)
  case first =>
    go_wp2_with fail
    go_loopw [9] (fun i wr => ∃ k : Nat, k ≤ n ∧ k ≤ 150 ∧ i = .int .i64 k ∧ (∃ Z M s, QInv Z tb wr r N sp ls M s ∧ ∀ k, k < w.heap.size → Z k) ∧ Below w.heap.size w wr) (fun i _ => 150 - (intOf i).toNat)
    case atStart => exact ⟨0, Nat.zero_le _, Nat.zero_le _, rfl, HQ1.out, HB1.out⟩
    case round =>
      obtain ⟨k, hkn, hk8, rfl, hinv, hbw⟩ := hrel
      have HI := hid hinv; have HB := hid hbw; clear hinv hbw
      by_cases hlt : k < n ∧ k < 150
      · obtain ⟨hlt1, hlt2⟩ := hlt
        have hi1 : (k : Int) < (n : Int) := by omega
        have hi2 : (k : Int) < 150 := by omega
        have hk0 : (0 : Int) ≤ (k : Int) := Int.natCast_nonneg _
        obtain ⟨g, off, p, rfl, hpo, c0, c1, c2, c3, c4⟩ := HS.out k hlt1
        replace c0 := keep HB.out c0
        replace c1 := keep HB.out c1
        replace c2 := keep HB.out c2
        replace c3 := keep HB.out c3
        replace c4 := keep HB.out c4
        obtain ⟨Z, M, s, hi, hz⟩ := HI.out
        have HD := hid (does_g hi h2 p hpo)
        have HZ := hid hz
        clear hpo hi hz
        go_wp2_with fail
        refine HD.out.mono ?_
        rintro e w2 ⟨⟨ev, rfl⟩, ⟨M2, s2, hw2, hq2⟩, hz2⟩
        have HI2 := hid (show ∃ Z M s, QInv Z tb w2 r N sp ls M s ∧ ∀ k, k < w.heap.size → Z k from ⟨Z, M2, s2, hq2, HZ.out⟩)
        have HB2 := hid (HB.out.trans (hz2.below HZ.out)); clear hw2 hq2 hz2
        go_wp2
        go_roundw
        case rel => exact ⟨k + 1, by omega, by omega, by go_num, HI2.out, HB2.out⟩
        case measure => simp [intOf]; omega
      · by_cases hx : (k : Int) < (n : Int)
        · have hy : ¬ (k : Int) < 150 := by omega
          go_wp2
          go_meet
          exact ⟨HI.out, HB.out⟩
        · go_wp2
          go_meet
          exact ⟨HI.out, HB.out⟩
  case rest =>
    obtain ⟨⟨Z0, M, sA, hqA, hzA⟩, hb0⟩ := hcut
    have HB0 := hid hb0
    have t0 := (hqA.i.tab.cells).1
    have htl := blk_lt hqA.i.tab
    have hmk := run_mkInts N hN4
    have HMA := hid (MInv.start hqA hzA)
    have HBA := hid (HB0.out.alloc HB0.out.size (.cells (zrow N) 3))
    clear hb0 hqA hzA
    obtain ⟨wg, hwg⟩ : ∃ wg, wg = wc := ⟨_, rfl⟩
    subst hwg
    go_wp2_with fail
    go_loopw [11] (fun i wr => ∃ (k : Nat) (Z : Nat → Prop) (f : Nat → Int), k ≤ N ∧ i = .int .i64 k ∧ MInv w.heap.size Z tb wr r N sp ls M sA wg.heap.size f ∧ (∀ i, i < k → f i = (M i).length) ∧ Below w.heap.size w wr) (fun i _ => N - (intOf i).toNat)
    case atStart => exact ⟨0, _, _, Nat.zero_le _, rfl, HMA.out, fun i hi => absurd hi (Nat.not_lt_zero _), HBA.out⟩
    case round =>
      obtain ⟨k, Z, f, hk, rfl, hm, hf, hbw⟩ := hrel
      clear t0 htl
      obtain ⟨t0, t1, _, _⟩ := hm.q.i.tab.cells
      have htl := blk_lt hm.q.i.tab
      have HM := hid hm; have HF := hid hf; have HB := hid hbw; clear hm hf hbw
      by_cases hkl : k < N
      · have hkl' : (k : Int) < (N : Int) := by omega
        have hk0 : (0 : Int) ≤ (k : Int) := Int.natCast_nonneg _
        have HH := hid (HM.out.heard hkl)
        go_wp2_with fail
        refine HH.out.mono ?_
        rintro e w2 ⟨g, cap, rfl, hc1, hc2, hu, hcs, hb2⟩
        have c1 := hcs k hkl
        have hown := HM.out.q.i.ok.own k hkl
        have HM2 := hid (HM.out.keep hb2)
        have HB2 := hid (HB.out.trans (hb2.mono HB.out.size))
        obtain ⟨m1, m2⟩ := HM2.out.at hkl
        have hml := blk_lt HM2.out.blk
        clear t0 t1 htl hu hcs hb2
        obtain ⟨t0, t1, _, _⟩ := HM2.out.q.i.tab.cells
        have htl := blk_lt HM2.out.q.i.tab
        rw [hown] at c1
        unfold maxLen at hc2
        have hkc : (k : Int) < (cap : Int) := by omega
        clear hown
        obtain ⟨Z', hset⟩ := HM2.out.set (c := k) ((M k).length : Int)
        have HM3 := hid hset
        have HB3 := hid (show Below w.heap.size w (w2.setCell ⟨wg.heap.size, k, none⟩ (.int .i64 ((M k).length : Int))) from HB2.out.setCell HB0.out.size _)
        clear hset
        go_wp2
        go_roundw
        case rel => exact ⟨k + 1, Z', _, by omega, by go_num, HM3.out, fun i hi => (by
          by_cases e : i = k
          · subst e; exact upd_same _ _ _
          · rw [upd_ne _ _ e]; exact HF.out i (by omega)), HB3.out⟩
        case measure => simp [intOf]; omega
      · have hkl' : ¬ (k : Int) < (N : Int) := by omega
        have HFA := hid (show ∀ i, i < N → f i = (M i).length from fun i hi => HF.out i (by omega))
        have HMk := hid (show ∃ s, MInv w.heap.size Z tb wr r N sp ls M s wg.heap.size f ∧ HeadI N M 0 s from ⟨sA, HM.out, .inl rfl⟩)
        have HB' := hid HB.out
        clear HF hmk HMA HBA HM HB
        obtain ⟨wh, hwh⟩ : ∃ wh, wh = wr := ⟨_, rfl⟩
        subst hwh
        go_wp2_with fail
        go_loopw [8, 14] (fun ok i wr => ∃ k : Nat, k ≤ 40 ∧ ok = .bool true ∧ i = .int .i64 k ∧ (∃ s, MInv w.heap.size Z tb wr r N sp ls M s wg.heap.size f ∧ HeadI N M k s) ∧ Below w.heap.size w wr) (fun _ i _ => 40 - (intOf i).toNat)
        case atStart => exact ⟨0, Nat.zero_le _, rfl, rfl, HMk.out, HB'.out⟩
        case round =>
          obtain ⟨q, hq, rfl, rfl, ⟨s1, hm, hh⟩, hbw⟩ := hrel
          clear t0 t1 htl
          have HZ := hid hm.z0
          have HST := hid (hm.still hh)
          have HB := hid hbw; clear hm hh hbw HMk HB'
          by_cases hql : q < 40
          · have hql' : (q : Int) < 40 := by omega
            go_wp2_with fail
            refine HST.out.mono ?_
            rintro e w3 ⟨⟨v3, rfl⟩, ⟨s3, hm3, ha3⟩, hz3⟩
            obtain ⟨t0, t1, _, _⟩ := hm3.q.i.tab.cells
            have htl := blk_lt hm3.q.i.tab
            have HM3 := hid (show ∃ s, MInv w.heap.size Z tb w3 r N sp ls M s wg.heap.size f ∧ AskI N M q (fun c _ => c < 0) s from ⟨s3, hm3, ha3.mono fun c d _ _ _ => ⟨fun x => x.elim, fun x => absurd x (Nat.not_lt_zero _)⟩⟩)
            have HB3 := hid (HB.out.trans (hz3.below HZ.out))
            clear hm3 ha3 hz3
            go_wp2_with fail
            go_loopw [8, 15] (fun ok i wr => ∃ k : Nat, k ≤ N ∧ ok = .bool true ∧ i = .int .i64 k ∧ (∃ s, MInv w.heap.size Z tb wr r N sp ls M s wg.heap.size f ∧ AskI N M q (fun c _ => c < k) s) ∧ Below w.heap.size w wr) (fun _ i _ => N - (intOf i).toNat)
            case atStart => exact ⟨0, Nat.zero_le _, rfl, rfl, HM3.out, HB3.out⟩
            case round =>
              obtain ⟨c, hc, rfl, rfl, ⟨s4, hm4, ha4⟩, hb4⟩ := hrel
              clear t0 t1 htl
              obtain ⟨t0, t1, _, _⟩ := hm4.q.i.tab.cells
              have htl := blk_lt hm4.q.i.tab
              by_cases hcl : c < N
              · have hcl' : (c : Int) < (N : Int) := by omega
                have HM4 := hid (show ∃ s, MInv w.heap.size Z tb wr r N sp ls M s wg.heap.size f ∧ AskI N M q (fun a b => a < c ∨ (a = c ∧ b < 0)) s from ⟨s4, hm4, ha4.mono fun c d _ _ _ => by omega⟩)
                have HB4 := hid hb4
                clear hm4 ha4 hb4
                go_wp2_with fail
                go_loopw [8, 16] (fun ok i wr => ∃ k : Nat, k ≤ N ∧ ok = .bool true ∧ i = .int .i64 k ∧ (∃ s, MInv w.heap.size Z tb wr r N sp ls M s wg.heap.size f ∧ AskI N M q (fun a b => a < c ∨ (a = c ∧ b < k)) s) ∧ Below w.heap.size w wr) (fun _ i _ => N - (intOf i).toNat)
                case atStart => exact ⟨0, Nat.zero_le _, rfl, rfl, HM4.out, HB4.out⟩
                case round =>
                  obtain ⟨d, hd, rfl, rfl, ⟨s5, hm5, ha5⟩, hb5⟩ := hrel
                  clear t0 t1 htl
                  obtain ⟨t0, t1, _, _⟩ := hm5.q.i.tab.cells
                  have htl := blk_lt hm5.q.i.tab
                  by_cases hdl : d < N
                  · have hdl' : (d : Int) < (N : Int) := by omega
                    by_cases hcd : c = d
                    · have hcd' : (c : Int) = (d : Int) := by omega
                      have HCD := hid hcd
                      have HM5 := hid (show ∃ s, MInv w.heap.size Z tb wr r N sp ls M s wg.heap.size f ∧ AskI N M q (fun a b => a < c ∨ (a = c ∧ b < d + 1)) s from ⟨s5, hm5, ha5.mono fun a b _ _ _ => by omega⟩)
                      have HB5 := hid hb5
                      clear hm5 ha5 hb5
                      go_wp2
                      go_roundw
                      case rel => exact ⟨d + 1, by omega, rfl, by go_num, HM5.out, HB5.out⟩
                      case measure => simp [intOf]; omega
                    · have hcd' : ¬ (c : Int) = (d : Int) := by omega
                      have hcb : ((c : Int) == (d : Int)) = false := beq_eq_false_iff_ne.2 hcd'
                      have HAS := hid (hm5.ask ha5 hcl hdl hcd (P' := fun a b => a < c ∨ (a = c ∧ b < d + 1)) (by omega) (fun a b _ _ _ => by omega))
                      have HB5 := hid hb5
                      clear hm5 ha5 hb5
                      go_wp2_with fail
                      refine HAS.out.mono ?_
                      rintro e w6 ⟨rfl, hm6, hz6⟩
                      have HM6 := hid hm6; have HB6 := hid (HB5.out.trans (hz6.below HZ.out)); clear hm6 hz6
                      go_wp2
                      go_roundw
                      case rel => exact ⟨d + 1, by omega, rfl, by go_num, HM6.out, HB6.out⟩
                      case measure => simp [intOf]; omega
                  · have hdl' : ¬ (d : Int) < (N : Int) := by omega
                    have HM5 := hid (show ∃ s, MInv w.heap.size Z tb wr r N sp ls M s wg.heap.size f ∧ AskI N M q (fun a _ => a < c + 1) s from ⟨s5, hm5, ha5.mono fun a b _ _ _ => by omega⟩)
                    have HB5 := hid hb5
                    clear hm5 ha5 hb5
                    go_wp2
                    go_roundw
                    case rel => exact ⟨c + 1, by omega, rfl, by go_num, HM5.out, HB5.out⟩
                    case measure => simp [intOf]; omega
              · have hcl' : ¬ (c : Int) < (N : Int) := by omega
                have HM4 := hid (show ∃ s, MInv w.heap.size Z tb wr r N sp ls M s wg.heap.size f ∧ HeadI N M (q + 1) s from ⟨s4, hm4, AskI.head hm4.q.i.ok (ha4.mono fun a b ha _ _ => by omega)⟩)
                have HB4 := hid hb4
                clear hm4 ha4 hb4
                go_wp2
                go_roundw
                case rel => exact ⟨q + 1, by omega, rfl, by go_num, HM4.out, HB4.out⟩
                case measure => simp [intOf]; omega
          · have hql' : ¬ (q : Int) < 40 := by omega
            obtain rfl : q = 40 := by omega
            go_wp2_with fail
            refine HST.out.mono ?_
            rintro e w3 ⟨⟨v3, rfl⟩, ⟨s3, hm3, ha3⟩, hz3⟩
            have hall : ∀ c e, c < N → e < N → s3.has c e = (M e).length := fun c e hc he => ha3.1.all hm3.q.i.ok hN4 hc he
            have HSM := hid (show ∀ c, c < N → hasL N (s3.has c) = hasL N f from fun c hc => hasL_ext fun i hi => (hall c i hc hi).trans (HFA.out i hi).symm)
            have HTX := hid (show ∀ c, c < N → textG (ROf (s3.ops c)) 4 (0, 0) = textG (ROf (s3.ops 0)) 4 (0, 0) from fun c hc => (by
              obtain ⟨F, I, x, hr⟩ := hm3.q.i
              rw [hr.d.same hc (show 0 < N by omega) ((HSM.out c hc).trans (HSM.out 0 (by omega)).symm)]))
            obtain ⟨t0, t1, _, _⟩ := hm3.q.i.tab.cells
            have htl := blk_lt hm3.q.i.tab
            have HM3 := hid hm3
            have HB3 := hid (HB.out.trans (hz3.below HZ.out))
            have HSH := hid (HM3.out.shows (HPW.out.keep HB3.out) (show 0 < N by omega))
            clear hm3 ha3 hz3 hall
            go_wp2_with fail
            refine HSH.out.mono ?_
            rintro e w4 ⟨rfl, hb4⟩
            have HM4 := hid (HM3.out.keep hb4); have HB4 := hid (HB3.out.trans (hb4.mono HB3.out.size))
            clear hb4 t0 t1 htl
            obtain ⟨tx, htx⟩ : ∃ tx, tx = textG (ROf (s3.ops 0)) 4 (0, 0) := ⟨_, rfl⟩
            rw [← htx] at HTX ⊢
            clear htx
            go_wp2_with fail
            go_loopw [8, 20] (fun ok i wr => ∃ k : Nat, k ≤ N ∧ ok = .bool true ∧ i = .int .i64 k ∧ MInv w.heap.size Z tb wr r N sp ls M s3 wg.heap.size f ∧ Below w.heap.size w wr) (fun _ i _ => N - (intOf i).toNat)
            case atStart => exact ⟨0, Nat.zero_le _, rfl, rfl, HM4.out, HB4.out⟩
            case round =>
              obtain ⟨c, hc, rfl, rfl, hm5, hb5⟩ := hrel
              obtain ⟨t0, t1, _, _⟩ := hm5.q.i.tab.cells
              have htl := blk_lt hm5.q.i.tab
              have HM5 := hid hm5; have HB5 := hid hb5
              clear hm5 hb5
              by_cases hcl : c < N
              · have hcl' : (c : Int) < (N : Int) := by omega
                have HH := hid (HM5.out.heard hcl)
                go_wp2_with fail
                refine HH.out.mono ?_
                rintro e w6 ⟨g, cap, rfl, hc1, hc2, hu, hcs, hb6⟩
                rw [HSM.out c hcl] at hu
                have HU := hid hu
                have HM6 := hid (HM5.out.keep hb6); have HB6 := hid (HB5.out.trans (hb6.mono HB5.out.size))
                clear hb6 hu hcs t0 t1 htl
                obtain ⟨t0, t1, _, _⟩ := HM6.out.q.i.tab.cells
                have htl := blk_lt HM6.out.q.i.tab
                have HSC := hid (HM6.out.shows (HPW.out.keep HB6.out) hcl)
                rw [HTX.out c hcl] at HSC
                go_wp2_with fail
                refine HSC.out.mono ?_
                rintro e w7 ⟨rfl, hb7⟩
                have HM7 := hid (HM6.out.keep hb7); have HB7 := hid (HB6.out.trans (hb7.mono HB6.out.size))
                have HU7 := hid (HU.out.keepI hb7)
                clear hb7 t0 t1 htl
                have HSI := hid (sameInts_g HU7.out HM7.out.ints rfl (by rw [hasL_len]; omega) (by rw [hasL_len]; omega))
                rw [hasL_len, decide_eq_true (rfl : hasL N f = hasL N f)] at HSI
                go_wp2_with fail
                refine HSI.out.mono ?_
                rintro e w8 ⟨rfl, hb8⟩
                have HM8 := hid (HM7.out.keep hb8); have HB8 := hid (HB7.out.trans (hb8.mono HB7.out.size))
                clear hb8
                go_wp2
                go_roundw
                case rel => exact ⟨c + 1, by omega, rfl, by go_num, HM8.out, HB8.out⟩
                case measure => simp [intOf]; omega
              · have hcl' : ¬ (c : Int) < (N : Int) := by omega
                go_wp2
                go_ret
                exact ⟨rfl, HB5.out⟩

end Go.Proofs.YtnkpogjiiohapaaGreatDoor
