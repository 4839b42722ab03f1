/- Our own text (GRepZ, GGhD). -/
import Derived.Test.YtnkpogjiiohapaaGreatDoorA29
set_option linter.unusedSimpArgs false
set_option linter.unusedVariables false

/-! GRepZ: One copy of the program's room in general: setNumber, cut, elements, layAt. -/
namespace Go.Proofs.YtnkpogjiiohapaaGreatDoor
open Go.RowKit
attribute [local go_sem ↓] Go.wp_at_zero Go.wp_at_succ

theorem WroteM.before {F I : Nat → Prop} {N sp c rb : Nat} {gt : Int} {has : Nat → Int} {ops : List MOp} {early : List (PId × MOp)} {q : RQ} {w W w' : World} {chg : QChg} (hb : Below w.heap.size w W) (h : WroteM F I N sp c rb gt has ops early q W w' chg) : WroteM F I N sp c rb gt has ops early q w w' chg := by
  obtain ⟨t, v, F', I', q', h1, h2, h3, h4, h5⟩ := h
  exact ⟨t, v, F', I', q', h1, h2, h3.before hb, h4, fun k hk => (h5 k hk).imp id fun y => Nat.le_trans hb.size y⟩
theorem seenG {els : List (PId × CQEl)} {x : PId} {o : PObj} {ob : CQObj} (h : ObjAg els x o ob) (hl : o.list = true) : (o.ss.map PSlot.id).filter (seenEl els) = pseen o := by
  unfold pseen
  rw [List.filter_map]
  congr 1
  apply List.filter_congr
  intro s hs
  obtain ⟨_, _, e, he, _, hp⟩ := h.elems hl s hs
  simp only [Function.comp, seenEl, he]
  rw [hp.length_eq, List.length_map]
theorem set2bothG {w : World} {g : Nat} {a b u v : Value} {t : TypeId} (h : w.heap[g]? = some (.cells #[a, b] t (0, 0))) : ((w.setCell ⟨g, 0, none⟩ u).setCell ⟨g, 1, none⟩ v).heap[g]? = some (.cells #[u, v] t (0, 0)) := by
  have h1 := setRow (i := 1) (u := v) (setRow (i := 0) (u := u) h)
  simpa using h1

section
theorem RepM.elements {w : World} {rb : Nat} {F I : Nat → Prop} {N sp c : Nat} {gt : Int} {has : Nat → Int} {ops : List MOp} {early : List (PId × MOp)} {q : RQ} (h : RepM w rb F I N sp c gt has ops early q) {R : List PObj} (hag : Agree R q.D) {x : PId} {o : PObj} (ho : objOf R x = some o) (hl : o.list = true) (hlen : o.ss.length ≤ 10000) (W : World) (hb : Below w.heap.size w W) :
    Calls Tryz.prog 57 #[.pointer (some ⟨q.d, 0, none⟩), .agg #[.int .i64 x.1, .int .i64 x.2]] W fun e w' => ∃ u, e = .returned u ∧ ownIds W.heap.size w' u (pseen o) ∧ Below W.heap.size W w' := by
  obtain ⟨ob, hob, hag⟩ := hag.o1 x o ho
  have := elements_q (h.hist.q.keep hb) x.1 x.2 hob (hag.list.trans hl) (hag.chain hl) (by rw [List.length_map]; exact hlen)
  rw [seenG hag hl] at this
  exact this

set_option maxRecDepth 1000000 in
set_option maxHeartbeats 4000000 in
theorem setNumber_any {w : World} {rb : Nat} {F I : Nat → Prop} {N sp c : Nat} {gt : Int} {has : Nat → Int} {ops : List MOp} {early : List (PId × MOp)} {q : RQ} (h : RepM w rb F I N sp c gt has ops early q) (hw : Wri c gt has ops q) (ob el : PId) (key : ByteArray) (n : Int) :
    Calls Tryz.prog 47 #[.pointer (some ⟨rb, 0, none⟩), .agg #[.int .i64 ob.1, .int .i64 ob.2, .string key, .int .i64 el.1, .int .i64 el.2], .int .i64 n] w fun e w' => (has c < 60 ∧ e = .returned (.int .i64 0) ∧ ∃ ss, ss.Perm ((atPl q.D.1 q.D.2 ob key el).vs.map (·.1)) ∧ Asc ss ∧ WroteM F I N sp c rb gt has ops early q w w' (.inr (.inr (.inl (ob, key, el, (n, (0, 0)), ss))))) ∨ (¬ has c < 60 ∧ e = .returned (.int .i64 8) ∧ Below w.heap.size w w') := by
  have HB := hid ((Below.refl w.heap.size w).alloc (Nat.le_refl _) (.cells #[.int .i64 ob.1, .int .i64 ob.2, .string key, .int .i64 el.1, .int .i64 el.2] 97))
  have HM := hid (mayMake_any (h.keep HB.out) 1 (by omega))
  have HG := hid (fun W (hb : Below w.heap.size w W) => give_any (h.keep hb) hw ob el key (n, (0, 0)))
  clear h hw
  have HP0 := hid (blk_new w (.cells #[.int .i64 ob.1, .int .i64 ob.2, .string key, .int .i64 el.1, .int .i64 el.2] 97))
  go_enter Tryz.func47, Tryz.ntmps47
  go_wp2_with fail
  refine HM.out.mono ?_
  rintro e w1 ⟨rfl, hb1⟩
  obtain ⟨b0, b1, b2, b3, b4⟩ := blk5 (blk_keep HP0.out hb1)
  have HB1 := hid (HB.out.trans (hb1.mono HB.out.size)); clear hb1
  by_cases hl : has c < 60
  · have hd : decide (has c + ((1 : Nat) : Int) ≤ 60) = true := decide_eq_true (by omega)
    rw [hd]
    have HL := hid hl
    clear hl hd
    go_wp2_with fail
    refine (HG.out w1 HB1.out).mono ?_
    rintro e w2 ⟨⟨r, rfl⟩, ss, hp, ha, hwr⟩
    have HX := hid (And.intro hp (And.intro ha hwr)); clear hp ha hwr
    go_wp2
    go_ret
    exact .inl ⟨HL.out, rfl, ss, HX.out.1, HX.out.2.1, HX.out.2.2.before HB1.out⟩
  · have hd : decide (has c + ((1 : Nat) : Int) ≤ 60) = false := decide_eq_false (by omega)
    rw [hd]
    have HL := hid hl
    clear hl hd
    go_wp2
    go_ret
    exact .inr ⟨HL.out, rfl, HB1.out⟩

set_option maxRecDepth 1000000 in
set_option maxHeartbeats 4000000 in
theorem repCut_any {w : World} {rb : Nat} {F I : Nat → Prop} {N sp c : Nat} {gt : Int} {has : Nat → Int} {ops : List MOp} {early : List (PId × MOp)} {q : RQ} (h : RepM w rb F I N sp c gt has ops early q) (hw : Wri c gt has ops q) (ob el : PId) (key : ByteArray) :
    Calls Tryz.prog 65 #[.pointer (some ⟨rb, 0, none⟩), .agg #[.int .i64 ob.1, .int .i64 ob.2, .string key, .int .i64 el.1, .int .i64 el.2]] w fun e w' => (has c < 60 ∧ e = .returned (.int .i64 0) ∧ ∃ ss, ss.Perm ((atPl q.D.1 q.D.2 ob key el).vs.map (·.1)) ∧ Asc ss ∧ WroteM F I N sp c rb gt has ops early q w w' (.inr (.inr (.inr (ob, key, el, ss))))) ∨ (¬ has c < 60 ∧ e = .returned (.int .i64 8) ∧ Below w.heap.size w w') := by
  have HF := hid h.lt
  have HI := hid h
  have HB := hid ((Below.refl w.heap.size w).alloc (Nat.le_refl _) (.cells #[.int .i64 ob.1, .int .i64 ob.2, .string key, .int .i64 el.1, .int .i64 el.2] 97))
  have HM := hid (mayMake_any (h.keep HB.out) 1 (by omega))
  have HD := hid (fun W (hb : Below w.heap.size w W) => document_any (h.keep hb))
  have HG := hid (fun W (hb : Below w.heap.size w W) => givers_any (h.keep hb).hist.q ob.1 ob.2 el.1 el.2 key (hw.vals ob key el).1 (hw.vals ob key el).2)
  have HWR := hid (fun (W : World) (hb : Below w.heap.size w W) (I' : Nat → Prop) (h1 : ∀ k, I k → I' k) (h2 : ∀ k, I' k → k < W.heap.size) (h3 : ∀ k, I' k → ¬ F k) (t : TypeId) (v : Value) (chg : QChg) (hx : isChgI W I' (.iface t v) chg) => write_any ((h.keep hb).moreI h1 h2 h3) ⟨hw.g.1, by have := hw.g.2; omega⟩ ⟨hw.h.1, by have := hw.h.2; omega⟩ hw.old (by have := hw.len; omega) t v chg hx)
  clear h hw
  have HP0 := hid (blk_new w (.cells #[.int .i64 ob.1, .int .i64 ob.2, .string key, .int .i64 el.1, .int .i64 el.2] 97))
  go_enter Tryz.func65, Tryz.ntmps65
  go_wp2_with fail
  refine HM.out.mono ?_
  rintro e w1 ⟨rfl, hb1⟩
  have HP1 := hid (blk_keep HP0.out hb1)
  have HB1 := hid (HB.out.trans (hb1.mono HB.out.size)); clear hb1
  by_cases hl : has c < 60
  · have hd : decide (has c + ((1 : Nat) : Int) ≤ 60) = true := decide_eq_true (by omega)
    rw [hd]
    have HL := hid hl
    clear hl hd
    go_wp2_with fail
    go_region_held3 (fun W => W.cell? ⟨w.heap.size, 0, none⟩ = some (.int .i64 ob.1) ∧ W.cell? ⟨w.heap.size, 1, none⟩ = some (.int .i64 ob.2) ∧ W.cell? ⟨w.heap.size, 2, none⟩ = some (.string key) ∧ W.cell? ⟨w.heap.size, 3, none⟩ = some (.int .i64 el.1) ∧ W.cell? ⟨w.heap.size, 4, none⟩ = some (.int .i64 el.2)) (first | exact blk5 HP1.out | exact blk5 HP4.out | exact blk5 HP3.out | exact blk5 HP2.out)
      (first
        | (go_at_call 48; refine (HD.out _ HB1.out.drew).mono ?_; rintro e w2 ⟨rfl, hb2⟩; have HP2 := hid (blk_keep HP1.out (Hid.out (below_drew_left hb2))); have HB2 := hid (HB1.out.drew.trans (hb2.mono HB1.out.size)); clear hb2)
        | (go_at_call 92; refine (HG.out w2 HB2.out).mono ?_; rintro e w3 ⟨u, ss, rfl, hp, ha, hu, hb3⟩; have HP3 := hid (blk_keep HP2.out hb3); obtain ⟨ua, uc, rfl, _, _, _⟩ := owns_form hu; have HU := hid (show isIds w3 (.slice ua ss.length uc) ss from hu.ids); have HUB := hid (fun k (hk : (Value.slice ua ss.length uc).ownBlock = some k) => World.ownsRow.lt hu k hk); have HB3 := hid (HB2.out.trans (hb3.mono HB2.out.size)); have HPA := hid (And.intro hp ha); clear hu hb3 hp ha)
        | (go_at_call 91; refine (HWR.out w3 HB3.out (fun k => I k ∨ (Value.slice ua ss.length uc).ownBlock = some k) (fun k hk => .inl hk) (fun k hk => hk.elim (fun h1 => Nat.lt_of_lt_of_le (HI.out.iI k h1) HB3.out.size) fun h1 => (HUB.out k h1).2) (fun k hk hF => hk.elim (fun h1 => HI.out.nI k h1 hF) fun h1 => by have := (HUB.out k h1).1; have := HF.out k hF; have := HB2.out.size; omega) 184 _ (.inr (.inr (.inr (ob, key, el, ss)))) ?hch).mono ?_; (case hch => exact ⟨_, rfl, HU.out, fun k hk => .inr hk⟩); rintro e w4 ⟨rfl, F', q', hr4, hs4, hk4⟩; have HP4 := hid ((hk4.other _ (blk_lt HP3.out) (fun hF => by have := HF.out _ hF; omega)).trans HP3.out); have HR4 := hid hr4; have HK4 := hid hk4; have HS4 := hid hs4; clear hr4 hk4 hs4))
    all_goals go_wp2
    all_goals go_ret
    all_goals exact .inl ⟨HL.out, rfl, ss, HPA.out.1, HPA.out.2, _, _, F', _, q', HR4.out, HS4.out, HK4.out.before HB3.out, fun k hk => .inl hk, fun k hk => hk.imp id fun h1 => Nat.le_trans HB2.out.size (HUB.out k h1).1⟩
  · have hd : decide (has c + ((1 : Nat) : Int) ≤ 60) = false := decide_eq_false (by omega)
    rw [hd]
    have HL := hid hl
    clear hl hd
    go_wp2
    go_ret
    exact .inr ⟨HL.out, rfl, HB1.out⟩

set_option maxRecDepth 1000000 in
set_option maxHeartbeats 4000000 in
theorem layAt_any {w : World} {rb : Nat} {F I : Nat → Prop} {N sp c : Nat} {gt : Int} {has : Nat → Int} {ops : List MOp} {early : List (PId × MOp)} {q : RQ} (h : RepM w rb F I N sp c gt has ops early q) (hw : Wri c gt has ops q) {R : List PObj} (hag : Agree R q.D) {x : PId} {o : PObj} (ho : objOf R x = some o) (hol : o.list = true) (hss : o.ss.length ≤ 300) (i : Int) {b : PId} (hi : behindP (pseen o) i = some b) :
    Calls Tryz.prog 61 #[.pointer (some ⟨rb, 0, none⟩), .agg #[.int .i64 x.1, .int .i64 x.2], .int .i64 i] w fun e w' => e = .returned (.agg #[.int .i64 (gt + 1), .int .i64 c]) ∧ WroteM F I N sp c rb gt has ops early q w w' (.inr (.inl (x, b))) := by
  have HF := hid h.lt
  have HII := hid h.iI
  have HB := hid (((((Below.refl w.heap.size w).alloc (Nat.le_refl _) (.cells #[.int .i64 x.1, .int .i64 x.2] 36)).alloc (by simp <;> omega) (.cells #[.int .i64 0, .int .i64 0] 36)).alloc (by simp <;> omega) (.cells #[.int .i64 0, .int .i64 0] 36)))
  have HD := hid (fun W (hb : Below w.heap.size w W) => document_any (h.keep hb))
  have HE := hid (h.elements hag ho hol (by omega))
  have HWR := hid (fun (W : World) (hb : Below w.heap.size w W) => write_any (h.keep hb) ⟨hw.g.1, by have := hw.g.2; omega⟩ ⟨hw.h.1, by have := hw.h.2; omega⟩ hw.old (by have := hw.len; omega) 179 (.agg #[.int .i64 x.1, .int .i64 x.2, .int .i64 b.1, .int .i64 b.2]) (.inr (.inl (x, b))) rfl)
  have hpl : (pseen o).length ≤ 300 := by
    have h3 : (pseen o).length ≤ o.ss.length := by unfold pseen; rw [List.length_map]; exact List.length_filter_le _ _
    omega
  clear h ho hol hw hag hss
  unfold behindP at hi
  have hi0 : ¬ (i < 0 ∨ i > (pseen o).length) := fun hh => by rw [if_pos hh] at hi; cases hi
  rw [if_neg hi0] at hi
  have HX0 := hid (show (((w.alloc (.cells #[.int .i64 x.1, .int .i64 x.2] 36)).alloc (.cells #[.int .i64 0, .int .i64 0] 36)).alloc (.cells #[.int .i64 0, .int .i64 0] 36)).heap[w.heap.size]? = some (.cells #[.int .i64 x.1, .int .i64 x.2] 36 (0, 0)) from (alloc_old_r _ _ (by simp; omega)).trans ((alloc_old_r _ _ (by simp)).trans (blk_new w _)))
  have HX1 := hid (show (((w.alloc (.cells #[.int .i64 x.1, .int .i64 x.2] 36)).alloc (.cells #[.int .i64 0, .int .i64 0] 36)).alloc (.cells #[.int .i64 0, .int .i64 0] 36)).heap[w.heap.size + 1]? = some (.cells #[.int .i64 0, .int .i64 0] 36 (0, 0)) from (alloc_old_r _ _ (by simp)).trans (by
    have := blk_new (w.alloc (.cells #[.int .i64 x.1, .int .i64 x.2] 36)) (.cells #[.int .i64 0, .int .i64 0] 36)
    rw [show (w.alloc (.cells #[.int .i64 x.1, .int .i64 x.2] 36)).heap.size = w.heap.size + 1 by simp] at this
    exact this))
  have HX2 := hid (show (((w.alloc (.cells #[.int .i64 x.1, .int .i64 x.2] 36)).alloc (.cells #[.int .i64 0, .int .i64 0] 36)).alloc (.cells #[.int .i64 0, .int .i64 0] 36)).heap[w.heap.size + 1 + 1]? = some (.cells #[.int .i64 0, .int .i64 0] 36 (0, 0)) from (by
    have := blk_new ((w.alloc (.cells #[.int .i64 x.1, .int .i64 x.2] 36)).alloc (.cells #[.int .i64 0, .int .i64 0] 36)) (.cells #[.int .i64 0, .int .i64 0] 36)
    rw [show ((w.alloc (.cells #[.int .i64 x.1, .int .i64 x.2] 36)).alloc (.cells #[.int .i64 0, .int .i64 0] 36)).heap.size = w.heap.size + 1 + 1 by simp] at this
    exact this))
  have HNF := hid (show ∀ k, w.heap.size ≤ k → ¬ F k from fun k hk hF => by have := HF.out k hF; omega)
  have HNI := hid (show ∀ k, w.heap.size ≤ k → ¬ I k from fun k hk hF => by have := HII.out k hF; omega)
  by_cases hz : i = 0
  · subst hz
    rw [if_pos rfl] at hi
    cases hi
    go_enter Tryz.func61, Tryz.ntmps61
    go_wp2_with fail
    refine (HWR.out _ HB.out).mono ?_
    rintro e w3 ⟨rfl, F', q', hr3, hs3, hk3⟩
    have hb1 := (hk3.other _ (blk_lt HX1.out) (HNF.out _ (by omega))).trans HX1.out
    obtain ⟨r0, r1⟩ := blk2 hb1
    have rf := blk_fz hb1
    have rl := blk_lt hb1
    have HR3 := hid hr3; have HK3 := hid hk3; have HS3 := hid hs3
    clear hr3 hk3 hb1 hs3
    go_wp2
    refine bodyPost_ret (v := .agg #[.int .i64 (gt + 1), .int .i64 c]) (by simp [results, Tryz.results61, go_sem, r0, r1]) rfl ?_
    have hnF' : ¬ F' (w.heap.size + 1) := fun hF => by
      rcases HK3.out.sub _ hF with h | h
      · exact HNF.out _ (by omega) h
      · simp at h; omega
    have hnI := HNI.out (w.heap.size + 1) (by omega)
    exact ⟨rfl, _, _, F', I, q', (HR3.out.set _ hnF' hnI).set _ hnF' hnI, HS3.out, ((HK3.out.before HB.out).setNew (by omega) _).setNew (by omega) _, fun _ y => y, fun _ y => .inl y⟩
  · rw [if_neg hz] at hi
    obtain ⟨j, rfl⟩ : ∃ j : Nat, i = (j : Int) + 1 := ⟨(i - 1).toNat, by omega⟩
    rw [show ((j : Int) + 1 - 1).toNat = j by omega] at hi
    obtain ⟨hj, hbj⟩ := List.getElem?_eq_some_iff.1 hi
    have hj0 : (0 : Int) ≤ (j : Int) := Int.natCast_nonneg _
    have hj1 : (j : Int) < ((pseen o).length : Int) := by omega
    have HBJ := hid hbj; clear hi hbj
    have hjs : (j : Int) + 1 - 1 = (j : Int) := by omega
    have hjw : IntKind.i64.wrap (j : Int) = (j : Int) := Go.IntWalk.i64_in _ (by omega)
    have hjl : j < (pseen o).length := hj
    obtain ⟨x0, x1⟩ := blk2 HX0.out
    go_enter Tryz.func61, Tryz.ntmps61
    go_wp2_with fail
    go_region_with (first
      | (go_at_call 48; refine (HD.out _ HB.out.drew).mono ?_; rintro e w1 ⟨rfl, hb1⟩; have hb1' := Hid.out (below_drew_left hb1); have HY0 := hid (blk_keep HX0.out hb1'); have HY1 := hid (blk_keep HX1.out hb1'); have HY2 := hid (blk_keep HX2.out hb1'); replace x0 := (blk2 HY0.out).1; replace x1 := (blk2 HY0.out).2; have HB1 := hid (HB.out.drew.trans (hb1.mono HB.out.size)); clear hb1 hb1')
      | (go_at_call 57; refine (HE.out w1 HB1.out).mono ?_; rintro e w2 ⟨u, rfl, hu, hb2⟩; obtain ⟨ua, uc, rfl, hul, hum, huf⟩ := owns_form hu; obtain ⟨gu, rfl⟩ := huf j hj; clear huf; unfold maxLen at hum; obtain ⟨u0, u1⟩ := isIds.cells hu.ids rfl j hj; rw [HBJ.out] at u0 u1; have HZ0 := hid (blk_keep HY0.out hb2); have HZ1 := hid (blk_keep HY1.out hb2); have HZ2 := hid (blk_keep HY2.out hb2); have z0 := (blk2 HZ2.out).1; have z1 := (blk2 HZ2.out).2; have zf := blk_fz HZ2.out; replace x0 := (blk2 HZ0.out).1; replace x1 := (blk2 HZ0.out).2; have HB2 := hid (HB1.out.trans (hb2.mono HB1.out.size)); have HGU := hid (World.ownsRow.lt hu gu rfl).1; clear hu hb2))
    all_goals (
      generalize hW : (w2.setCell ⟨w.heap.size + 1 + 1, 0, none⟩ (.int .i64 b.1)).setCell ⟨w.heap.size + 1 + 1, 1, none⟩ (.int .i64 b.2) = w3
      have HQ2 := hid (show w3.heap[w.heap.size + 1 + 1]? = some (.cells #[.int .i64 b.1, .int .i64 b.2] 36 (0, 0)) by rw [← hW]; exact set2bothG HZ2.out)
      have HQ1 := hid (show w3.heap[w.heap.size + 1]? = some (.cells #[.int .i64 0, .int .i64 0] 36 (0, 0)) by rw [← hW, setCell_other (by omega), setCell_other (by omega)]; exact HZ1.out)
      have HQ0 := hid (show w3.heap[w.heap.size]? = some (.cells #[.int .i64 x.1, .int .i64 x.2] 36 (0, 0)) by rw [← hW, setCell_other (by omega), setCell_other (by omega)]; exact HZ0.out)
      have HB3 := hid (show Below w.heap.size w w3 by rw [← hW]; exact (HB2.out.setCell (show w.heap.size ≤ w.heap.size + 1 + 1 by omega) _).setCell (show w.heap.size ≤ w.heap.size + 1 + 1 by omega) _)
      clear hW
      replace x0 := (blk2 HQ0.out).1
      replace x1 := (blk2 HQ0.out).2
      replace z0 := (blk2 HQ2.out).1
      replace z1 := (blk2 HQ2.out).2
      go_wp2_with fail
      refine (HWR.out _ HB3.out).mono ?_
      rintro e w4 ⟨rfl, F', q', hr3, hs3, hk3⟩
      have hb1 := (hk3.other _ (blk_lt HQ1.out) (HNF.out _ (by omega))).trans HQ1.out
      obtain ⟨r0, r1⟩ := blk2 hb1
      have rf := blk_fz hb1
      have rl := blk_lt hb1
      have HR3 := hid hr3
      have HK3 := hid hk3
      have HS3 := hid hs3
      have hq1 := blk_lt HQ1.out
      clear hr3 hk3 hb1 x0 x1 z0 z1 zf hs3
      go_wp2
      refine bodyPost_ret (v := .agg #[.int .i64 (gt + 1), .int .i64 c]) (by simp [results, Tryz.results61, go_sem, r0, r1]) rfl ?_
      have hnF' : ¬ F' (w.heap.size + 1) := fun hF => by
        rcases HK3.out.sub _ hF with h | h
        · exact HNF.out _ (by omega) h
        · omega
      have hnI := HNI.out (w.heap.size + 1) (by omega)
      exact ⟨rfl, _, _, F', I, q', (HR3.out.set _ hnF' hnI).set _ hnF' hnI, HS3.out, ((HK3.out.before HB3.out).setNew (by omega) _).setNew (by omega) _, fun _ y => y, fun _ y => .inl y⟩)
end

end Go.Proofs.YtnkpogjiiohapaaGreatDoor

/-! GGhD: Plain: a copy makes one operation more. -/
namespace Go.Proofs.YtnkpogjiiohapaaGreatDoor

def addM (M : Nat → List MOp) (c : Nat) (o : MOp) : Nat → List MOp := upd M c (M c ++ [o])
theorem addM_same (M : Nat → List MOp) (c : Nat) (o : MOp) : addM M c o c = M c ++ [o] := upd_same _ _ _
theorem addM_ne (M : Nat → List MOp) {c e : Nat} (o : MOp) (h : e ≠ c) : addM M c o e = M e := upd_ne _ _ h
theorem addM_sub {M : Nat → List MOp} {c e : Nat} {o y : MOp} (h : y ∈ M e) : y ∈ addM M c o e := by
  by_cases he : e = c
  · subst he; rw [addM_same]; exact List.mem_append_left _ h
  · rw [addM_ne _ _ he]; exact h
theorem addM_len (M : Nat → List MOp) (c e : Nat) (o : MOp) : (M e).length ≤ (addM M c o e).length := by
  by_cases he : e = c
  · subst he; rw [addM_same]; simp
  · rw [addM_ne _ _ he]; exact Nat.le_refl _
theorem isMade.add {N : Nat} {M : Nat → List MOp} {c : Nat} {o y : MOp} (h : isMade N M y) : isMade N (addM M c o) y := by
  obtain ⟨e, he, hm⟩ := h
  exact ⟨e, he, addM_sub hm⟩
theorem MsgOk.add {N : Nat} {M : Nat → List MOp} {c : Nat} {o : MOp} : ∀ {m : Msg}, MsgOk N M m → MsgOk N (addM M c o) m
  | .inl _, ⟨h1, h2⟩ => ⟨h1, fun i hi => ⟨(h2 i hi).1, Int.le_trans (h2 i hi).2 (by have := addM_len M c i o; omega)⟩⟩
  | .inr _, h => fun y hy => (h y hy).add
theorem tot_add {M : Nat → List MOp} {c : Nat} {o : MOp} : ∀ n, tot (addM M c o) n = tot M n + if c < n then 1 else 0
  | 0 => by simp [tot]
  | n + 1 => by
    unfold tot
    rw [tot_add n]
    by_cases h : n = c
    · subst h
      rw [addM_same, if_neg (by omega), if_pos (by omega), List.length_append]
      simp
      omega
    · rw [addM_ne _ _ h]
      by_cases h2 : c < n
      · rw [if_pos h2, if_pos (by omega)]; omega
      · rw [if_neg h2, if_neg (by omega)]; omega
theorem tot_le {N : Nat} {M : Nat → List MOp} (h : ∀ c, c < N → (M c).length ≤ 60) : ∀ n, n ≤ N → tot M n ≤ n * 60
  | 0, _ => Nat.le_refl _
  | n + 1, hn => by
    have h1 := tot_le h n (by omega)
    have h2 := h n (by omega)
    unfold tot
    omega
theorem take_add {M : Nat → List MOp} {c e : Nat} {o : MOp} {n : Nat} (h : n ≤ (M e).length) : (addM M c o e).take n = (M e).take n := by
  by_cases he : e = c
  · subst he; rw [addM_same, List.take_append_of_le_length h]
  · rw [addM_ne _ _ he]
/-- What a copy has while another one makes one more. -/
theorem CopyOk.add {N : Nat} {M : Nat → List MOp} {gt : Int} {has : Nat → Int} {ops : List MOp} {early : List (PId × MOp)} (h : CopyOk N M gt has ops early) (c : Nat) (o : MOp) : CopyOk N (addM M c o) gt has ops early := by
  refine ⟨fun e he => ⟨(h.hasL e he).1, Int.le_trans (h.hasL e he).2 (by have := addM_len M c e o; omega)⟩, ?_, h.gtL, fun p hp => ⟨(h.earlyL p hp).1.add, (h.earlyL p hp).2⟩, h.keysL⟩
  rw [firsts_congr (M' := M) (has' := has) fun e he => take_add (by have := h.hasL e he; omega)]
  exact h.perm
theorem firsts_add {M : Nat → List MOp} {has : Nat → Int} {c : Nat} {o : MOp} {N : Nat} (hb : ∀ e, e < N → 0 ≤ has e ∧ has e ≤ (M e).length) (hc : has c = (M c).length) : ∀ n, n ≤ N → (firsts (addM M c o) (upd has c (has c + 1)) n).Perm (firsts M has n ++ if c < n then [o] else [])
  | 0, _ => by simp [firsts]
  | n + 1, hn => by
    have ih := firsts_add (o := o) hb hc n (by omega)
    rw [firsts_succ, firsts_succ]
    by_cases h : n = c
    · subst h
      rw [addM_same, upd_same, if_pos (by omega)]
      rw [if_neg (by omega), List.append_nil] at ih
      have e1 : (M n ++ [o]).take (has n + 1).toNat = M n ++ [o] := List.take_of_length_le (by rw [List.length_append]; simp; omega)
      have e2 : (M n).take (has n).toNat = M n := List.take_of_length_le (by omega)
      rw [e1, e2, List.append_assoc]
      exact ih.append_right _
    · have hbn := hb n (by omega)
      rw [upd_ne _ _ h, take_add (by omega)]
      by_cases h2 : c < n
      · rw [if_pos h2] at ih
        rw [if_pos (by omega)]
        refine (ih.append_right _).trans ?_
        rw [List.append_assoc, List.append_assoc]
        exact List.Perm.append_left _ List.perm_append_comm
      · rw [if_neg h2] at ih
        rw [if_neg (by omega), List.append_nil]
        rw [List.append_nil] at ih
        exact ih.append_right _

/-- ONE OPERATION MORE. -/
theorem RoomOk.wrote {N : Nat} {M : Nat → List MOp} {s : RoomS} (h : RoomOk N M s) {c : Nat} (hc : c < N) (hl : (M c).length < 60) (chg : QChg) (t : TypeId) (v : Value) :
    RoomOk N (addM M c (newOp c (s.gt c) (s.has c) chg t v)) (copyS s c (s.gt c + 1) (upd (s.has c) c (s.has c c + 1)) (s.ops c ++ [newOp c (s.gt c) (s.has c) chg t v]) (s.early c)) := by
  obtain ⟨o, ho⟩ : ∃ o, o = newOp c (s.gt c) (s.has c) chg t v := ⟨_, rfl⟩
  have o1 : o.op.id.1 = s.gt c + 1 := by rw [ho]; rfl
  have o2 : o.op.id.2 = (c : Int) := by rw [ho]; rfl
  have o3 : o.op.nth = s.has c c + 1 := by rw [ho]; rfl
  rw [← ho]
  clear ho
  have hown := h.own c hc
  have hg0 := (h.gtU c hc).1
  have hle : ∀ y ∈ M c, y.op.id.1 ≤ s.gt c := fun y hy => by
    have hym : isMade N M y := ⟨c, hc, hy⟩
    obtain ⟨i, hi, e, a1, a2, _⟩ := h.made.at hc hy
    exact (h.copy c hc).gtL y (((h.copy c hc).mem h.made hym).2 (by rw [show y.op.id.2.toNat = c by omega]; omega))
  have hmade : MadeOk N (addM M c o) := by
    refine ⟨fun e he i hi => ?_, fun e he => ?_, fun e he => ?_⟩
    · by_cases hec : e = c
      · subst hec
        simp only [addM_same] at hi ⊢
        rw [List.length_append, List.length_singleton] at hi
        by_cases hlt : i < (M e).length
        · rw [List.getElem_append_left hlt]
          exact h.made.id e he i hlt
        · have hie : i = (M e).length := by omega
          subst hie
          rw [List.getElem_append_right (Nat.le_refl _)]
          simp only [Nat.sub_self, List.getElem_cons_zero]
          exact ⟨o2, by rw [o3, hown], by rw [o1]; omega⟩
      · simp only [addM_ne _ _ hec] at hi ⊢
        exact h.made.id e he i hi
    · by_cases hec : e = c
      · subst hec
        rw [addM_same, List.length_append, List.length_singleton]
        omega
      · rw [addM_ne _ _ hec]; exact h.made.len e he
    · by_cases hec : e = c
      · subst hec
        rw [addM_same]
        refine List.pairwise_append.2 ⟨h.made.asc e he, List.pairwise_singleton _ _, fun a ha b hb => ?_⟩
        obtain rfl := List.mem_singleton.1 hb
        have := hle a ha
        omega
      · rw [addM_ne _ _ hec]; exact h.made.asc e he
  refine ⟨hmade, fun e he => ?_, fun e he => ?_, fun e he => ?_, fun e he => ?_, fun e he y hy => ?_, fun a b ha hb hab m hm => (h.msgs a b ha hb hab m hm).add⟩
  · unfold copyS
    by_cases hec : e = c
    · subst hec
      simp only [upd_same]
      refine ⟨fun i hi => ?_, ?_, fun y hy => ?_, fun p hp => ⟨((h.copy e he).earlyL p hp).1.add, ((h.copy e he).earlyL p hp).2⟩, (h.copy e he).keysL⟩
      · by_cases hie : i = e
        · subst hie
          rw [upd_same, addM_same, List.length_append, List.length_singleton]
          omega
        · rw [upd_ne _ _ hie, addM_ne _ _ hie]
          exact (h.copy e he).hasL i hi
      · have := firsts_add (o := o) (h.copy e he).hasL hown N (Nat.le_refl _)
        rw [if_pos he] at this
        exact ((h.copy e he).perm.append_right _).trans this.symm
      · rcases List.mem_append.1 hy with hy | hy
        · have := (h.copy e he).gtL y hy; omega
        · obtain rfl := List.mem_singleton.1 hy; omega
    · simp only [upd_ne _ _ hec]
      exact (h.copy e he).add c o
  · unfold copyS
    by_cases hec : e = c
    · subst hec
      simp only [upd_same]
      rw [addM_same, List.length_append, List.length_singleton]
      omega
    · simp only [upd_ne _ _ hec]
      rw [addM_ne _ _ hec]
      exact h.own e he
  · unfold copyS
    by_cases hec : e = c
    · subst hec
      simp only [upd_same]
      refine List.pairwise_append.2 ⟨h.asc e he, List.pairwise_singleton _ _, fun a ha b hb => ?_⟩
      obtain rfl := List.mem_singleton.1 hb
      have := (h.copy e he).gtL a ha
      exact (ltI_iff _ _).2 (.inl (by omega))
    · simp only [upd_ne _ _ hec]
      exact h.asc e he
  · unfold copyS
    by_cases hec : e = c
    · subst hec
      simp only [upd_same]
      refine ⟨by omega, fun g hg _ => ?_⟩
      have := hg e he o (by rw [addM_same]; simp)
      omega
    · simp only [upd_ne _ _ hec]
      obtain ⟨g0, g1⟩ := h.gtU e he
      exact ⟨g0, fun g hg h0 => g1 g (fun f hf y hy => hg f hf y (addM_sub hy)) h0⟩
  · rw [tot_add, if_pos hc]
    by_cases hec : e = c
    · subst hec
      rw [addM_same] at hy
      rcases List.mem_append.1 hy with hy | hy
      · have := h.cnt e he y hy
        omega
      · obtain rfl := List.mem_singleton.1 hy
        have := (h.gtU e he).2 (tot M N) h.cnt (Int.natCast_nonneg _)
        omega
    · rw [addM_ne _ _ hec] at hy
      have := h.cnt e he y hy
      omega
theorem MadeDoc.wrote {N : Nat} {M : Nat → List MOp} (h : MadeDoc N M) {c : Nat} {o : MOp} (ho : ChgOk (M c) o.op.chg) : MadeDoc N (addM M c o) := fun e he i hi => by
  by_cases hec : e = c
  · subst hec
    simp only [addM_same] at hi ⊢
    rw [List.length_append, List.length_singleton] at hi
    by_cases hlt : i < (M e).length
    · rw [List.getElem_append_left hlt, List.take_append_of_le_length (by omega)]
      exact h e he i hlt
    · have hie : i = (M e).length := by omega
      subst hie
      rw [List.getElem_append_right (Nat.le_refl _), List.take_append_of_le_length (Nat.le_refl _), List.take_length]
      simp only [Nat.sub_self, List.getElem_cons_zero]
      exact ho
  · simp only [addM_ne _ _ hec] at hi ⊢
    exact h e he i hi

end Go.Proofs.YtnkpogjiiohapaaGreatDoor
