/- Our own text (GRepY, GRepZ). -/
import Derived.Test.YtnkpogjiiohapaaGreatDoorA29
import Derived.Test.YtnkpogjiiohapaaGreatDoorA19
import Derived.Test.YtnkpogjiiohapaaGreatDoorA20
set_option linter.unusedSimpArgs false
set_option linter.unusedVariables false

/-! GRepY: One copy of the program's room in general: makeObject, give. -/
namespace Go.Proofs.YtnkpogjiiohapaaGreatDoor
open Go.RowKit
attribute [local go_sem ↓] Go.wp_at_zero Go.wp_at_succ

theorem box53G {W : World} {g g' : Nat} {a b c d e x y z : Value} {t t' : TypeId} (h1 : W.heap[g]? = some (.cells #[a, b, c, d, e] t (0, 0))) (h2 : W.heap[g']? = some (.cells #[x, y, z] t' (0, 0))) :
    W.cell? ⟨g, 0, none⟩ = some a ∧ W.cell? ⟨g, 1, none⟩ = some b ∧ W.cell? ⟨g, 2, none⟩ = some c ∧ W.cell? ⟨g, 3, none⟩ = some d ∧ W.cell? ⟨g, 4, none⟩ = some e ∧ W.cell? ⟨g', 0, none⟩ = some x ∧ W.cell? ⟨g', 1, none⟩ = some y ∧ W.cell? ⟨g', 2, none⟩ = some z := by
  obtain ⟨h0, h3, h4, h5, h6⟩ := blk5 h1
  exact ⟨h0, h3, h4, h5, h6, by simp [World.cell?, h2], by simp [World.cell?, h2], by simp [World.cell?, h2]⟩
/-- A copy may write. -/
structure Wri (c : Nat) (gt : Int) (has : Nat → Int) (ops : List MOp) (q : RQ) : Prop where
  g : 0 ≤ gt ∧ gt ≤ 90000
  h : 0 ≤ has c ∧ has c ≤ 60
  old : ∀ o ∈ ops, o.op.id.1 ≤ gt
  len : ops.length ≤ 290
  vals : ∀ ob key el, (atPl q.D.1 q.D.2 ob key el).vs.length ≤ 10000 ∧ ((atPl q.D.1 q.D.2 ob key el).vs.map (·.1)).Nodup
/-- What one operation more leaves of a copy. -/
def WroteM (F I : Nat → Prop) (N sp c rb : Nat) (gt : Int) (has : Nat → Int) (ops : List MOp) (early : List (PId × MOp)) (q : RQ) (w w' : World) (chg : QChg) : Prop := ∃ t v F' I' q', RepM w' rb F' I' N sp c (gt + 1) (upd has c (has c + 1)) (ops ++ [newOp c gt has chg t v]) early q' ∧ sameQ q q' ∧ Keeps F F' w w' ∧ (∀ k, I k → I' k) ∧ ∀ k, I' k → I k ∨ w.heap.size ≤ k

section
set_option maxRecDepth 1000000 in
set_option maxHeartbeats 4000000 in
theorem makeObject_any {w : World} {rb : Nat} {F I : Nat → Prop} {N sp c : Nat} {gt : Int} {has : Nat → Int} {ops : List MOp} {early : List (PId × MOp)} {q : RQ} (h : RepM w rb F I N sp c gt has ops early q) (hw : Wri c gt has ops q) (lst : Bool) :
    Calls Tryz.prog 73 #[.pointer (some ⟨rb, 0, none⟩), .bool lst] w fun e w' => e = .returned (.agg #[.int .i64 (gt + 1), .int .i64 c]) ∧ WroteM F I N sp c rb gt has ops early q w w' (.inl lst) := by
  have HB := hid ((Below.refl w.heap.size w).alloc (Nat.le_refl _) (.cells #[.int .i64 0, .int .i64 0] 36))
  have HF := hid h.lt
  have HII := hid h.iI
  have HW := hid (write_any (h.keep HB.out) ⟨hw.g.1, by have := hw.g.2; omega⟩ ⟨hw.h.1, by have := hw.h.2; omega⟩ hw.old (by have := hw.len; omega) 197 (.agg #[.bool lst]) (.inl lst) rfl)
  clear h hw
  have HR1 := hid (blk_new w (.cells #[.int .i64 0, .int .i64 0] 36))
  go_enter Tryz.func73, Tryz.ntmps73
  go_wp2_with fail
  refine HW.out.mono ?_
  rintro e w2 ⟨rfl, F', q', hr2, hs2, hk2⟩
  have hb1 : w2.heap[w.heap.size]? = some (.cells #[.int .i64 0, .int .i64 0] 36 (0, 0)) := (hk2.other _ (by simp) (fun hF => by have := HF.out _ hF; omega)).trans HR1.out
  obtain ⟨r0, r1⟩ := blk2 hb1
  have rf := blk_fz hb1
  have rl := blk_lt hb1
  have HR2 := hid hr2; have HK2 := hid hk2; have HS2 := hid hs2
  clear hr2 hk2 hb1 hs2
  go_wp2
  refine bodyPost_ret (v := .agg #[.int .i64 (gt + 1), .int .i64 c]) (by simp [results, Tryz.results73, go_sem, r0, r1]) rfl ?_
  have hnF' : ¬ F' w.heap.size := fun hF => by
    rcases HK2.out.sub _ hF with h | h
    · have := HF.out _ h; omega
    · simp at h; omega
  have hnI : ¬ I w.heap.size := fun hI => by have := HII.out _ hI; omega
  exact ⟨rfl, _, _, F', I, q', (HR2.out.set _ hnF' hnI).set _ hnF' hnI, HS2.out, ((HK2.out.before HB.out).setNew (Nat.le_refl _) _).setNew (Nat.le_refl _) _, fun _ y => y, fun _ y => .inl y⟩

set_option maxRecDepth 1000000 in
set_option maxHeartbeats 4000000 in
theorem give_any {w : World} {rb : Nat} {F I : Nat → Prop} {N sp c : Nat} {gt : Int} {has : Nat → Int} {ops : List MOp} {early : List (PId × MOp)} {q : RQ} (h : RepM w rb F I N sp c gt has ops early q) (hw : Wri c gt has ops q) (ob el : PId) (key : ByteArray) (val : PVal) :
    Calls Tryz.prog 62 #[.pointer (some ⟨rb, 0, none⟩), .agg #[.int .i64 ob.1, .int .i64 ob.2, .string key, .int .i64 el.1, .int .i64 el.2], .agg #[.int .i64 val.1, .int .i64 val.2.1, .int .i64 val.2.2]] w fun e w' => (∃ r, e = .returned r) ∧ ∃ ss, ss.Perm ((atPl q.D.1 q.D.2 ob key el).vs.map (·.1)) ∧ Asc ss ∧ WroteM F I N sp c rb gt has ops early q w w' (.inr (.inr (.inl (ob, key, el, val, ss)))) := by
  have HF := hid h.lt
  have HI := hid h
  have HB := hid (((Below.refl w.heap.size w).alloc (Nat.le_refl _) (.cells #[.int .i64 ob.1, .int .i64 ob.2, .string key, .int .i64 el.1, .int .i64 el.2] 97)).alloc (by simp) (.cells #[.int .i64 val.1, .int .i64 val.2.1, .int .i64 val.2.2] 57))
  have HD := hid (fun W (hb : Below w.heap.size w W) => document_any (h.keep hb))
  have HG := hid (fun W (hb : Below w.heap.size w W) => givers_any (h.keep hb).hist.q ob.1 ob.2 el.1 el.2 key (hw.vals ob key el).1 (hw.vals ob key el).2)
  have HWR := hid (fun (W : World) (hb : Below w.heap.size w W) (I' : Nat → Prop) (h1 : ∀ k, I k → I' k) (h2 : ∀ k, I' k → k < W.heap.size) (h3 : ∀ k, I' k → ¬ F k) (t : TypeId) (v : Value) (chg : QChg) (hx : isChgI W I' (.iface t v) chg) => write_any ((h.keep hb).moreI h1 h2 h3) ⟨hw.g.1, by have := hw.g.2; omega⟩ ⟨hw.h.1, by have := hw.h.2; omega⟩ hw.old (by have := hw.len; omega) t v chg hx)
  clear h hw
  go_enter Tryz.func62, Tryz.ntmps62
  go_wp2_with fail
  have HP0 := hid ((alloc_old_r (w.alloc (.cells #[.int .i64 ob.1, .int .i64 ob.2, .string key, .int .i64 el.1, .int .i64 el.2] 97)) (.cells #[.int .i64 val.1, .int .i64 val.2.1, .int .i64 val.2.2] 57) (r := w.heap.size) (by simp)).trans (blk_new w _))
  have HV0 := hid (show ((w.alloc (.cells #[.int .i64 ob.1, .int .i64 ob.2, .string key, .int .i64 el.1, .int .i64 el.2] 97)).alloc (.cells #[.int .i64 val.1, .int .i64 val.2.1, .int .i64 val.2.2] 57)).heap[w.heap.size + 1]? = some (.cells #[.int .i64 val.1, .int .i64 val.2.1, .int .i64 val.2.2] 57 (0, 0)) by
    have := blk_new (w.alloc (.cells #[.int .i64 ob.1, .int .i64 ob.2, .string key, .int .i64 el.1, .int .i64 el.2] 97)) (.cells #[.int .i64 val.1, .int .i64 val.2.1, .int .i64 val.2.2] 57)
    rw [show (w.alloc (.cells #[.int .i64 ob.1, .int .i64 ob.2, .string key, .int .i64 el.1, .int .i64 el.2] 97)).heap.size = w.heap.size + 1 by simp] at this
    exact this)
  go_region_held3 (fun W => W.cell? ⟨w.heap.size, 0, none⟩ = some (.int .i64 ob.1) ∧ W.cell? ⟨w.heap.size, 1, none⟩ = some (.int .i64 ob.2) ∧ W.cell? ⟨w.heap.size, 2, none⟩ = some (.string key) ∧ W.cell? ⟨w.heap.size, 3, none⟩ = some (.int .i64 el.1) ∧ W.cell? ⟨w.heap.size, 4, none⟩ = some (.int .i64 el.2) ∧
      W.cell? ⟨w.heap.size + 1, 0, none⟩ = some (.int .i64 val.1) ∧ W.cell? ⟨w.heap.size + 1, 1, none⟩ = some (.int .i64 val.2.1) ∧ W.cell? ⟨w.heap.size + 1, 2, none⟩ = some (.int .i64 val.2.2)) (first | exact box53G HP0.out HV0.out | exact box53G HP3.out HV3.out | exact box53G HP2.out HV2.out | exact box53G HP1.out HV1.out)
    (first
      | (go_at_call 48; refine (HD.out _ HB.out.drew).mono ?_; rintro e w1 ⟨rfl, hb1⟩; have HP1 := hid (blk_keep HP0.out (Hid.out (below_drew_left hb1))); have HV1 := hid (blk_keep HV0.out (Hid.out (below_drew_left hb1))); have HB1 := hid (HB.out.drew.trans (hb1.mono HB.out.size)); clear hb1)
      | (go_at_call 92; refine (HG.out w1 HB1.out).mono ?_; rintro e w2 ⟨u, ss, rfl, hp, ha, hu, hb2⟩; have HP2 := hid (blk_keep HP1.out hb2); have HV2 := hid (blk_keep HV1.out hb2); obtain ⟨ua, uc, rfl, _, _, _⟩ := owns_form hu; have HU := hid (show isIds w2 (.slice ua ss.length uc) ss from hu.ids); have HUB := hid (fun k (hk : (Value.slice ua ss.length uc).ownBlock = some k) => World.ownsRow.lt hu k hk); have HB2 := hid (HB1.out.trans (hb2.mono HB1.out.size)); have HPA := hid (And.intro hp ha); clear hu hb2 hp ha)
      | (go_at_call 91; refine (HWR.out w2 HB2.out (fun k => I k ∨ (Value.slice ua ss.length uc).ownBlock = some k) (fun k hk => .inl hk) (fun k hk => hk.elim (fun h1 => Nat.lt_of_lt_of_le (HI.out.iI k h1) HB2.out.size) fun h1 => (HUB.out k h1).2) (fun k hk hF => hk.elim (fun h1 => HI.out.nI k h1 hF) fun h1 => by have := (HUB.out k h1).1; have := HF.out k hF; have := HB1.out.size; omega) 182 _ (.inr (.inr (.inl (ob, key, el, val, ss)))) ?hch).mono ?_; (case hch => exact ⟨_, rfl, HU.out, fun k hk => .inr hk⟩); rintro e w3 ⟨rfl, F', q', hr3, hs3, hk3⟩; have HP3 := hid ((hk3.other _ (blk_lt HP2.out) (fun hF => by have := HF.out _ hF; omega)).trans HP2.out); have HV3 := hid ((hk3.other _ (blk_lt HV2.out) (fun hF => by have := HF.out _ hF; omega)).trans HV2.out); have HR3 := hid hr3; have HK3 := hid hk3; have HS3 := hid hs3; clear hr3 hk3 hs3))
  all_goals go_wp2
  all_goals go_end0
  all_goals exact ⟨⟨_, rfl⟩, ss, HPA.out.1, HPA.out.2, _, _, F', _, q', HR3.out, HS3.out, HK3.out.before HB2.out, fun k hk => .inl hk, fun k hk => hk.imp id fun h1 => Nat.le_trans HB1.out.size (HUB.out k h1).1⟩
end

end Go.Proofs.YtnkpogjiiohapaaGreatDoor

/-! GRepZ: One copy of the program's room in general: setNumber, cut, elements, layAt. -/
namespace Go.Proofs.YtnkpogjiiohapaaGreatDoor
open Go.RowKit
attribute [local go_sem ↓] Go.wp_at_zero Go.wp_at_succ

theorem WroteM.before {F I : Nat → Prop} {N sp c rb : Nat} {gt : Int} {has : Nat → Int} {ops : List MOp} {early : List (PId × MOp)} {q : RQ} {w W w' : World} {chg : QChg} (hb : Below w.heap.size w W) (h : WroteM F I N sp c rb gt has ops early q W w' chg) : WroteM F I N sp c rb gt has ops early q w w' chg := by
  obtain ⟨t, v, F', I', q', h1, h2, h3, h4, h5⟩ := h
  exact ⟨t, v, F', I', q', h1, h2, h3.before hb, h4, fun k hk => (h5 k hk).imp id fun y => Nat.le_trans hb.size y⟩
theorem seenG {els : List (PId × CQEl)} {x : PId} {o : PObj} {ob : CQObj} (h : ObjAg els x o ob) (hl : o.list = true) : (o.ss.map PSlot.id).filter (seenEl els) = pseen o := by
  unfold pseen
  rw [List.filter_map]
  congr 1
  apply List.filter_congr
  intro s hs
  obtain ⟨_, _, e, he, _, hp⟩ := h.elems hl s hs
  simp only [Function.comp, seenEl, he]
  rw [hp.length_eq, List.length_map]
theorem set2bothG {w : World} {g : Nat} {a b u v : Value} {t : TypeId} (h : w.heap[g]? = some (.cells #[a, b] t (0, 0))) : ((w.setCell ⟨g, 0, none⟩ u).setCell ⟨g, 1, none⟩ v).heap[g]? = some (.cells #[u, v] t (0, 0)) := by
  have h1 := setRow (i := 1) (u := v) (setRow (i := 0) (u := u) h)
  simpa using h1

section
theorem RepM.elements {w : World} {rb : Nat} {F I : Nat → Prop} {N sp c : Nat} {gt : Int} {has : Nat → Int} {ops : List MOp} {early : List (PId × MOp)} {q : RQ} (h : RepM w rb F I N sp c gt has ops early q) {R : List PObj} (hag : Agree R q.D) {x : PId} {o : PObj} (ho : objOf R x = some o) (hl : o.list = true) (hlen : o.ss.length ≤ 10000) (W : World) (hb : Below w.heap.size w W) :
    Calls Tryz.prog 57 #[.pointer (some ⟨q.d, 0, none⟩), .agg #[.int .i64 x.1, .int .i64 x.2]] W fun e w' => ∃ u, e = .returned u ∧ ownIds W.heap.size w' u (pseen o) ∧ Below W.heap.size W w' := by
  obtain ⟨ob, hob, hag⟩ := hag.o1 x o ho
  have := elements_q (h.hist.q.keep hb) x.1 x.2 hob (hag.list.trans hl) (hag.chain hl) (by rw [List.length_map]; exact hlen)
  rw [seenG hag hl] at this
  exact this

set_option maxRecDepth 1000000 in
set_option maxHeartbeats 4000000 in
theorem setNumber_any {w : World} {rb : Nat} {F I : Nat → Prop} {N sp c : Nat} {gt : Int} {has : Nat → Int} {ops : List MOp} {early : List (PId × MOp)} {q : RQ} (h : RepM w rb F I N sp c gt has ops early q) (hw : Wri c gt has ops q) (ob el : PId) (key : ByteArray) (n : Int) :
    Calls Tryz.prog 47 #[.pointer (some ⟨rb, 0, none⟩), .agg #[.int .i64 ob.1, .int .i64 ob.2, .string key, .int .i64 el.1, .int .i64 el.2], .int .i64 n] w fun e w' => (has c < 60 ∧ e = .returned (.int .i64 0) ∧ ∃ ss, ss.Perm ((atPl q.D.1 q.D.2 ob key el).vs.map (·.1)) ∧ Asc ss ∧ WroteM F I N sp c rb gt has ops early q w w' (.inr (.inr (.inl (ob, key, el, (n, (0, 0)), ss))))) ∨ (¬ has c < 60 ∧ e = .returned (.int .i64 8) ∧ Below w.heap.size w w') := by
  have HB := hid ((Below.refl w.heap.size w).alloc (Nat.le_refl _) (.cells #[.int .i64 ob.1, .int .i64 ob.2, .string key, .int .i64 el.1, .int .i64 el.2] 97))
  have HM := hid (mayMake_any (h.keep HB.out) 1 (by omega))
  have HG := hid (fun W (hb : Below w.heap.size w W) => give_any (h.keep hb) hw ob el key (n, (0, 0)))
  clear h hw
  have HP0 := hid (blk_new w (.cells #[.int .i64 ob.1, .int .i64 ob.2, .string key, .int .i64 el.1, .int .i64 el.2] 97))
  go_enter Tryz.func47, Tryz.ntmps47
  go_wp2_with fail
  refine HM.out.mono ?_
  rintro e w1 ⟨rfl, hb1⟩
  obtain ⟨b0, b1, b2, b3, b4⟩ := blk5 (blk_keep HP0.out hb1)
  have HB1 := hid (HB.out.trans (hb1.mono HB.out.size)); clear hb1
  by_cases hl : has c < 60
  · have hd : decide (has c + ((1 : Nat) : Int) ≤ 60) = true := decide_eq_true (by omega)
    rw [hd]
    have HL := hid hl
    clear hl hd
    go_wp2_with fail
    refine (HG.out w1 HB1.out).mono ?_
    rintro e w2 ⟨⟨r, rfl⟩, ss, hp, ha, hwr⟩
    have HX := hid (And.intro hp (And.intro ha hwr)); clear hp ha hwr
    go_wp2
    go_ret
    exact .inl ⟨HL.out, rfl, ss, HX.out.1, HX.out.2.1, HX.out.2.2.before HB1.out⟩
  · have hd : decide (has c + ((1 : Nat) : Int) ≤ 60) = false := decide_eq_false (by omega)
    rw [hd]
    have HL := hid hl
    clear hl hd
    go_wp2
    go_ret
    exact .inr ⟨HL.out, rfl, HB1.out⟩

set_option maxRecDepth 1000000 in
set_option maxHeartbeats 4000000 in
theorem repCut_any {w : World} {rb : Nat} {F I : Nat → Prop} {N sp c : Nat} {gt : Int} {has : Nat → Int} {ops : List MOp} {early : List (PId × MOp)} {q : RQ} (h : RepM w rb F I N sp c gt has ops early q) (hw : Wri c gt has ops q) (ob el : PId) (key : ByteArray) :
    Calls Tryz.prog 65 #[.pointer (some ⟨rb, 0, none⟩), .agg #[.int .i64 ob.1, .int .i64 ob.2, .string key, .int .i64 el.1, .int .i64 el.2]] w fun e w' => (has c < 60 ∧ e = .returned (.int .i64 0) ∧ ∃ ss, ss.Perm ((atPl q.D.1 q.D.2 ob key el).vs.map (·.1)) ∧ Asc ss ∧ WroteM F I N sp c rb gt has ops early q w w' (.inr (.inr (.inr (ob, key, el, ss))))) ∨ (¬ has c < 60 ∧ e = .returned (.int .i64 8) ∧ Below w.heap.size w w') := by
  have HF := hid h.lt
  have HI := hid h
  have HB := hid ((Below.refl w.heap.size w).alloc (Nat.le_refl _) (.cells #[.int .i64 ob.1, .int .i64 ob.2, .string key, .int .i64 el.1, .int .i64 el.2] 97))
  have HM := hid (mayMake_any (h.keep HB.out) 1 (by omega))
  have HD := hid (fun W (hb : Below w.heap.size w W) => document_any (h.keep hb))
  have HG := hid (fun W (hb : Below w.heap.size w W) => givers_any (h.keep hb).hist.q ob.1 ob.2 el.1 el.2 key (hw.vals ob key el).1 (hw.vals ob key el).2)
  have HWR := hid (fun (W : World) (hb : Below w.heap.size w W) (I' : Nat → Prop) (h1 : ∀ k, I k → I' k) (h2 : ∀ k, I' k → k < W.heap.size) (h3 : ∀ k, I' k → ¬ F k) (t : TypeId) (v : Value) (chg : QChg) (hx : isChgI W I' (.iface t v) chg) => write_any ((h.keep hb).moreI h1 h2 h3) ⟨hw.g.1, by have := hw.g.2; omega⟩ ⟨hw.h.1, by have := hw.h.2; omega⟩ hw.old (by have := hw.len; omega) t v chg hx)
  clear h hw
  have HP0 := hid (blk_new w (.cells #[.int .i64 ob.1, .int .i64 ob.2, .string key, .int .i64 el.1, .int .i64 el.2] 97))
  go_enter Tryz.func65, Tryz.ntmps65
  go_wp2_with fail
  refine HM.out.mono ?_
  rintro e w1 ⟨rfl, hb1⟩
  have HP1 := hid (blk_keep HP0.out hb1)
  have HB1 := hid (HB.out.trans (hb1.mono HB.out.size)); clear hb1
  by_cases hl : has c < 60
  · have hd : decide (has c + ((1 : Nat) : Int) ≤ 60) = true := decide_eq_true (by omega)
    rw [hd]
    have HL := hid hl
    clear hl hd
    go_wp2_with fail
    go_region_held3 (fun W => W.cell? ⟨w.heap.size, 0, none⟩ = some (.int .i64 ob.1) ∧ W.cell? ⟨w.heap.size, 1, none⟩ = some (.int .i64 ob.2) ∧ W.cell? ⟨w.heap.size, 2, none⟩ = some (.string key) ∧ W.cell? ⟨w.heap.size, 3, none⟩ = some (.int .i64 el.1) ∧ W.cell? ⟨w.heap.size, 4, none⟩ = some (.int .i64 el.2)) (first | exact blk5 HP1.out | exact blk5 HP4.out | exact blk5 HP3.out | exact blk5 HP2.out)
      (first
        | (go_at_call 48; refine (HD.out _ HB1.out.drew).mono ?_; rintro e w2 ⟨rfl, hb2⟩; have HP2 := hid (blk_keep HP1.out (Hid.out (below_drew_left hb2))); have HB2 := hid (HB1.out.drew.trans (hb2.mono HB1.out.size)); clear hb2)
        | (go_at_call 92; refine (HG.out w2 HB2.out).mono ?_; rintro e w3 ⟨u, ss, rfl, hp, ha, hu, hb3⟩; have HP3 := hid (blk_keep HP2.out hb3); obtain ⟨ua, uc, rfl, _, _, _⟩ := owns_form hu; have HU := hid (show isIds w3 (.slice ua ss.length uc) ss from hu.ids); have HUB := hid (fun k (hk : (Value.slice ua ss.length uc).ownBlock = some k) => World.ownsRow.lt hu k hk); have HB3 := hid (HB2.out.trans (hb3.mono HB2.out.size)); have HPA := hid (And.intro hp ha); clear hu hb3 hp ha)
        | (go_at_call 91; refine (HWR.out w3 HB3.out (fun k => I k ∨ (Value.slice ua ss.length uc).ownBlock = some k) (fun k hk => .inl hk) (fun k hk => hk.elim (fun h1 => Nat.lt_of_lt_of_le (HI.out.iI k h1) HB3.out.size) fun h1 => (HUB.out k h1).2) (fun k hk hF => hk.elim (fun h1 => HI.out.nI k h1 hF) fun h1 => by have := (HUB.out k h1).1; have := HF.out k hF; have := HB2.out.size; omega) 184 _ (.inr (.inr (.inr (ob, key, el, ss)))) ?hch).mono ?_; (case hch => exact ⟨_, rfl, HU.out, fun k hk => .inr hk⟩); rintro e w4 ⟨rfl, F', q', hr4, hs4, hk4⟩; have HP4 := hid ((hk4.other _ (blk_lt HP3.out) (fun hF => by have := HF.out _ hF; omega)).trans HP3.out); have HR4 := hid hr4; have HK4 := hid hk4; have HS4 := hid hs4; clear hr4 hk4 hs4))
    all_goals go_wp2
    all_goals go_ret
    all_goals exact .inl ⟨HL.out, rfl, ss, HPA.out.1, HPA.out.2, _, _, F', _, q', HR4.out, HS4.out, HK4.out.before HB3.out, fun k hk => .inl hk, fun k hk => hk.imp id fun h1 => Nat.le_trans HB2.out.size (HUB.out k h1).1⟩
  · have hd : decide (has c + ((1 : Nat) : Int) ≤ 60) = false := decide_eq_false (by omega)
    rw [hd]
    have HL := hid hl
    clear hl hd
    go_wp2
    go_ret
    exact .inr ⟨HL.out, rfl, HB1.out⟩

set_option maxRecDepth 1000000 in
set_option maxHeartbeats 4000000 in
theorem layAt_any {w : World} {rb : Nat} {F I : Nat → Prop} {N sp c : Nat} {gt : Int} {has : Nat → Int} {ops : List MOp} {early : List (PId × MOp)} {q : RQ} (h : RepM w rb F I N sp c gt has ops early q) (hw : Wri c gt has ops q) {R : List PObj} (hag : Agree R q.D) {x : PId} {o : PObj} (ho : objOf R x = some o) (hol : o.list = true) (hss : o.ss.length ≤ 300) (i : Int) {b : PId} (hi : behindP (pseen o) i = some b) :
    Calls Tryz.prog 61 #[.pointer (some ⟨rb, 0, none⟩), .agg #[.int .i64 x.1, .int .i64 x.2], .int .i64 i] w fun e w' => e = .returned (.agg #[.int .i64 (gt + 1), .int .i64 c]) ∧ WroteM F I N sp c rb gt has ops early q w w' (.inr (.inl (x, b))) := by
  have HF := hid h.lt
  have HII := hid h.iI
  have HB := hid (((((Below.refl w.heap.size w).alloc (Nat.le_refl _) (.cells #[.int .i64 x.1, .int .i64 x.2] 36)).alloc (by simp <;> omega) (.cells #[.int .i64 0, .int .i64 0] 36)).alloc (by simp <;> omega) (.cells #[.int .i64 0, .int .i64 0] 36)))
  have HD := hid (fun W (hb : Below w.heap.size w W) => document_any (h.keep hb))
  have HE := hid (h.elements hag ho hol (by omega))
  have HWR := hid (fun (W : World) (hb : Below w.heap.size w W) => write_any (h.keep hb) ⟨hw.g.1, by have := hw.g.2; omega⟩ ⟨hw.h.1, by have := hw.h.2; omega⟩ hw.old (by have := hw.len; omega) 179 (.agg #[.int .i64 x.1, .int .i64 x.2, .int .i64 b.1, .int .i64 b.2]) (.inr (.inl (x, b))) rfl)
  have hpl : (pseen o).length ≤ 300 := by
    have h3 : (pseen o).length ≤ o.ss.length := by unfold pseen; rw [List.length_map]; exact List.length_filter_le _ _
    omega
  clear h ho hol hw hag hss
  unfold behindP at hi
  have hi0 : ¬ (i < 0 ∨ i > (pseen o).length) := fun hh => by rw [if_pos hh] at hi; cases hi
  rw [if_neg hi0] at hi
  have HX0 := hid (show (((w.alloc (.cells #[.int .i64 x.1, .int .i64 x.2] 36)).alloc (.cells #[.int .i64 0, .int .i64 0] 36)).alloc (.cells #[.int .i64 0, .int .i64 0] 36)).heap[w.heap.size]? = some (.cells #[.int .i64 x.1, .int .i64 x.2] 36 (0, 0)) from (alloc_old_r _ _ (by simp; omega)).trans ((alloc_old_r _ _ (by simp)).trans (blk_new w _)))
  have HX1 := hid (show (((w.alloc (.cells #[.int .i64 x.1, .int .i64 x.2] 36)).alloc (.cells #[.int .i64 0, .int .i64 0] 36)).alloc (.cells #[.int .i64 0, .int .i64 0] 36)).heap[w.heap.size + 1]? = some (.cells #[.int .i64 0, .int .i64 0] 36 (0, 0)) from (alloc_old_r _ _ (by simp)).trans (by
    have := blk_new (w.alloc (.cells #[.int .i64 x.1, .int .i64 x.2] 36)) (.cells #[.int .i64 0, .int .i64 0] 36)
    rw [show (w.alloc (.cells #[.int .i64 x.1, .int .i64 x.2] 36)).heap.size = w.heap.size + 1 by simp] at this
    exact this))
  have HX2 := hid (show (((w.alloc (.cells #[.int .i64 x.1, .int .i64 x.2] 36)).alloc (.cells #[.int .i64 0, .int .i64 0] 36)).alloc (.cells #[.int .i64 0, .int .i64 0] 36)).heap[w.heap.size + 1 + 1]? = some (.cells #[.int .i64 0, .int .i64 0] 36 (0, 0)) from (by
    have := blk_new ((w.alloc (.cells #[.int .i64 x.1, .int .i64 x.2] 36)).alloc (.cells #[.int .i64 0, .int .i64 0] 36)) (.cells #[.int .i64 0, .int .i64 0] 36)
    rw [show ((w.alloc (.cells #[.int .i64 x.1, .int .i64 x.2] 36)).alloc (.cells #[.int .i64 0, .int .i64 0] 36)).heap.size = w.heap.size + 1 + 1 by simp] at this
    exact this))
  have HNF := hid (show ∀ k, w.heap.size ≤ k → ¬ F k from fun k hk hF => by have := HF.out k hF; omega)
  have HNI := hid (show ∀ k, w.heap.size ≤ k → ¬ I k from fun k hk hF => by have := HII.out k hF; omega)
  by_cases hz : i = 0
  · subst hz
    rw [if_pos rfl] at hi
    cases hi
    go_enter Tryz.func61, Tryz.ntmps61
    go_wp2_with fail
    refine (HWR.out _ HB.out).mono ?_
    rintro e w3 ⟨rfl, F', q', hr3, hs3, hk3⟩
    have hb1 := (hk3.other _ (blk_lt HX1.out) (HNF.out _ (by omega))).trans HX1.out
    obtain ⟨r0, r1⟩ := blk2 hb1
    have rf := blk_fz hb1
    have rl := blk_lt hb1
    have HR3 := hid hr3; have HK3 := hid hk3; have HS3 := hid hs3
    clear hr3 hk3 hb1 hs3
    go_wp2
    refine bodyPost_ret (v := .agg #[.int .i64 (gt + 1), .int .i64 c]) (by simp [results, Tryz.results61, go_sem, r0, r1]) rfl ?_
    have hnF' : ¬ F' (w.heap.size + 1) := fun hF => by
      rcases HK3.out.sub _ hF with h | h
      · exact HNF.out _ (by omega) h
      · simp at h; omega
    have hnI := HNI.out (w.heap.size + 1) (by omega)
    exact ⟨rfl, _, _, F', I, q', (HR3.out.set _ hnF' hnI).set _ hnF' hnI, HS3.out, ((HK3.out.before HB.out).setNew (by omega) _).setNew (by omega) _, fun _ y => y, fun _ y => .inl y⟩
  · rw [if_neg hz] at hi
    obtain ⟨j, rfl⟩ : ∃ j : Nat, i = (j : Int) + 1 := ⟨(i - 1).toNat, by omega⟩
    rw [show ((j : Int) + 1 - 1).toNat = j by omega] at hi
    obtain ⟨hj, hbj⟩ := List.getElem?_eq_some_iff.1 hi
    have hj0 : (0 : Int) ≤ (j : Int) := Int.natCast_nonneg _
    have hj1 : (j : Int) < ((pseen o).length : Int) := by omega
    have HBJ := hid hbj; clear hi hbj
    have hjs : (j : Int) + 1 - 1 = (j : Int) := by omega
    have hjw : IntKind.i64.wrap (j : Int) = (j : Int) := Go.IntWalk.i64_in _ (by omega)
    have hjl : j < (pseen o).length := hj
    obtain ⟨x0, x1⟩ := blk2 HX0.out
    go_enter Tryz.func61, Tryz.ntmps61
    go_wp2_with fail
    go_region_with (first
      | (go_at_call 48; refine (HD.out _ HB.out.drew).mono ?_; rintro e w1 ⟨rfl, hb1⟩; have hb1' := Hid.out (below_drew_left hb1); have HY0 := hid (blk_keep HX0.out hb1'); have HY1 := hid (blk_keep HX1.out hb1'); have HY2 := hid (blk_keep HX2.out hb1'); replace x0 := (blk2 HY0.out).1; replace x1 := (blk2 HY0.out).2; have HB1 := hid (HB.out.drew.trans (hb1.mono HB.out.size)); clear hb1 hb1')
      | (go_at_call 57; refine (HE.out w1 HB1.out).mono ?_; rintro e w2 ⟨u, rfl, hu, hb2⟩; obtain ⟨ua, uc, rfl, hul, hum, huf⟩ := owns_form hu; obtain ⟨gu, rfl⟩ := huf j hj; clear huf; unfold maxLen at hum; obtain ⟨u0, u1⟩ := isIds.cells hu.ids rfl j hj; rw [HBJ.out] at u0 u1; have HZ0 := hid (blk_keep HY0.out hb2); have HZ1 := hid (blk_keep HY1.out hb2); have HZ2 := hid (blk_keep HY2.out hb2); have z0 := (blk2 HZ2.out).1; have z1 := (blk2 HZ2.out).2; have zf := blk_fz HZ2.out; replace x0 := (blk2 HZ0.out).1; replace x1 := (blk2 HZ0.out).2; have HB2 := hid (HB1.out.trans (hb2.mono HB1.out.size)); have HGU := hid (World.ownsRow.lt hu gu rfl).1; clear hu hb2))
    all_goals (
      generalize hW : (w2.setCell ⟨w.heap.size + 1 + 1, 0, none⟩ (.int .i64 b.1)).setCell ⟨w.heap.size + 1 + 1, 1, none⟩ (.int .i64 b.2) = w3
      have HQ2 := hid (show w3.heap[w.heap.size + 1 + 1]? = some (.cells #[.int .i64 b.1, .int .i64 b.2] 36 (0, 0)) by rw [← hW]; exact set2bothG HZ2.out)
      have HQ1 := hid (show w3.heap[w.heap.size + 1]? = some (.cells #[.int .i64 0, .int .i64 0] 36 (0, 0)) by rw [← hW, setCell_other (by omega), setCell_other (by omega)]; exact HZ1.out)
      have HQ0 := hid (show w3.heap[w.heap.size]? = some (.cells #[.int .i64 x.1, .int .i64 x.2] 36 (0, 0)) by rw [← hW, setCell_other (by omega), setCell_other (by omega)]; exact HZ0.out)
      have HB3 := hid (show Below w.heap.size w w3 by rw [← hW]; exact (HB2.out.setCell (show w.heap.size ≤ w.heap.size + 1 + 1 by omega) _).setCell (show w.heap.size ≤ w.heap.size + 1 + 1 by omega) _)
      clear hW
      replace x0 := (blk2 HQ0.out).1
      replace x1 := (blk2 HQ0.out).2
      replace z0 := (blk2 HQ2.out).1
      replace z1 := (blk2 HQ2.out).2
      go_wp2_with fail
      refine (HWR.out _ HB3.out).mono ?_
      rintro e w4 ⟨rfl, F', q', hr3, hs3, hk3⟩
      have hb1 := (hk3.other _ (blk_lt HQ1.out) (HNF.out _ (by omega))).trans HQ1.out
      obtain ⟨r0, r1⟩ := blk2 hb1
      have rf := blk_fz hb1
      have rl := blk_lt hb1
      have HR3 := hid hr3
      have HK3 := hid hk3
      have HS3 := hid hs3
      have hq1 := blk_lt HQ1.out
      clear hr3 hk3 hb1 x0 x1 z0 z1 zf hs3
      go_wp2
      refine bodyPost_ret (v := .agg #[.int .i64 (gt + 1), .int .i64 c]) (by simp [results, Tryz.results61, go_sem, r0, r1]) rfl ?_
      have hnF' : ¬ F' (w.heap.size + 1) := fun hF => by
        rcases HK3.out.sub _ hF with h | h
        · exact HNF.out _ (by omega) h
        · omega
      have hnI := HNI.out (w.heap.size + 1) (by omega)
      exact ⟨rfl, _, _, F', I, q', (HR3.out.set _ hnF' hnI).set _ hnF' hnI, HS3.out, ((HK3.out.before HB3.out).setNew (by omega) _).setNew (by omega) _, fun _ y => y, fun _ y => .inl y⟩)
end

end Go.Proofs.YtnkpogjiiohapaaGreatDoor
