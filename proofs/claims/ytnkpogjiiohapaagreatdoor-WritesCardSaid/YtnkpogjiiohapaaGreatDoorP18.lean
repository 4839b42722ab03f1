/- Our own text (PPlayG, PPlayH, PPlayI, PPlayJ). -/
import Derived.Test.YtnkpogjiiohapaaGreatDoorP16
import Derived.Test.YtnkpogjiiohapaaGreatDoorP17
set_option linter.unusedSimpArgs false
set_option linter.unusedVariables false

/-! PPlayG: The law: step, in a room. -/
namespace Go.Proofs.YtnkpogjiiohapaaGreatDoor
open Go.RowKit
attribute [local go_sem ↓] Go.wp_at_zero Go.wp_at_succ

section
set_option maxRecDepth 1000000 in
set_option maxHeartbeats 8000000 in
theorem step_tw {base gy : Nat} {vp va vb : Value} {gps la lb : List Nat} {FF : Nat → Nat → Prop} {R : Nat → Prop} {nt : Nat} {w : World} (h : PlayAt base gy vp va vb gps la lb FF R nt w) (hnt : nt < 2000000000000) (o : LOp) (hk : LOk o) (hkd : 2 ≤ o.kind ∧ o.kind ≤ 8) (hz : 0 < gps.length) {x r : Nat} {vt : Value} {told : List PId} (hblk : w.heap[gps[pickN o.r gps.length]'(pickN_lt _ hz)]? = some (.cells #[.pointer (some ⟨x, 0, none⟩), .pointer (some ⟨r, 0, none⟩), vt] 135 (0, 0))) (hto : ownIds 0 w vt told) (hmd : 0 < o.made ∧ 0 < told.length) :
    Calls Tryz.prog 35 #[.pointer (some ⟨gy, 0, none⟩), .agg #[.int .i64 o.kind, .int .i64 o.r, .int .i64 o.c, .int .i64 o.d, .int .i64 o.i1, .int .i64 o.i2, .int .i64 o.made, .string o.key, .int .i64 o.a, .int .i64 o.b, .bool o.yes]] w fun e w' => e = .returned (.bool true) ∧ Played base gy (nt + 1) w w' := by
  have HB := hid ((Below.refl w.heap.size w).alloc (Nat.le_refl _) (.cells #[.int .i64 o.kind, .int .i64 o.r, .int .i64 o.c, .int .i64 o.d, .int .i64 o.i1, .int .i64 o.i2, .int .i64 o.made, .string o.key, .int .i64 o.a, .int .i64 o.b, .bool o.yes] 87))
  have HX := hid (blk_new w (.cells #[.int .i64 o.kind, .int .i64 o.r, .int .i64 o.c, .int .i64 o.d, .int .i64 o.i1, .int .i64 o.i2, .int .i64 o.made, .string o.key, .int .i64 o.a, .int .i64 o.b, .bool o.yes] 87))
  have hbs := h.bs
  have hnp := h.np
  have hyl := (h.rb gy h.ry).2
  have hyn : gy ≠ w.heap.size := by omega
  have hi := pickN_lt o.r hz
  have HPK := hid (pick_q o.r gps.length hk.r.1 hk.r.2 hz (by omega))
  have HW := hid (fun W (hb : Below w.heap.size w W) (j1 j2 : Int) => writes_play (h.below hb) hnt hi { o with i1 := j1, i2 := j2 } ⟨hk.r, hk.made, hk.a, hk.b, hk.key⟩ hkd.1 hkd.2)
  obtain ⟨a, c, rfl, hc1, hc2, hf⟩ := owns_form h.ps
  obtain ⟨gp0, rfl⟩ := hf _ hi
  have y0 : w.cell? ⟨gy, 0, none⟩ = some (.slice (some ⟨gp0, 0, none⟩) gps.length c) := by simp [World.cell?, h.y]
  have p0 := ptrC_cell h.ps rfl _ hi
  have HBL := hid hblk
  have hpl := blk_lt hblk
  obtain ⟨at', ct, rfl, ht1, ht2, htf⟩ := owns_form hto
  unfold maxLen at ht2
  have t2 : w.cell? ⟨gps[pickN o.r gps.length]'(pickN_lt _ hz), 2, none⟩ = some (.slice at' told.length ct) := (blk3 hblk).2.2
  have y0' := keep HB.out y0
  have p0' := keep HB.out p0
  have t2' := keep HB.out t2
  have HY0 := hid y0
  have HP0 := hid p0
  have HT2 := hid t2
  have hj := pickN_lt o.made hmd.2
  have HPM := hid (pick_q o.made told.length hk.made.1 hk.made.2 hmd.2 (by omega))
  obtain ⟨gt, rfl⟩ := htf _ hj
  obtain ⟨q0, q1⟩ := isIds.cells hto rfl _ hj
  have HQ0 := hid q0
  have HQ1 := hid q1
  have hgt := World.block_lt_of_cell? w _ q0
  simp only at hgt
  generalize hpj : pickN o.made told.length = pj at *
  generalize hj1 : (told[pj]).1 = j1 at *
  generalize hj2 : (told[pj]).2 = j2 at *
  have hpj0 : (0 : Int) ≤ (pj : Int) := Int.natCast_nonneg _
  have hpj1 : (pj : Int) < (told.length : Int) := by omega
  have HB2 := hid ((Below.refl w.heap.size w).alloc (Nat.le_refl _) (.cells #[.int .i64 o.kind, .int .i64 o.r, .int .i64 o.c, .int .i64 o.d, .int .i64 j1, .int .i64 j2, .int .i64 o.made, .string o.key, .int .i64 o.a, .int .i64 o.b, .bool o.yes] 87)).drew.drew
  have HX2 := hid (blk_new w (.cells #[.int .i64 o.kind, .int .i64 o.r, .int .i64 o.c, .int .i64 o.d, .int .i64 j1, .int .i64 j2, .int .i64 o.made, .string o.key, .int .i64 o.a, .int .i64 o.b, .bool o.yes] 87))
  have hm1 : 0 < o.made := hmd.1
  have hm2 : (0 : Int) < (told.length : Int) := by omega
  generalize gps[pickN o.r gps.length]'(pickN_lt _ hz) = gp at *
  generalize pickN o.r gps.length = pi at *
  have hpi0 : (0 : Int) ≤ (pi : Int) := Int.natCast_nonneg _
  have hpi1 : (pi : Int) < (gps.length : Int) := by omega
  have hz0 : ¬ ((gps.length : Int) = 0) := by omega
  have hz1 : ¬ (gps.length = 0) := by omega
  have hk1 : ¬ (o.kind = 1) := by omega
  have hk2 : ¬ (o.kind < 2) := by omega
  have hk3 : ¬ (22 < o.kind) := by omega
  have hk8 : o.kind ≤ 8 := by omega
  clear h hf hto htf hblk hk
  go_enter Tryz.func35, Tryz.ntmps35
  go_wp2
  go_region_held3 (fun W => W.cell? ⟨gy, 0, none⟩ = some (.slice (some ⟨gp0, 0, none⟩) gps.length c) ∧ W.cell? ⟨w.heap.size, 1, none⟩ = some (.int .i64 o.r) ∧ W.cell? ⟨gp0, pi, none⟩ = some (.pointer (some ⟨gp, 0, none⟩))) (first | exact ⟨y0', (op11 HX.out).2.1, p0'⟩)
    (first | (go_at_call 67; refine (HPK.out _).mono ?_; rintro e w1 ⟨rfl, rfl⟩))
  go_wp2
  go_region_held3 (fun W => W.cell? ⟨gp, 2, none⟩ = some (.slice (some ⟨gt, 0, none⟩) told.length ct) ∧ W.cell? ⟨w.heap.size, 6, none⟩ = some (.int .i64 o.made) ∧ W.cell? ⟨gt, pj * 2, none⟩ = some (.int .i64 j1) ∧ W.cell? ⟨gt, pj * 2 + 1, none⟩ = some (.int .i64 j2)) (first | exact ⟨keep HB.out.drew HT2.out, (op11 (W := (w.alloc (.cells #[.int .i64 o.kind, .int .i64 o.r, .int .i64 o.c, .int .i64 o.d, .int .i64 o.i1, .int .i64 o.i2, .int .i64 o.made, .string o.key, .int .i64 o.a, .int .i64 o.b, .bool o.yes] 87)).drew) HX.out).2.2.2.2.2.2.1, keep HB.out.drew HQ0.out, keep HB.out.drew HQ1.out⟩ | exact ⟨keep HB2.out HT2.out, (op11 (W := (w.alloc (.cells #[.int .i64 o.kind, .int .i64 o.r, .int .i64 o.c, .int .i64 o.d, .int .i64 j1, .int .i64 j2, .int .i64 o.made, .string o.key, .int .i64 o.a, .int .i64 o.b, .bool o.yes] 87)).drew.drew) HX2.out).2.2.2.2.2.2.1, keep HB2.out HQ0.out, keep HB2.out HQ1.out⟩)
    (first | (go_at_call 67; refine (HPM.out _).mono ?_; rintro e w1 ⟨rfl, rfl⟩))
  go_wp2_with (first
    | (go_at_call 68; refine (HW.out _ (((Below.refl w.heap.size w).alloc (Nat.le_refl _) _).drew.drew) j1 j2).mono ?_; rintro e w1 ⟨rfl, hp1⟩; have HP1 := hid hp1; clear hp1))
  go_ret
  exact ⟨rfl, HP1.out.from (((Below.refl w.heap.size w).alloc (Nat.le_refl _) _).drew.drew) hbs⟩

set_option maxRecDepth 1000000 in
set_option maxHeartbeats 8000000 in
theorem step_fw {base gy : Nat} {vp va vb : Value} {gps la lb : List Nat} {FF : Nat → Nat → Prop} {R : Nat → Prop} {nt : Nat} {w : World} (h : PlayAt base gy vp va vb gps la lb FF R nt w) (hnt : nt < 2000000000000) (o : LOp) (hk : LOk o) (hkd : 2 ≤ o.kind ∧ o.kind ≤ 8) (hz : 0 < gps.length) {x r : Nat} {vt : Value} {told : List PId} (hblk : w.heap[gps[pickN o.r gps.length]'(pickN_lt _ hz)]? = some (.cells #[.pointer (some ⟨x, 0, none⟩), .pointer (some ⟨r, 0, none⟩), vt] 135 (0, 0))) (hto : ownIds 0 w vt told) (hmd : ¬ (0 < o.made ∧ 0 < told.length)) :
    Calls Tryz.prog 35 #[.pointer (some ⟨gy, 0, none⟩), .agg #[.int .i64 o.kind, .int .i64 o.r, .int .i64 o.c, .int .i64 o.d, .int .i64 o.i1, .int .i64 o.i2, .int .i64 o.made, .string o.key, .int .i64 o.a, .int .i64 o.b, .bool o.yes]] w fun e w' => e = .returned (.bool true) ∧ Played base gy (nt + 1) w w' := by
  have HB := hid ((Below.refl w.heap.size w).alloc (Nat.le_refl _) (.cells #[.int .i64 o.kind, .int .i64 o.r, .int .i64 o.c, .int .i64 o.d, .int .i64 o.i1, .int .i64 o.i2, .int .i64 o.made, .string o.key, .int .i64 o.a, .int .i64 o.b, .bool o.yes] 87))
  have HX := hid (blk_new w (.cells #[.int .i64 o.kind, .int .i64 o.r, .int .i64 o.c, .int .i64 o.d, .int .i64 o.i1, .int .i64 o.i2, .int .i64 o.made, .string o.key, .int .i64 o.a, .int .i64 o.b, .bool o.yes] 87))
  have hbs := h.bs
  have hnp := h.np
  have hyl := (h.rb gy h.ry).2
  have hyn : gy ≠ w.heap.size := by omega
  have hi := pickN_lt o.r hz
  have HPK := hid (pick_q o.r gps.length hk.r.1 hk.r.2 hz (by omega))
  have HW := hid (fun W (hb : Below w.heap.size w W) (j1 j2 : Int) => writes_play (h.below hb) hnt hi { o with i1 := j1, i2 := j2 } ⟨hk.r, hk.made, hk.a, hk.b, hk.key⟩ hkd.1 hkd.2)
  obtain ⟨a, c, rfl, hc1, hc2, hf⟩ := owns_form h.ps
  obtain ⟨gp0, rfl⟩ := hf _ hi
  have y0 : w.cell? ⟨gy, 0, none⟩ = some (.slice (some ⟨gp0, 0, none⟩) gps.length c) := by simp [World.cell?, h.y]
  have p0 := ptrC_cell h.ps rfl _ hi
  have HBL := hid hblk
  have hpl := blk_lt hblk
  obtain ⟨at', ct, rfl, ht1, ht2, htf⟩ := owns_form hto
  unfold maxLen at ht2
  have t2 : w.cell? ⟨gps[pickN o.r gps.length]'(pickN_lt _ hz), 2, none⟩ = some (.slice at' told.length ct) := (blk3 hblk).2.2
  have y0' := keep HB.out y0
  have p0' := keep HB.out p0
  have t2' := keep HB.out t2
  have HY0 := hid y0
  have HP0 := hid p0
  have HT2 := hid t2
  generalize gps[pickN o.r gps.length]'(pickN_lt _ hz) = gp at *
  generalize pickN o.r gps.length = pi at *
  have hpi0 : (0 : Int) ≤ (pi : Int) := Int.natCast_nonneg _
  have hpi1 : (pi : Int) < (gps.length : Int) := by omega
  have hz0 : ¬ ((gps.length : Int) = 0) := by omega
  have hz1 : ¬ (gps.length = 0) := by omega
  have hk1 : ¬ (o.kind = 1) := by omega
  have hk2 : ¬ (o.kind < 2) := by omega
  have hk3 : ¬ (22 < o.kind) := by omega
  have hk8 : o.kind ≤ 8 := by omega
  clear h hf hto htf hblk hk
  by_cases hm1 : 0 < o.made
  · have hm2 : ¬ ((0 : Int) < (told.length : Int)) := by omega
    have hm3 : told.length = 0 := by omega
    go_enter Tryz.func35, Tryz.ntmps35
    go_wp2
    go_region_held3 (fun W => W.cell? ⟨gy, 0, none⟩ = some (.slice (some ⟨gp0, 0, none⟩) gps.length c) ∧ W.cell? ⟨w.heap.size, 1, none⟩ = some (.int .i64 o.r) ∧ W.cell? ⟨gp0, pi, none⟩ = some (.pointer (some ⟨gp, 0, none⟩))) (first | exact ⟨y0', (op11 HX.out).2.1, p0'⟩)
      (first | (go_at_call 67; refine (HPK.out _).mono ?_; rintro e w1 ⟨rfl, rfl⟩))
    go_wp2_with (first
      | (go_at_call 68; refine (HW.out _ (((Below.refl w.heap.size w).alloc (Nat.le_refl _) _).drew) o.i1 o.i2).mono ?_; rintro e w1 ⟨rfl, hp1⟩; have HP1 := hid hp1; clear hp1))
    go_ret
    exact ⟨rfl, HP1.out.from (((Below.refl w.heap.size w).alloc (Nat.le_refl _) _).drew) hbs⟩
  · go_enter Tryz.func35, Tryz.ntmps35
    go_wp2
    go_region_held3 (fun W => W.cell? ⟨gy, 0, none⟩ = some (.slice (some ⟨gp0, 0, none⟩) gps.length c) ∧ W.cell? ⟨w.heap.size, 1, none⟩ = some (.int .i64 o.r) ∧ W.cell? ⟨gp0, pi, none⟩ = some (.pointer (some ⟨gp, 0, none⟩))) (first | exact ⟨y0', (op11 HX.out).2.1, p0'⟩)
      (first | (go_at_call 67; refine (HPK.out _).mono ?_; rintro e w1 ⟨rfl, rfl⟩))
    go_wp2_with (first
      | (go_at_call 68; refine (HW.out _ (((Below.refl w.heap.size w).alloc (Nat.le_refl _) _).drew) o.i1 o.i2).mono ?_; rintro e w1 ⟨rfl, hp1⟩; have HP1 := hid hp1; clear hp1))
    go_ret
    exact ⟨rfl, HP1.out.from (((Below.refl w.heap.size w).alloc (Nat.le_refl _) _).drew) hbs⟩

set_option maxRecDepth 1000000 in
set_option maxHeartbeats 8000000 in
theorem step_ts {base gy : Nat} {vp va vb : Value} {gps la lb : List Nat} {FF : Nat → Nat → Prop} {R : Nat → Prop} {nt : Nat} {w : World} (h : PlayAt base gy vp va vb gps la lb FF R nt w) (hnt : nt < 2000000000000) (o : LOp) (hk : LOk o) (hpow : Pow w) (hkd : 9 ≤ o.kind ∧ o.kind ≤ 11) (hz : 0 < gps.length) {x r : Nat} {vt : Value} {told : List PId} (hblk : w.heap[gps[pickN o.r gps.length]'(pickN_lt _ hz)]? = some (.cells #[.pointer (some ⟨x, 0, none⟩), .pointer (some ⟨r, 0, none⟩), vt] 135 (0, 0))) (hto : ownIds 0 w vt told) (hmd : 0 < o.made ∧ 0 < told.length) :
    Calls Tryz.prog 35 #[.pointer (some ⟨gy, 0, none⟩), .agg #[.int .i64 o.kind, .int .i64 o.r, .int .i64 o.c, .int .i64 o.d, .int .i64 o.i1, .int .i64 o.i2, .int .i64 o.made, .string o.key, .int .i64 o.a, .int .i64 o.b, .bool o.yes]] w fun e w' => e = .returned (.bool true) ∧ Played base gy (nt + 1) w w' := by
  have HB := hid ((Below.refl w.heap.size w).alloc (Nat.le_refl _) (.cells #[.int .i64 o.kind, .int .i64 o.r, .int .i64 o.c, .int .i64 o.d, .int .i64 o.i1, .int .i64 o.i2, .int .i64 o.made, .string o.key, .int .i64 o.a, .int .i64 o.b, .bool o.yes] 87))
  have HX := hid (blk_new w (.cells #[.int .i64 o.kind, .int .i64 o.r, .int .i64 o.c, .int .i64 o.d, .int .i64 o.i1, .int .i64 o.i2, .int .i64 o.made, .string o.key, .int .i64 o.a, .int .i64 o.b, .bool o.yes] 87))
  have hbs := h.bs
  have hnp := h.np
  have hyl := (h.rb gy h.ry).2
  have hyn : gy ≠ w.heap.size := by omega
  have hi := pickN_lt o.r hz
  have HPK := hid (pick_q o.r gps.length hk.r.1 hk.r.2 hz (by omega))
  have HW := hid (fun W (hb : Below w.heap.size w W) (j1 j2 : Int) => shows_play (h.below hb) hnt hi { o with i1 := j1, i2 := j2 } ⟨hk.r, hk.made, hk.a, hk.b, hk.key⟩ (hpow.keep hb) hkd.1 hkd.2)
  obtain ⟨a, c, rfl, hc1, hc2, hf⟩ := owns_form h.ps
  obtain ⟨gp0, rfl⟩ := hf _ hi
  have y0 : w.cell? ⟨gy, 0, none⟩ = some (.slice (some ⟨gp0, 0, none⟩) gps.length c) := by simp [World.cell?, h.y]
  have p0 := ptrC_cell h.ps rfl _ hi
  have HBL := hid hblk
  have hpl := blk_lt hblk
  obtain ⟨at', ct, rfl, ht1, ht2, htf⟩ := owns_form hto
  unfold maxLen at ht2
  have t2 : w.cell? ⟨gps[pickN o.r gps.length]'(pickN_lt _ hz), 2, none⟩ = some (.slice at' told.length ct) := (blk3 hblk).2.2
  have y0' := keep HB.out y0
  have p0' := keep HB.out p0
  have t2' := keep HB.out t2
  have HY0 := hid y0
  have HP0 := hid p0
  have HT2 := hid t2
  have hj := pickN_lt o.made hmd.2
  have HPM := hid (pick_q o.made told.length hk.made.1 hk.made.2 hmd.2 (by omega))
  obtain ⟨gt, rfl⟩ := htf _ hj
  obtain ⟨q0, q1⟩ := isIds.cells hto rfl _ hj
  have HQ0 := hid q0
  have HQ1 := hid q1
  have hgt := World.block_lt_of_cell? w _ q0
  simp only at hgt
  generalize hpj : pickN o.made told.length = pj at *
  generalize hj1 : (told[pj]).1 = j1 at *
  generalize hj2 : (told[pj]).2 = j2 at *
  have hpj0 : (0 : Int) ≤ (pj : Int) := Int.natCast_nonneg _
  have hpj1 : (pj : Int) < (told.length : Int) := by omega
  have HB2 := hid ((Below.refl w.heap.size w).alloc (Nat.le_refl _) (.cells #[.int .i64 o.kind, .int .i64 o.r, .int .i64 o.c, .int .i64 o.d, .int .i64 j1, .int .i64 j2, .int .i64 o.made, .string o.key, .int .i64 o.a, .int .i64 o.b, .bool o.yes] 87)).drew.drew
  have HX2 := hid (blk_new w (.cells #[.int .i64 o.kind, .int .i64 o.r, .int .i64 o.c, .int .i64 o.d, .int .i64 j1, .int .i64 j2, .int .i64 o.made, .string o.key, .int .i64 o.a, .int .i64 o.b, .bool o.yes] 87))
  have hm1 : 0 < o.made := hmd.1
  have hm2 : (0 : Int) < (told.length : Int) := by omega
  generalize gps[pickN o.r gps.length]'(pickN_lt _ hz) = gp at *
  generalize pickN o.r gps.length = pi at *
  have hpi0 : (0 : Int) ≤ (pi : Int) := Int.natCast_nonneg _
  have hpi1 : (pi : Int) < (gps.length : Int) := by omega
  have hz0 : ¬ ((gps.length : Int) = 0) := by omega
  have hz1 : ¬ (gps.length = 0) := by omega
  have hk1 : ¬ (o.kind = 1) := by omega
  have hk2 : ¬ (o.kind < 2) := by omega
  have hk3 : ¬ (22 < o.kind) := by omega
  have hk8 : ¬ (o.kind ≤ 8) := by omega
  have hk12 : o.kind ≤ 12 := by omega
  clear h hf hto htf hblk hk
  go_enter Tryz.func35, Tryz.ntmps35
  go_wp2
  go_region_held3 (fun W => W.cell? ⟨gy, 0, none⟩ = some (.slice (some ⟨gp0, 0, none⟩) gps.length c) ∧ W.cell? ⟨w.heap.size, 1, none⟩ = some (.int .i64 o.r) ∧ W.cell? ⟨gp0, pi, none⟩ = some (.pointer (some ⟨gp, 0, none⟩))) (first | exact ⟨y0', (op11 HX.out).2.1, p0'⟩)
    (first | (go_at_call 67; refine (HPK.out _).mono ?_; rintro e w1 ⟨rfl, rfl⟩))
  go_wp2
  go_region_held3 (fun W => W.cell? ⟨gp, 2, none⟩ = some (.slice (some ⟨gt, 0, none⟩) told.length ct) ∧ W.cell? ⟨w.heap.size, 6, none⟩ = some (.int .i64 o.made) ∧ W.cell? ⟨gt, pj * 2, none⟩ = some (.int .i64 j1) ∧ W.cell? ⟨gt, pj * 2 + 1, none⟩ = some (.int .i64 j2)) (first | exact ⟨keep HB.out.drew HT2.out, (op11 (W := (w.alloc (.cells #[.int .i64 o.kind, .int .i64 o.r, .int .i64 o.c, .int .i64 o.d, .int .i64 o.i1, .int .i64 o.i2, .int .i64 o.made, .string o.key, .int .i64 o.a, .int .i64 o.b, .bool o.yes] 87)).drew) HX.out).2.2.2.2.2.2.1, keep HB.out.drew HQ0.out, keep HB.out.drew HQ1.out⟩ | exact ⟨keep HB2.out HT2.out, (op11 (W := (w.alloc (.cells #[.int .i64 o.kind, .int .i64 o.r, .int .i64 o.c, .int .i64 o.d, .int .i64 j1, .int .i64 j2, .int .i64 o.made, .string o.key, .int .i64 o.a, .int .i64 o.b, .bool o.yes] 87)).drew.drew) HX2.out).2.2.2.2.2.2.1, keep HB2.out HQ0.out, keep HB2.out HQ1.out⟩)
    (first | (go_at_call 67; refine (HPM.out _).mono ?_; rintro e w1 ⟨rfl, rfl⟩))
  go_wp2_with (first
    | (go_at_call 69; refine (HW.out _ (((Below.refl w.heap.size w).alloc (Nat.le_refl _) _).drew.drew) j1 j2).mono ?_; rintro e w1 ⟨rfl, hp1⟩; have HP1 := hid hp1; clear hp1))
  go_ret
  exact ⟨rfl, HP1.out.from (((Below.refl w.heap.size w).alloc (Nat.le_refl _) _).drew.drew) hbs⟩

set_option maxRecDepth 1000000 in
set_option maxHeartbeats 8000000 in
theorem step_fs {base gy : Nat} {vp va vb : Value} {gps la lb : List Nat} {FF : Nat → Nat → Prop} {R : Nat → Prop} {nt : Nat} {w : World} (h : PlayAt base gy vp va vb gps la lb FF R nt w) (hnt : nt < 2000000000000) (o : LOp) (hk : LOk o) (hpow : Pow w) (hkd : 9 ≤ o.kind ∧ o.kind ≤ 11) (hz : 0 < gps.length) {x r : Nat} {vt : Value} {told : List PId} (hblk : w.heap[gps[pickN o.r gps.length]'(pickN_lt _ hz)]? = some (.cells #[.pointer (some ⟨x, 0, none⟩), .pointer (some ⟨r, 0, none⟩), vt] 135 (0, 0))) (hto : ownIds 0 w vt told) (hmd : ¬ (0 < o.made ∧ 0 < told.length)) :
    Calls Tryz.prog 35 #[.pointer (some ⟨gy, 0, none⟩), .agg #[.int .i64 o.kind, .int .i64 o.r, .int .i64 o.c, .int .i64 o.d, .int .i64 o.i1, .int .i64 o.i2, .int .i64 o.made, .string o.key, .int .i64 o.a, .int .i64 o.b, .bool o.yes]] w fun e w' => e = .returned (.bool true) ∧ Played base gy (nt + 1) w w' := by
  have HB := hid ((Below.refl w.heap.size w).alloc (Nat.le_refl _) (.cells #[.int .i64 o.kind, .int .i64 o.r, .int .i64 o.c, .int .i64 o.d, .int .i64 o.i1, .int .i64 o.i2, .int .i64 o.made, .string o.key, .int .i64 o.a, .int .i64 o.b, .bool o.yes] 87))
  have HX := hid (blk_new w (.cells #[.int .i64 o.kind, .int .i64 o.r, .int .i64 o.c, .int .i64 o.d, .int .i64 o.i1, .int .i64 o.i2, .int .i64 o.made, .string o.key, .int .i64 o.a, .int .i64 o.b, .bool o.yes] 87))
  have hbs := h.bs
  have hnp := h.np
  have hyl := (h.rb gy h.ry).2
  have hyn : gy ≠ w.heap.size := by omega
  have hi := pickN_lt o.r hz
  have HPK := hid (pick_q o.r gps.length hk.r.1 hk.r.2 hz (by omega))
  have HW := hid (fun W (hb : Below w.heap.size w W) (j1 j2 : Int) => shows_play (h.below hb) hnt hi { o with i1 := j1, i2 := j2 } ⟨hk.r, hk.made, hk.a, hk.b, hk.key⟩ (hpow.keep hb) hkd.1 hkd.2)
  obtain ⟨a, c, rfl, hc1, hc2, hf⟩ := owns_form h.ps
  obtain ⟨gp0, rfl⟩ := hf _ hi
  have y0 : w.cell? ⟨gy, 0, none⟩ = some (.slice (some ⟨gp0, 0, none⟩) gps.length c) := by simp [World.cell?, h.y]
  have p0 := ptrC_cell h.ps rfl _ hi
  have HBL := hid hblk
  have hpl := blk_lt hblk
  obtain ⟨at', ct, rfl, ht1, ht2, htf⟩ := owns_form hto
  unfold maxLen at ht2
  have t2 : w.cell? ⟨gps[pickN o.r gps.length]'(pickN_lt _ hz), 2, none⟩ = some (.slice at' told.length ct) := (blk3 hblk).2.2
  have y0' := keep HB.out y0
  have p0' := keep HB.out p0
  have t2' := keep HB.out t2
  have HY0 := hid y0
  have HP0 := hid p0
  have HT2 := hid t2
  generalize gps[pickN o.r gps.length]'(pickN_lt _ hz) = gp at *
  generalize pickN o.r gps.length = pi at *
  have hpi0 : (0 : Int) ≤ (pi : Int) := Int.natCast_nonneg _
  have hpi1 : (pi : Int) < (gps.length : Int) := by omega
  have hz0 : ¬ ((gps.length : Int) = 0) := by omega
  have hz1 : ¬ (gps.length = 0) := by omega
  have hk1 : ¬ (o.kind = 1) := by omega
  have hk2 : ¬ (o.kind < 2) := by omega
  have hk3 : ¬ (22 < o.kind) := by omega
  have hk8 : ¬ (o.kind ≤ 8) := by omega
  have hk12 : o.kind ≤ 12 := by omega
  clear h hf hto htf hblk hk
  by_cases hm1 : 0 < o.made
  · have hm2 : ¬ ((0 : Int) < (told.length : Int)) := by omega
    have hm3 : told.length = 0 := by omega
    go_enter Tryz.func35, Tryz.ntmps35
    go_wp2
    go_region_held3 (fun W => W.cell? ⟨gy, 0, none⟩ = some (.slice (some ⟨gp0, 0, none⟩) gps.length c) ∧ W.cell? ⟨w.heap.size, 1, none⟩ = some (.int .i64 o.r) ∧ W.cell? ⟨gp0, pi, none⟩ = some (.pointer (some ⟨gp, 0, none⟩))) (first | exact ⟨y0', (op11 HX.out).2.1, p0'⟩)
      (first | (go_at_call 67; refine (HPK.out _).mono ?_; rintro e w1 ⟨rfl, rfl⟩))
    go_wp2_with (first
      | (go_at_call 69; refine (HW.out _ (((Below.refl w.heap.size w).alloc (Nat.le_refl _) _).drew) o.i1 o.i2).mono ?_; rintro e w1 ⟨rfl, hp1⟩; have HP1 := hid hp1; clear hp1))
    go_ret
    exact ⟨rfl, HP1.out.from (((Below.refl w.heap.size w).alloc (Nat.le_refl _) _).drew) hbs⟩
  · go_enter Tryz.func35, Tryz.ntmps35
    go_wp2
    go_region_held3 (fun W => W.cell? ⟨gy, 0, none⟩ = some (.slice (some ⟨gp0, 0, none⟩) gps.length c) ∧ W.cell? ⟨w.heap.size, 1, none⟩ = some (.int .i64 o.r) ∧ W.cell? ⟨gp0, pi, none⟩ = some (.pointer (some ⟨gp, 0, none⟩))) (first | exact ⟨y0', (op11 HX.out).2.1, p0'⟩)
      (first | (go_at_call 67; refine (HPK.out _).mono ?_; rintro e w1 ⟨rfl, rfl⟩))
    go_wp2_with (first
      | (go_at_call 69; refine (HW.out _ (((Below.refl w.heap.size w).alloc (Nat.le_refl _) _).drew) o.i1 o.i2).mono ?_; rintro e w1 ⟨rfl, hp1⟩; have HP1 := hid hp1; clear hp1))
    go_ret
    exact ⟨rfl, HP1.out.from (((Below.refl w.heap.size w).alloc (Nat.le_refl _) _).drew) hbs⟩
end

end Go.Proofs.YtnkpogjiiohapaaGreatDoor

/-! PPlayH: The law: step, whole. -/
namespace Go.Proofs.YtnkpogjiiohapaaGreatDoor
open Go.RowKit

theorem step_q {base gy : Nat} {vp va vb : Value} {gps la lb : List Nat} {FF : Nat → Nat → Prop} {R : Nat → Prop} {nt : Nat} {w : World} (h : PlayAt base gy vp va vb gps la lb FF R nt w) (hnt : nt < 2000000000000) (o : LOp) (hk : LOk o) (hpow : Pow w) (hkd : 1 ≤ o.kind ∧ o.kind ≤ 11) :
    Calls Tryz.prog 35 #[.pointer (some ⟨gy, 0, none⟩), .agg #[.int .i64 o.kind, .int .i64 o.r, .int .i64 o.c, .int .i64 o.d, .int .i64 o.i1, .int .i64 o.i2, .int .i64 o.made, .string o.key, .int .i64 o.a, .int .i64 o.b, .bool o.yes]] w fun e w' => e = .returned (.bool true) ∧ Played base gy (nt + 1) w w' := by
  by_cases h1 : o.kind = 1
  · exact step_new h hnt o h1
  by_cases hz : gps.length = 0
  · exact step_none h o ⟨by omega, hkd.2⟩ hz
  have hz' : 0 < gps.length := by omega
  obtain ⟨x, r, vt, told, FP, FR, N, sp, P, ht, hp⟩ := h.pr _ (pickN_lt o.r hz')
  by_cases hm : 0 < o.made ∧ 0 < told.length
  · by_cases h8 : o.kind ≤ 8
    · exact step_tw h hnt o hk ⟨by omega, h8⟩ hz' hp.blk hp.told hm
    · exact step_ts h hnt o hk hpow ⟨by omega, hkd.2⟩ hz' hp.blk hp.told hm
  · by_cases h8 : o.kind ≤ 8
    · exact step_fw h hnt o hk ⟨by omega, h8⟩ hz' hp.blk hp.told hm
    · exact step_fs h hnt o hk hpow ⟨by omega, hkd.2⟩ hz' hp.blk hp.told hm

end Go.Proofs.YtnkpogjiiohapaaGreatDoor

/-! PPlayI: The law: plays, over the kinds of Writes. -/
namespace Go.Proofs.YtnkpogjiiohapaaGreatDoor
open Go.RowKit
attribute [local go_sem ↓] Go.wp_at_zero Go.wp_at_succ

theorem play_begin {w : World} : PlayAt w.heap.size w.heap.size (.slice none 0 0) (.slice none 0 0) (.slice none 0 0) [] [] [] (fun _ _ => False) (fun k => k = w.heap.size) 0 (w.alloc (.cells #[.slice none 0 0, .slice none 0 0, .slice none 0 0, .slice none 0 0] 84)) where
  y := blk_new w _
  ps := ⟨rfl, .inl ⟨rfl, rfl⟩⟩
  a := ⟨rfl, .inl ⟨rfl, rfl⟩⟩
  b := ⟨rfl, .inl ⟨rfl, rfl⟩⟩
  pr := fun i hi => by cases hi
  dis := fun i _ _ hi => by cases hi
  fb := fun i _ hi => by cases hi
  fr := fun i _ hi => by cases hi
  rb := fun k hk => by subst hk; simp
  ry := rfl
  rp := fun k hk => by cases hk
  ra := fun k hk => by cases hk
  rv := fun k hk => by cases hk
  ea := fun i hi => by cases hi
  eb := fun i hi => by cases hi
  np := Nat.le_refl _
  na := Nat.le_refl _
  nb := Nat.le_refl _
  bs := by simp
theorem Played.grow {base gy nt : Nat} {w W W' : World} (h : Played base gy nt w W) (hb : Below W.heap.size W W') : Played base gy nt w W' := by
  obtain ⟨vp, va, vb, gps, la, lb, FF, R, h1, h2⟩ := h
  exact ⟨vp, va, vb, gps, la, lb, FF, R, h1.below hb, h2.trans (hb.mono h1.bs)⟩
theorem Played.more {base gy nt nt' : Nat} {w W : World} (h : Played base gy nt w W) (hn : nt ≤ nt') : Played base gy nt' w W := by
  obtain ⟨vp, va, vb, gps, la, lb, FF, R, h1, h2⟩ := h
  exact ⟨vp, va, vb, gps, la, lb, FF, R, h1.more hn, h2⟩
theorem Played.after {base gy nt' : Nat} {w W W' : World} (h : Below base w W) (h' : Played base gy nt' W W') : Played base gy nt' w W' := by
  obtain ⟨vp, va, vb, gps, la, lb, FF, R, h1, h2⟩ := h'
  exact ⟨vp, va, vb, gps, la, lb, FF, R, h1, h.trans h2⟩
/-- The book is whole. -/
theorem Played.whole {base gy nt : Nat} {w W : World} (h : Played base gy nt w W) (hnt : nt < 2000000000000) : Calls Tryz.prog 36 #[.pointer (some ⟨gy, 1, none⟩)] W fun e w' => e = .returned (.bool true) ∧ Below W.heap.size W w' := by
  obtain ⟨vp, va, vb, gps, la, lb, FF, R, h1, h2⟩ := h
  have := h1.na
  have := h1.nb
  exact whole_q h1.y (by omega) (by omega) h1.a h1.b h1.ea.ents h1.eb.ents
/-- One step more. -/
theorem Played.step {base gy nt : Nat} {w W : World} (h : Played base gy nt w W) (hw : base = w.heap.size) (hpow : Pow w) (hnt : nt < 2000000000000) (o : LOp) (hk : LOk o) (hkd : 1 ≤ o.kind ∧ o.kind ≤ 11) : Calls Tryz.prog 35 #[.pointer (some ⟨gy, 0, none⟩), .agg #[.int .i64 o.kind, .int .i64 o.r, .int .i64 o.c, .int .i64 o.d, .int .i64 o.i1, .int .i64 o.i2, .int .i64 o.made, .string o.key, .int .i64 o.a, .int .i64 o.b, .bool o.yes]] W fun e w' => e = .returned (.bool true) ∧ Played base gy (nt + 1) w w' := by
  obtain ⟨vp, va, vb, gps, la, lb, FF, R, h1, h2⟩ := h
  refine (step_q h1 hnt o hk (hpow.keep (hw ▸ h2)) hkd).mono fun e w' hh => ⟨hh.1, hh.2.after h2⟩

end Go.Proofs.YtnkpogjiiohapaaGreatDoor

/-! PPlayJ: The law: plays, over the kinds of Writes. -/
namespace Go.Proofs.YtnkpogjiiohapaaGreatDoor
open Go.RowKit
attribute [local go_sem ↓] Go.wp_at_zero Go.wp_at_succ

theorem lokA : LOk ⟨1, 0, 0, 0, 0, 0, 0, ⟨#[]⟩, 3, 4, false⟩ := ⟨⟨by decide, by decide⟩, ⟨by decide, by decide⟩, ⟨by decide, by decide⟩, ⟨by decide, by decide⟩, by show (0 : Nat) ≤ maxLen; exact Nat.zero_le _⟩
theorem lokB : LOk ⟨3, 0, 0, 0, 0, 0, 0, ⟨#[108]⟩, 0, 0, true⟩ := ⟨⟨by decide, by decide⟩, ⟨by decide, by decide⟩, ⟨by decide, by decide⟩, ⟨by decide, by decide⟩, by show (1 : Nat) ≤ maxLen; unfold maxLen; omega⟩

set_option maxRecDepth 1000000 in
set_option maxHeartbeats 8000000 in
theorem plays_q {w : World} {sa : Option Addr} {os : List LOp} {cap gk : Nat} (hs : isScript w sa os) (hok : ∀ i (hi : i < os.length), LOk os[i]) (hn : os.length ≤ 1500000000000) (hkd : ∀ q : Nat, q < 11 → w.cell? ⟨gk, q, none⟩ = some (.int .i64 ((q : Int) + 1))) (hpow : Pow w) :
    Calls Tryz.prog 13 #[.slice sa os.length cap, .slice (some ⟨gk, 0, none⟩) 11 11] w fun e w' => e = .returned (.bool true) ∧ Below w.heap.size w w' := by
  have HS := hid hs
  have HOK := hid hok
  have HKD := hid hkd
  have HPW := hid hpow
  clear hs hok hkd hpow
  have HP0 := hid (show Played w.heap.size w.heap.size 0 w (w.alloc (.cells #[.slice none 0 0, .slice none 0 0, .slice none 0 0, .slice none 0 0] 84)) from ⟨_, _, _, _, _, _, _, _, play_begin, (Below.refl w.heap.size w).alloc (Nat.le_refl _) _⟩)
  have HS1 := hid (HP0.out.step rfl HPW.out (by omega) ⟨1, 0, 0, 0, 0, 0, 0, ⟨#[]⟩, 3, 4, false⟩ lokA ⟨by decide, by decide⟩)
  have HS2 := hid (fun W (h : Played w.heap.size w.heap.size 1 w W) => h.step rfl HPW.out (by omega) ⟨3, 0, 0, 0, 0, 0, 0, ⟨#[108]⟩, 0, 0, true⟩ lokB ⟨by decide, by decide⟩)
  go_enter Tryz.func13, Tryz.ntmps13
  go_wp2_with fail
  refine HS1.out.mono ?_
  rintro e w1 ⟨rfl, hp1⟩
  have HP1 := hid hp1; clear hp1 HS1 HP0
  go_wp2_with fail
  refine (HS2.out _ HP1.out).mono ?_
  rintro e w2 ⟨rfl, hp2⟩
  have HP2 := hid hp2; clear hp2 HS2 HP1
  go_wp2
  go_loopw [6, 7] (fun ok i wr => ok = .bool true ∧ ∃ p : Nat, p ≤ os.length ∧ i = .int .i64 p ∧ Played w.heap.size w.heap.size (p + 2) w wr) (fun _ i _ => os.length - (intOf i).toNat)
  case atStart => exact ⟨rfl, 0, Nat.zero_le _, rfl, HP2.out⟩
  case round =>
    obtain ⟨rfl, p, hp, rfl, hpl⟩ := hrel
    have HPL := hid hpl; clear hpl
    by_cases hlt : p < os.length
    · obtain ⟨g, off, rfl, hce⟩ := HS.out p hlt
      have HCE := hid hce; clear hce
      have hp0 : (0 : Int) ≤ (p : Int) := Int.natCast_nonneg _
      have hp1 : (p : Int) < (os.length : Int) := by omega
      have hk0 := HCE.out 0 _ rfl
      simp only [Nat.add_zero] at hk0
      have HK0 := hid hk0; clear hk0
      obtain ⟨wo, hwo⟩ : ∃ wo, wo = wr := ⟨_, rfl⟩
      subst hwo
      go_wp2
      go_loopw [8, 9] (fun u j wr => ∃ (b : Bool) (q : Nat), q ≤ 11 ∧ u = .bool b ∧ j = .int .i64 q ∧ (b = true ↔ 1 ≤ os[p].kind ∧ os[p].kind ≤ q) ∧ Below wo.heap.size wo wr) (fun _ j _ => 11 - (intOf j).toNat)
      case atStart => exact ⟨false, 0, Nat.zero_le _, rfl, rfl, by simp; omega, Below.refl _ _⟩
      case round =>
        obtain ⟨b, q, hq, rfl, rfl, hb, hbel⟩ := hrel
        have HBL := hid hbel; clear hbel
        have HBB := hid hb; clear hb
        have HPR := hid (HPL.out.grow HBL.out)
        have HWB := hid (show Below w.heap.size w wr by obtain ⟨_, _, _, _, _, _, _, _, _, hb⟩ := HPR.out; exact hb)
        by_cases hqt : q < 11
        · have hq0 : (0 : Int) ≤ (q : Int) := Int.natCast_nonneg _
          have hq1 : (q : Int) < 11 := by omega
          have c1 := keep HWB.out (HKD.out q hqt)
          have c0 := keep HWB.out HK0.out
          cases b with
          | true =>
            have hbb := HBB.out.1 rfl
            go_wp2
            go_region
            all_goals (go_wp2; go_roundw)
            case rel => exact ⟨true, q + 1, by omega, rfl, by go_num, by constructor <;> intro h <;> first | rfl | (constructor <;> omega), HBL.out.drew⟩
            case measure => simp [intOf]; omega
          | false =>
            have hbb : ¬ (1 ≤ os[p].kind ∧ os[p].kind ≤ (q : Int)) := fun h => by have := HBB.out.2 h; cases this
            go_wp2
            go_region_held3 (fun W => W.cell? ⟨g, off + p * 11, none⟩ = some (.int .i64 os[p].kind) ∧ W.cell? ⟨gk, q, none⟩ = some (.int .i64 ((q : Int) + 1))) (first | exact ⟨c0, c1⟩ | exact ⟨keep HWB.out.drew HK0.out, keep HWB.out.drew (HKD.out q hqt)⟩) (fail)
            go_wp2
            go_roundw
            case rel => exact ⟨os[p].kind == (q : Int) + 1, q + 1, by omega, rfl, by go_num, by rw [beq_iff_eq]; constructor <;> intro h <;> first | (constructor <;> omega) | omega, HBL.out.drew⟩
            case measure => simp [intOf]; omega
        · have hq1 : ¬ ((q : Int) < 11) := by omega
          obtain rfl : q = 11 := by omega
          cases b with
          | false =>
            go_wp2
            go_roundw
            case rel => exact ⟨rfl, p + 1, by omega, by go_num, HPR.out.more (by omega)⟩
            case measure => simp [intOf]; omega
          | true =>
            have hbb := HBB.out.1 rfl
            have HST := hid (HPR.out.step rfl HPW.out (by omega) os[p] (HOK.out p hlt) ⟨hbb.1, by have := hbb.2; omega⟩)
            have d0 := keep HWB.out (HCE.out 0 _ rfl)
            have d1 := keep HWB.out (HCE.out 1 _ rfl)
            have d2 := keep HWB.out (HCE.out 2 _ rfl)
            have d3 := keep HWB.out (HCE.out 3 _ rfl)
            have d4 := keep HWB.out (HCE.out 4 _ rfl)
            have d5 := keep HWB.out (HCE.out 5 _ rfl)
            have d6 := keep HWB.out (HCE.out 6 _ rfl)
            have d7 := keep HWB.out (HCE.out 7 _ rfl)
            have d8 := keep HWB.out (HCE.out 8 _ rfl)
            have d9 := keep HWB.out (HCE.out 9 _ rfl)
            have d10 := keep HWB.out (HCE.out 10 _ rfl)
            simp only [Nat.add_zero] at d0
            go_wp2_with fail
            refine HST.out.mono ?_
            rintro e w3 ⟨rfl, hp3⟩
            have HP3 := hid hp3; clear hp3
            have HWH := hid (HP3.out.whole (by omega))
            go_wp2_with fail
            refine HWH.out.mono ?_
            rintro e w4 ⟨rfl, hb4⟩
            have HB4 := hid hb4; clear hb4
            go_wp2
            go_roundw
            case rel => exact ⟨rfl, p + 1, by omega, by go_num, (HP3.out.grow HB4.out).more (by omega)⟩
            case measure => simp [intOf]; omega
    · have hp1 : ¬ ((p : Int) < (os.length : Int)) := by omega
      go_wp2
      go_ret
      obtain ⟨_, _, _, _, _, _, _, _, _, hb⟩ := HPL.out
      exact ⟨rfl, hb⟩

end Go.Proofs.YtnkpogjiiohapaaGreatDoor
