/- Our own text (GSeqA). -/
import Derived.Test.YtnkpogjiiohapaaGreatDoorA17
import Derived.Test.YtnkpogjiiohapaaGreatDoorA04
import Derived.Test.YtnkpogjiiohapaaGreatDoorA09
set_option linter.unusedSimpArgs false
set_option linter.unusedVariables false

/-! GSeqA: slices.SortedFunc, givers, Givers, Values: a place with any number of values. -/
namespace Go.Proofs.YtnkpogjiiohapaaGreatDoor
open Go.RowKit
attribute [local go_sem] Oper.semAt_some

set_option maxRecDepth 100000 in
set_option maxHeartbeats 1000000 in
theorem sortedFunc_any (Bm : Nat) (v : Option Nat) (vs : List (PId × PVal)) (w : World) (hm : w.cell? ⟨Bm, 0, none⟩ = some (.map v)) (hv : isVals w v vs) (hN : vs.length ≤ 10000) (hnd : (vs.map (·.1)).Nodup) :
    Calls Tryz.prog 137 #[.func (.func 164) #[] #[.pointer (some ⟨Bm, 0, none⟩)], .func (.func 139) #[] #[]] w fun e w' => ∃ u ss, e = .returned u ∧ ss.Perm (vs.map (·.1)) ∧ Asc ss ∧ ownIds w.heap.size w' u ss ∧ Below w.heap.size w w' := by
  have HC := hid (collect_q Bm v vs w hm hv hN)
  clear hm hv
  go_enter Tryz.func137, Tryz.ntmps137
  go_wp2_with fail
  refine HC.out.mono ?_
  rintro e w1 ⟨u, ss, rfl, hS, hu, hb⟩
  have hlen : ss.length ≤ 10000 := by have := hS.length_eq; rw [List.length_map] at this; omega
  have HS := hid (sortIds_q hu (hS.nodup_iff.2 hnd) hlen)
  have HX := hid (And.intro hS (And.intro hu hb)); clear hS hu hb
  go_wp2_with fail
  refine HS.out.mono ?_
  rintro e w2 ⟨rfl, l', hp, ha, ho, hg⟩
  have HY := hid (And.intro hp (And.intro ha (And.intro ho hg))); clear hp ha ho hg
  go_wp2
  go_ret
  exact ⟨u, l', rfl, HY.out.1.trans HX.out.1, HY.out.2.1, HY.out.2.2.1, HX.out.2.2.grown HY.out.2.2.2 HX.out.2.2.size (fun k hk => (World.ownsRow.lt HX.out.2.1 k hk).1)⟩

set_option maxRecDepth 100000 in
set_option maxHeartbeats 1000000 in
theorem giversAny (v : Option Nat) (vs : List (PId × PVal)) (w : World) (hv : isVals w v vs) (hN : vs.length ≤ 10000) (hnd : (vs.map (·.1)).Nodup) :
    Calls Tryz.prog 87 #[.map v] w fun e w' => ∃ u ss, e = .returned u ∧ ss.Perm (vs.map (·.1)) ∧ Asc ss ∧ ownIds w.heap.size w' u ss ∧ Below w.heap.size w w' := by
  have HK := hid (callsIn_wide.1 (keys_q Fence.wide 3 trivial rfl v w))
  have hb0 : Below w.heap.size w (w.alloc (.cells #[.map v] 159)) := (Below.refl _ w).alloc (Nat.le_refl _) _
  have HB0 := hid hb0
  have HS := hid (sortedFunc_any w.heap.size v vs (w.alloc (.cells #[.map v] 159)) (by simp [go_sem]) (hv.keep hb0) hN hnd)
  clear hv hb0
  go_enter Tryz.func87, Tryz.ntmps87
  go_wp2_with fail
  refine HK.out.mono ?_
  rintro e w1 ⟨rfl, rfl⟩
  go_wp2_with fail
  refine HS.out.mono ?_
  rintro e w2 ⟨u, ss, rfl, hp, ha, hu, hb⟩
  have HX := hid (And.intro hu hb); clear hu hb
  have HP := hid (And.intro hp ha); clear hp ha
  go_wp2
  go_ret
  exact ⟨u, ss, rfl, HP.out.1, HP.out.2, owns_mono HX.out.1 (by simp), HB0.out.trans (HX.out.2.mono HB0.out.size)⟩

set_option maxRecDepth 1000000 in
set_option maxHeartbeats 800000 in
theorem givers_any {w : World} {d bo be : Nat} {os : List (PId × CQObj)} {els : List (PId × CQEl)} (h : isQ w d bo be os els) (o1 o2 e1 e2 : Int) (key : ByteArray) (hN : (atPl os els (o1, o2) key (e1, e2)).vs.length ≤ 10000) (hnd : ((atPl os els (o1, o2) key (e1, e2)).vs.map (·.1)).Nodup) :
    Calls Tryz.prog 92 #[.pointer (some ⟨d, 0, none⟩), .agg #[.int .i64 o1, .int .i64 o2, .string key, .int .i64 e1, .int .i64 e2]] w fun e w' => ∃ u ss, e = .returned u ∧ ss.Perm ((atPl os els (o1, o2) key (e1, e2)).vs.map (·.1)) ∧ Asc ss ∧ ownIds w.heap.size w' u ss ∧ Below w.heap.size w w' := by
  have HB0 := hid ((Below.refl w.heap.size w).alloc (Nat.le_refl _) (.cells #[.int .i64 o1, .int .i64 o2, .string key, .int .i64 e1, .int .i64 e2] 97))
  have HA := hid (at_q (h.keep HB0.out) o1 o2 e1 e2 key)
  have HV := hid (fun W (hb : Below w.heap.size w W) => giversAny _ _ W ((h.at (o1, o2) key (e1, e2)).keep hb) hN hnd)
  clear h hN hnd
  generalize atPl os els (o1, o2) key (e1, e2) = A at *
  go_enter Tryz.func92, Tryz.ntmps92
  go_wp2_with fail
  refine HA.out.mono ?_
  rintro e w1 ⟨rfl, hb1⟩
  have HB1 := hid (HB0.out.trans (hb1.mono HB0.out.size)); clear hb1
  go_wp2_with fail
  refine (HV.out _ HB1.out).mono ?_
  rintro e w2 ⟨u, ss, rfl, hp, ha, hu, hb2⟩
  have HX := hid (And.intro hu hb2); clear hu hb2
  have HP := hid (And.intro hp ha); clear hp ha
  go_wp2
  go_ret
  exact ⟨u, ss, rfl, HP.out.1, HP.out.2, owns_mono HX.out.1 HB1.out.size, HB1.out.trans (HX.out.2.mono HB1.out.size)⟩

/-- The pairs of a map, in the order of some keys. -/
theorem pairs_by {vs : List (PId × PVal)} (hnd : (vs.map (·.1)).Nodup) : ∀ {ss : List PId}, ss.Perm (vs.map (·.1)) → ∃ vs' : List (PId × PVal), vs'.Perm vs ∧ vs'.map (·.1) = ss := by
  intro ss hp
  refine ⟨ss.map fun k => (k, (lookI k vs).getD (0, (0, 0))), ?_, by rw [List.map_map]; exact List.map_id _⟩
  have h1 : (vs.map (·.1)).map (fun k => (k, (lookI k vs).getD (0, (0, 0)))) = vs := by
    rw [List.map_map]
    conv => rhs; rw [← List.map_id vs]
    refine List.map_congr_left fun p hp => ?_
    have hl : lookI p.1 vs = some p.2 := look_of_mem hnd hp
    simp [hl]
  have h2 := hp.map fun k => (k, (lookI k vs).getD (0, (0, 0)))
  rw [h1] at h2
  exact h2

set_option maxRecDepth 1000000 in
set_option maxHeartbeats 800000 in
theorem qvalues_any {w : World} {d bo be : Nat} {os : List (PId × CQObj)} {els : List (PId × CQEl)} (h : isQ w d bo be os els) (o1 o2 e1 e2 : Int) (key : ByteArray) (hN : (atPl os els (o1, o2) key (e1, e2)).vs.length ≤ 10000) (hnd : ((atPl os els (o1, o2) key (e1, e2)).vs.map (·.1)).Nodup) :
    Calls Tryz.prog 49 #[.pointer (some ⟨d, 0, none⟩), .agg #[.int .i64 o1, .int .i64 o2, .string key, .int .i64 e1, .int .i64 e2]] w fun e w' => ∃ u, ∃ vs' : List (PId × PVal), e = .returned u ∧ vs'.Perm (atPl os els (o1, o2) key (e1, e2)).vs ∧ Asc (vs'.map (·.1)) ∧ ownVals w.heap.size w' u (vs'.map (·.2)) ∧ Below w.heap.size w w' := by
  have HB0 := hid ((Below.refl w.heap.size w).alloc (Nat.le_refl _) (.cells #[.int .i64 o1, .int .i64 o2, .string key, .int .i64 e1, .int .i64 e2] 97))
  have HA := hid (at_q (h.keep HB0.out) o1 o2 e1 e2 key)
  have HV := hid (fun W (hb : Below w.heap.size w W) => (h.at (o1, o2) key (e1, e2)).keep hb)
  clear h
  generalize atPl os els (o1, o2) key (e1, e2) = A at *
  go_enter Tryz.func49, Tryz.ntmps49
  go_wp2_with fail
  refine HA.out.mono ?_
  rintro e w1 ⟨rfl, hb1⟩
  have HB1 := hid (HB0.out.trans (hb1.mono HB0.out.size)); clear hb1
  have hl := run_lenMap (HV.out _ HB1.out) (ty := 3)
  obtain ⟨i0, hi0, hz0, hz1, hz2⟩ := info_parts (P := Tryz.prog) (e := 57) (z := .agg #[.int .i64 0, .int .i64 0, .int .i64 0]) (size := 3) (bytes := 24) (by kernel_rfl)
  have hz := HB1.out.size
  have HND := hid hnd; clear hnd
  go_wp2_with (first
    | (at_make; refine wpList_make_own _ rfl (.const (.int .i64 0)) (.tmp 13) 53 rfl w.heap.size 57 i0 (.agg #[.int .i64 0, .int .i64 0, .int .i64 0]) 3 Tryz.underlying53 hi0 hz0 hz1 _ _ _ A.vs.length rfl rfl ?h1 ?h2 ?h3 ?h4 ?_; (case h1 => rfl); (case h2 => rw [hz2]; omega); (case h3 => unfold maxLen; omega); (case h4 => exact hz); intro w2 hown2 hg2; have HO2 := hid hown2; clear hown2; have HG2 := hid hg2; clear hg2)
    | fail)
  have HB2 := hid (show Below w.heap.size w w2 from HB1.out.grown HG2.out hz (fun k hk => by cases hk))
  refine (giversAny _ _ w2 (HV.out _ HB2.out) hN HND.out).mono ?_
  rintro e w3 ⟨u, ss, rfl, hps, has, hu, hb3⟩
  obtain ⟨vs', hpv, rfl⟩ := pairs_by HND.out hps
  have HPV := hid (And.intro hpv has); clear hpv has hps
  have hlv : vs'.length = A.vs.length := HPV.out.1.length_eq
  have HB3 := hid (HB2.out.trans (hb3.mono HB2.out.size))
  have HO3 := hid (show ownVals w.heap.size w3 (.slice (some ⟨w1.heap.size, 0, none⟩) 0 A.vs.length) [] from owns_keep HO2.out hb3)
  obtain ⟨ua, uc, rfl, hul, hum, huf⟩ := owns_form hu
  rw [List.length_map] at hul huf
  unfold maxLen at hum
  have HU := hid hu; clear hu hb3
  have HUF := hid huf; clear huf
  have hz3 := HB3.out.size
  clear hl HG2 HO2
  rw [List.length_map]
  rw [← hlv] at hN
  have HLV := hid hlv; clear hlv
  go_wp2
  go_loopw [6, 18] (fun tv i wr => ∃ k : Nat, k ≤ vs'.length ∧ i = .int .i64 k ∧ ownVals w.heap.size wr tv ((vs'.take k).map (·.2)) ∧ isIds wr (.slice ua vs'.length uc) (vs'.map (·.1)) ∧ Below w.heap.size w wr) (fun _ i _ => vs'.length - (intOf i).toNat)
  case atStart => exact ⟨0, Nat.zero_le _, rfl, HO3.out, by have := HU.out.ids; rwa [List.length_map] at this, HB3.out⟩
  case round =>
    obtain ⟨k, hk, rfl, hown, hids, hbel⟩ := hrel
    by_cases hlt : k < vs'.length
    · obtain ⟨g, rfl⟩ := HUF.out k hlt
      obtain ⟨c0, c1⟩ := isIds.cells hids (by simp) k (by simpa using hlt)
      simp only [List.getElem_map] at c0 c1
      have hgl : g < wr.heap.size := World.block_lt_of_cell? wr _ c0
      have hba := (Below.refl wr.heap.size wr).alloc (Nat.le_refl _) (.cells #[.int .i64 vs'[k].1.1, .int .i64 vs'[k].1.2] 36)
      have l1 := (HV.out _ (hbel.trans (hba.mono hbel.size))).look vs'[k].1.1 vs'[k].1.2
      have l2 := (HV.out _ (hbel.trans (hba.mono hbel.size)).drew).look vs'[k].1.1 vs'[k].1.2
      have hlk : lookI (vs'[k].1.1, vs'[k].1.2) A.vs = some vs'[k].2 := look_of_mem HND.out (HPV.out.1.mem_iff.1 (List.getElem_mem hlt))
      rw [hlk] at l1 l2
      simp only [Option.getD_some, valV] at l1 l2
      have HO := hid hown; clear hown
      have HI := hid hids; clear hids
      have hbz := hbel.size
      have HBE := hid hbel; clear hbel hlk hba
      go_wp2_with (at_builtin; go_must (refine app_val rfl (.tmp 22) (.tmp 26) rfl w.heap.size _ ((vs'.take k).map (·.2)) rfl ?h1 (wr.heap.size + 1) 1 vs'[k].2 rfl ?h2 ?h4 ?h5 ?_; (case h1 => exact (HO.out.alloc _).alloc _); (case h2 => exact cells_val (by simp [go_sem]) (by simp [go_sem]) (by simp [go_sem])); (case h4 => simp; omega); (case h5 => simp; omega); intro v' w4 hown4 hg4; have HG := hid hg4; clear hg4; have HN4 := hid hown4; clear hown4))
      go_roundw
      case rel =>
        have hb4 : Below w.heap.size w w4 := ownVals.below ((HO.out.alloc _).alloc _) ((HBE.out.alloc hbz _).alloc (by simp; omega) _) (by simp; omega) HG.out
        refine ⟨k + 1, by omega, by go_num, by rw [take_map_succ _ hlt]; exact HN4.out, ?_, hb4⟩
        refine row_blk HI.out (fun g' hg' => ?_)
        obtain ⟨cs', hcs'⟩ := own_type HI.out hg'
        have hlt' := blk_lt hcs'
        rw [HG.out.block g' (by simp; omega) (fun e => by
          obtain ⟨c2, hc2⟩ := own_type ((HO.out.alloc (.cells #[.int .i64 vs'[k].1.1, .int .i64 vs'[k].1.2] 36)).alloc (.cells #[.int .i64 vs'[k].2.1, .int .i64 vs'[k].2.2.1, .int .i64 vs'[k].2.2.2] 57)) e.symm
          exact absurd (cells_type (blk_alloc (blk_alloc hcs')) hc2) (by decide))]
        rw [alloc_old_r _ _ (by simp; omega), alloc_old_r _ _ hlt']
      case measure => simp [intOf]; omega
    · go_wp2
      go_ret
      rw [List.take_of_length_le (by omega)] at hown
      exact ⟨_, vs', rfl, HPV.out.1, HPV.out.2, hown, hbel⟩

end Go.Proofs.YtnkpogjiiohapaaGreatDoor
