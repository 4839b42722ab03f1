/- Our own text (PDoF, PCloneA, PHistA, PHistB, PHistC, PHistD). -/
import Derived.Shelf.SlMaps.Clone
import Derived.Deep.RegionHeld3
import Derived.Deep.DrawnRows
import Derived.Deep.QuietTactic
import Derived.BigQuiet
import Derived.Test.YtnkpogjiiohapaaGreatDoorA09
set_option linter.unusedSimpArgs false
set_option linter.unusedVariables false

/-! PDoF: Do: the operations of a slice, one by one. -/
namespace Go.Proofs.YtnkpogjiiohapaaGreatDoor
open Go.RowKit

/-- A change in memory: what lies in the interface. -/
def isChg (w : World) (c : Value) : QChg → Prop
  | .inl l => c = .iface 197 (.agg #[.bool l])
  | .inr (.inl (x, b)) => c = .iface 179 (.agg #[.int .i64 x.1, .int .i64 x.2, .int .i64 b.1, .int .i64 b.2])
  | .inr (.inr (.inl (o, key, x, val, gs))) => ∃ s, c = .iface 182 (.agg #[.int .i64 o.1, .int .i64 o.2, .string key, .int .i64 x.1, .int .i64 x.2, .int .i64 val.1, .int .i64 val.2.1, .int .i64 val.2.2, s]) ∧ isIds w s gs
  | .inr (.inr (.inr (o, key, x, gs))) => ∃ s, c = .iface 184 (.agg #[.int .i64 o.1, .int .i64 o.2, .string key, .int .i64 x.1, .int .i64 x.2, s]) ∧ isIds w s gs
/-- One operation's cells. -/
def isOpAt (w : World) (g i : Nat) (o : QOp) : Prop :=
  w.cell? ⟨g, i, none⟩ = some (.int .i64 o.id.1) ∧ w.cell? ⟨g, i + 1, none⟩ = some (.int .i64 o.id.2) ∧ w.cell? ⟨g, i + 2, none⟩ = some (.int .i64 o.nth) ∧ ∃ c, w.cell? ⟨g, i + 3, none⟩ = some c ∧ isChg w c o.chg

theorem Turned.cell {S : Nat → Prop} {w w' : World} (h : Turned S w w') {g i : Nat} {v : Value} (hs : ¬ S g) (hc : w.cell? ⟨g, i, none⟩ = some v) : w'.cell? ⟨g, i, none⟩ = some v := by
  have hl := World.block_lt_of_cell? w _ hc
  unfold World.cell? at hc ⊢
  simp only at hc ⊢
  rw [h.other g hl hs]; exact hc
theorem isIds.turned {S : Nat → Prop} {w w' : World} {s : Value} {gs : List PId} (h : isIds w s gs) (ht : Turned S w w') (hs : ∀ g c t f, w.heap[g]? = some (.cells c t f) → ¬ S g) : isIds w' s gs :=
  row_blk h (fun g hg => by
    obtain ⟨c, hc⟩ := own_type h hg
    exact ht.other g (blk_lt hc) (hs g _ _ _ hc))
theorem isChg.turned {S : Nat → Prop} {w w' : World} {c : Value} {q : QChg} (h : isChg w c q) (ht : Turned S w w') (hs : ∀ g c t f, w.heap[g]? = some (.cells c t f) → ¬ S g) : isChg w' c q := by
  rcases q with l | ⟨x, b⟩ | ⟨o, key, x, val, gs⟩ | ⟨o, key, x, gs⟩
  · exact h
  · exact h
  · obtain ⟨s, e, hi⟩ := h; exact ⟨s, e, hi.turned ht hs⟩
  · obtain ⟨s, e, hi⟩ := h; exact ⟨s, e, hi.turned ht hs⟩

set_option maxRecDepth 1000000 in
set_option maxHeartbeats 1600000 in
theorem do_q {w : World} {d bo be : Nat} {R : Nat → Prop} {D : QDoc} (h : isQ w d bo be D.1 D.2) (ho : QOwn bo be R D.1 D.2) (hn : QNd D) (hRn : ∀ k, w.heap.size ≤ k → R k) (g off cap : Nat) (l : List QOp) (hl : l.length ≤ cap) (hc : l.length ≤ 10000) (hof : off ≤ 100000) (hop : ∀ k (hk : k < l.length), isOpAt w g (off + k * 4) l[k]) :
    Calls Tryz.prog 134 #[.pointer (some ⟨d, 0, none⟩), .slice (some ⟨g, off, none⟩) l.length cap] w fun e w' => (∃ r, e = .returned r) ∧
      (∃ D', DoTo D l D' ∧ isQ w' d bo be D'.1 D'.2 ∧ QOwn bo be R D'.1 D'.2) ∧ Turned (fun k => k = bo ∨ k = be) w w' := by
  have HMB := hid (show ∀ g c t f, w.heap[g]? = some (.cells c t f) → ¬ (g = bo ∨ g = be) from fun g c t f hg hs => by
    obtain ⟨es, clk, hmo⟩ := h.ho
    obtain ⟨es2, clk2, hme⟩ := h.he
    rcases hs with rfl | rfl
    · rw [hmo.blk] at hg; cases hg
    · rw [hme.blk] at hg; cases hg)
  have HOP := hid hop; clear hop
  have HH := hid h; clear h
  have HO := hid ho; clear ho
  have HNQ := hid hn; clear hn
  have HRN := hid hRn; clear hRn
  go_enter Tryz.func134, Tryz.ntmps134
  go_wp2
  go_loopw [8] (fun i wr => ∃ k : Nat, k ≤ l.length ∧ i = .int .i64 k ∧ (∃ D', DoTo D (l.take k) D' ∧ isQ wr d bo be D'.1 D'.2 ∧ QOwn bo be R D'.1 D'.2) ∧ Turned (fun k => k = bo ∨ k = be) w wr) (fun i _ => l.length - (intOf i).toNat)
  case atStart => exact ⟨0, Nat.zero_le _, rfl, ⟨D, .nil, HH.out, HO.out⟩, Turned.of_below (Below.refl _ _)⟩
  case round =>
    obtain ⟨k, hk, rfl, ⟨D', hdo, hq, hown⟩, htn⟩ := hrel
    have HDO := hid hdo; clear hdo
    have HQ := hid hq; clear hq
    have HW := hid hown; clear hown
    have HT := hid htn; clear htn
    by_cases hlt : k < l.length
    · obtain ⟨c0, c1, c2, c, c3, hch⟩ := HOP.out k hlt
      have hgS : ¬ (g = bo ∨ g = be) := by
        have hx := c0
        unfold World.cell? at hx
        simp only at hx
        cases hgo : w.heap[g]? with
        | none => rw [hgo] at hx; cases hx
        | some o =>
          cases o with
          | cells cs t f => exact HMB.out g _ _ _ hgo
          | _ => rw [hgo] at hx; simp at hx
      have HCH := hid (hch.turned HT.out HMB.out); clear hch
      replace c0 := HT.out.cell hgS c0
      replace c1 := HT.out.cell hgS c1
      replace c2 := HT.out.cell hgS c2
      replace c3 := HT.out.cell hgS c3
      rcases hcg : l[k].chg with lst | ⟨x, b⟩ | ⟨o, key, x, val, gs⟩ | ⟨o, key, x, gs⟩
      · rw [hcg] at HCH
        have hce := HCH.out
        simp only [isChg] at hce
        subst hce
        have HBA := hid (show Below wr.heap.size wr (wr.alloc (.cells #[.int .i64 l[k].id.1, .int .i64 l[k].id.2, .int .i64 l[k].nth, .iface 197 (.agg #[.bool lst])] 210)) from (Below.refl _ wr).alloc (Nat.le_refl _) _)
        have HST := hid ((make_do (HQ.out.keep HBA.out) HW.out lst l[k].id.1 l[k].id.2).mono (fun e w' hh => (show (∃ r, e = .returned r) ∧ (∃ D2, StepTo D' l[k] D2 ∧ isQ w' d bo be D2.1 D2.2 ∧ QOwn bo be R D2.1 D2.2) ∧ Turned (fun k => k = bo ∨ k = be) _ w' from ⟨hh.1, ⟨(putI l[k].id ⟨lst, none, [], (0, 0)⟩ D'.1, D'.2), by unfold StepTo; rw [hcg], hh.2.1, hh.2.2.1⟩, hh.2.2.2.mono fun k hk => .inl hk⟩)))
        go_wp2_with fail
        refine HST.out.mono ?_
        rintro e w2 ⟨⟨r, rfl⟩, hx, ht2⟩
        obtain ⟨D2, hs2, hq2, ho2⟩ := hx
        have HX := hid (And.intro hs2 (And.intro hq2 (And.intro ho2 (HT.out.trans ((Turned.of_below HBA.out).trans ht2))))); clear hs2 hq2 ho2 ht2
        go_wp2
        go_roundw
        case rel => exact ⟨k + 1, by omega, by go_num, ⟨D2, by rw [List.take_succ_eq_append_getElem hlt]; exact .snoc HDO.out HX.out.1, HX.out.2.1, HX.out.2.2.1⟩, HX.out.2.2.2⟩
        case measure => simp [intOf]; omega
      · rw [hcg] at HCH
        have hce := HCH.out
        simp only [isChg] at hce
        subst hce
        have HBA := hid (show Below wr.heap.size wr (wr.alloc (.cells #[.int .i64 l[k].id.1, .int .i64 l[k].id.2, .int .i64 l[k].nth, .iface 179 (.agg #[.int .i64 x.1, .int .i64 x.2, .int .i64 b.1, .int .i64 b.2])] 210)) from (Below.refl _ wr).alloc (Nat.le_refl _) _)
        have HST := hid ((lay_do (HQ.out.keep HBA.out) HW.out x b l[k].id).mono (fun e w' hh => (show (∃ r, e = .returned r) ∧ (∃ D2, StepTo D' l[k] D2 ∧ isQ w' d bo be D2.1 D2.2 ∧ QOwn bo be R D2.1 D2.2) ∧ Turned (fun k => k = bo ∨ k = be) _ w' from ⟨hh.1, ⟨layQ D' x b l[k].id, by unfold StepTo; rw [hcg], hh.2.1, hh.2.2.1⟩, hh.2.2.2⟩)))
        go_wp2_with fail
        refine HST.out.mono ?_
        rintro e w2 ⟨⟨r, rfl⟩, hx, ht2⟩
        obtain ⟨D2, hs2, hq2, ho2⟩ := hx
        have HX := hid (And.intro hs2 (And.intro hq2 (And.intro ho2 (HT.out.trans ((Turned.of_below HBA.out).trans ht2))))); clear hs2 hq2 ho2 ht2
        go_wp2
        go_roundw
        case rel => exact ⟨k + 1, by omega, by go_num, ⟨D2, by rw [List.take_succ_eq_append_getElem hlt]; exact .snoc HDO.out HX.out.1, HX.out.2.1, HX.out.2.2.1⟩, HX.out.2.2.2⟩
        case measure => simp [intOf]; omega
      · rw [hcg] at HCH
        have hce := HCH.out
        simp only [isChg] at hce
        obtain ⟨s, hce, hsi⟩ := hce
        subst hce
        have HBA := hid (show Below wr.heap.size wr (wr.alloc (.cells #[.int .i64 l[k].id.1, .int .i64 l[k].id.2, .int .i64 l[k].nth, .iface 182 (.agg #[.int .i64 o.1, .int .i64 o.2, .string key, .int .i64 x.1, .int .i64 x.2, .int .i64 val.1, .int .i64 val.2.1, .int .i64 val.2.2, s])] 210)) from (Below.refl _ wr).alloc (Nat.le_refl _) _)
        have HST := hid ((give_do (HQ.out.keep HBA.out) HW.out (HNQ.out.does HDO.out) o x l[k].id val key (hsi.keep HBA.out) (fun k hk => HRN.out k (Nat.le_trans HT.out.size (Nat.le_trans HBA.out.size hk)))).mono (fun e w' hh => (show (∃ r, e = .returned r) ∧ (∃ D2, StepTo D' l[k] D2 ∧ isQ w' d bo be D2.1 D2.2 ∧ QOwn bo be R D2.1 D2.2) ∧ Turned (fun k => k = bo ∨ k = be) _ w' from ⟨hh.1, ⟨hh.2.1.choose, by unfold StepTo; rw [hcg]; exact hh.2.1.choose_spec.1, hh.2.1.choose_spec.2.1, hh.2.1.choose_spec.2.2⟩, hh.2.2⟩)))
        go_wp2_with fail
        refine HST.out.mono ?_
        rintro e w2 ⟨⟨r, rfl⟩, hx, ht2⟩
        obtain ⟨D2, hs2, hq2, ho2⟩ := hx
        have HX := hid (And.intro hs2 (And.intro hq2 (And.intro ho2 (HT.out.trans ((Turned.of_below HBA.out).trans ht2))))); clear hs2 hq2 ho2 ht2
        go_wp2
        go_roundw
        case rel => exact ⟨k + 1, by omega, by go_num, ⟨D2, by rw [List.take_succ_eq_append_getElem hlt]; exact .snoc HDO.out HX.out.1, HX.out.2.1, HX.out.2.2.1⟩, HX.out.2.2.2⟩
        case measure => simp [intOf]; omega
      · rw [hcg] at HCH
        have hce := HCH.out
        simp only [isChg] at hce
        obtain ⟨s, hce, hsi⟩ := hce
        subst hce
        have HBA := hid (show Below wr.heap.size wr (wr.alloc (.cells #[.int .i64 l[k].id.1, .int .i64 l[k].id.2, .int .i64 l[k].nth, .iface 184 (.agg #[.int .i64 o.1, .int .i64 o.2, .string key, .int .i64 x.1, .int .i64 x.2, s])] 210)) from (Below.refl _ wr).alloc (Nat.le_refl _) _)
        have HST := hid ((take_do (HQ.out.keep HBA.out) HW.out (HNQ.out.does HDO.out) o x l[k].id key (hsi.keep HBA.out) (fun k hk => HRN.out k (Nat.le_trans HT.out.size (Nat.le_trans HBA.out.size hk)))).mono (fun e w' hh => (show (∃ r, e = .returned r) ∧ (∃ D2, StepTo D' l[k] D2 ∧ isQ w' d bo be D2.1 D2.2 ∧ QOwn bo be R D2.1 D2.2) ∧ Turned (fun k => k = bo ∨ k = be) _ w' from ⟨hh.1, ⟨hh.2.1.choose, by unfold StepTo; rw [hcg]; exact hh.2.1.choose_spec.1, hh.2.1.choose_spec.2.1, hh.2.1.choose_spec.2.2⟩, hh.2.2⟩)))
        go_wp2_with fail
        refine HST.out.mono ?_
        rintro e w2 ⟨⟨r, rfl⟩, hx, ht2⟩
        obtain ⟨D2, hs2, hq2, ho2⟩ := hx
        have HX := hid (And.intro hs2 (And.intro hq2 (And.intro ho2 (HT.out.trans ((Turned.of_below HBA.out).trans ht2))))); clear hs2 hq2 ho2 ht2
        go_wp2
        go_roundw
        case rel => exact ⟨k + 1, by omega, by go_num, ⟨D2, by rw [List.take_succ_eq_append_getElem hlt]; exact .snoc HDO.out HX.out.1, HX.out.2.1, HX.out.2.2.1⟩, HX.out.2.2.2⟩
        case measure => simp [intOf]; omega
    · go_wp2
      go_end0
      refine ⟨⟨_, rfl⟩, ⟨D', ?_, HQ.out, HW.out⟩, HT.out⟩
      have := HDO.out
      rwa [List.take_of_length_le (by omega)] at this

end Go.Proofs.YtnkpogjiiohapaaGreatDoor

/-! PCloneA: maps.Clone at the document's two maps; Clone. -/
namespace Go.Proofs.YtnkpogjiiohapaaGreatDoor
open Go.RowKit

set_option maxRecDepth 1000000 in
set_option maxHeartbeats 2000000 in
theorem clone_o (b : Nat) (es : Array MapEntry) (clk : Nat) (w : World) (hb : w.heap[b]? = some (.map es clk)) :
    Calls Tryz.prog 235 #[.map (some b)] w fun e w' => e = .returned (.map (some w.heap.size)) ∧ w' = w.alloc (.map es clk) := by
  have hq := fun w => run_eql_map_nil_sl (P := Tryz.prog) w 171 _ _ (some b) Tryz.underlying171
  go_enter Tryz.func235, Tryz.ntmps235
  go_wp2
  rw [run_callFunc_extern Tryz.func245 (by kernel_rfl) (by kernel_rfl) (by kernel_rfl) (e := Extern.MapsClone.clone) (by kernel_rfl), run_maps_clone_sl w 171 hb]
  simp only [Result.andThen]
  rw [Oper.upon_value]
  go_wp2
  rw [run_typeAssert_map_sl _ 171 _ _ _ _ Tryz.underlying171]
  simp only [Result.andThen]
  rw [Oper.upon_value]
  go_wp2
  go_ret
  exact ⟨rfl, rfl⟩

set_option maxRecDepth 1000000 in
set_option maxHeartbeats 2000000 in
theorem clone_e (b : Nat) (es : Array MapEntry) (clk : Nat) (w : World) (hb : w.heap[b]? = some (.map es clk)) :
    Calls Tryz.prog 236 #[.map (some b)] w fun e w' => e = .returned (.map (some w.heap.size)) ∧ w' = w.alloc (.map es clk) := by
  have hq := fun w => run_eql_map_nil_sl (P := Tryz.prog) w 172 _ _ (some b) Tryz.underlying172
  go_enter Tryz.func236, Tryz.ntmps236
  go_wp2
  rw [run_callFunc_extern Tryz.func245 (by kernel_rfl) (by kernel_rfl) (by kernel_rfl) (e := Extern.MapsClone.clone) (by kernel_rfl), run_maps_clone_sl w 172 hb]
  simp only [Result.andThen]
  rw [Oper.upon_value]
  go_wp2
  rw [run_typeAssert_map_sl _ 172 _ _ _ _ Tryz.underlying172]
  simp only [Result.andThen]
  rw [Oper.upon_value]
  go_wp2
  go_ret
  exact ⟨rfl, rfl⟩

theorem isMap.cloned {κ ν : Type} {encK : κ → Value} {encV : ν → Value} {w : World} {b : Nat} {m : List (κ × ν)} {es : Array MapEntry} {clk : Nat} (h : isMap encK encV w b m es clk) : isMap encK encV (w.alloc (.map es clk)) w.heap.size m es clk := ⟨heap_alloc_new w _, h.ents, h.nodup, h.old⟩

set_option maxRecDepth 1000000 in
set_option maxHeartbeats 2000000 in
/-- CLONE: another document that reads the same; what it leads to is shared. -/
theorem docClone_q {w : World} {d bo be : Nat} {os : List (PId × CQObj)} {els : List (PId × CQEl)} (h : isQ w d bo be os els) :
    Calls Tryz.prog 213 #[.pointer (some ⟨d, 0, none⟩)] w fun e w' => (∃ d' bo' be', e = .returned (.pointer (some ⟨d', 0, none⟩)) ∧ isQ w' d' bo' be' os els ∧ w.heap.size ≤ d' ∧ w.heap.size ≤ bo' ∧ w.heap.size ≤ be' ∧ bo' ≠ be') ∧ Below w.heap.size w w' := by
  have HH := hid h
  obtain ⟨es1, clk1, hmo⟩ := h.ho
  obtain ⟨es2, clk2, hme⟩ := h.he
  have c0 := h.c0
  have c1 := h.c1
  have hdl := h.lt
  have HMO := hid hmo; clear hmo
  have HME := hid hme; clear hme
  have HBD := hid (show Below w.heap.size w w.drew from (Below.refl _ w).drew)
  have HC1 := hid (clone_o bo es1 clk1 w.drew (HMO.out.keep HBD.out).blk)
  clear h
  go_enter Tryz.func213, Tryz.ntmps213
  go_wp2_with fail
  go_region_with (first
    | (go_at_call 235; refine HC1.out.mono ?_; rintro e w1 ⟨rfl, hw1⟩; have hb1 : Below w.heap.size w w1 := (by rw [hw1]; exact HBD.out.alloc HBD.out.size _); have hs1 : w.heap.size < w1.heap.size := (by rw [hw1]; simp); have HM1 := hid (show isMap idV qobjV w1 w.heap.size os es1 clk1 from hw1 ▸ (HMO.out.keep HBD.out).cloned); clear hw1; replace c0 := keep hb1 c0; replace c1 := keep hb1 c1; have HB1 := hid hb1; clear hb1; have HC2 := hid (clone_e be es2 clk2 w1 (HME.out.keep HB1.out).blk))
    | (go_at_call 236; refine HC2.out.mono ?_; rintro e w2 ⟨rfl, hw2⟩; have HB2 := hid (show Below w1.heap.size w1 w2 by rw [hw2]; exact (Below.refl _ w1).alloc (Nat.le_refl _) _); have hs2 : w1.heap.size < w2.heap.size := (by rw [hw2]; simp); have HM2 := hid (show isMap idV qelV w2 w1.heap.size els es2 clk2 from hw2 ▸ (HME.out.keep HB1.out).cloned); clear hw2))
  all_goals (try go_wp2)
  all_goals go_ret
  all_goals
    have hb3 := (Below.refl w2.heap.size w2).alloc (Nat.le_refl _) (.cells #[.map (some w.heap.size), .map (some w1.heap.size)] 174)
    have hb : Below w.heap.size w (w2.alloc (.cells #[.map (some w.heap.size), .map (some w1.heap.size)] 174)) := (HB1.out.trans (HB2.out.mono HB1.out.size)).trans (hb3.mono (by omega))
    exact ⟨⟨w2.heap.size, w.heap.size, w1.heap.size, rfl, ⟨blk_new w2 _, ⟨es1, clk1, (HM1.out.keep HB2.out).keep hb3⟩, ⟨es2, clk2, HM2.out.keep hb3⟩, (HH.out.keep hb).hk, (HH.out.keep hb).hv⟩, by omega, by omega, by omega, by omega⟩, hb⟩

end Go.Proofs.YtnkpogjiiohapaaGreatDoor

/-! PHistA: history.New and Document. -/
namespace Go.Proofs.YtnkpogjiiohapaaGreatDoor
open Go.RowKit

set_option maxRecDepth 1000000 in
theorem histDoc_q {w : World} {hb d : Nat} {sp su : Int} {vo vr : Value} (h : w.heap[hb]? = some (.cells #[.int .i64 sp, .int .i64 su, vo, vr, .pointer (some ⟨d, 0, none⟩)] 204 (0, 0))) :
    Calls Tryz.prog 85 #[.pointer (some ⟨hb, 0, none⟩)] w fun e w' => e = .returned (.pointer (some ⟨d, 0, none⟩)) ∧ Below w.heap.size w w' := by
  have c4 : w.cell? ⟨hb, 4, none⟩ = some (.pointer (some ⟨d, 0, none⟩)) := by simp [World.cell?, h]
  have HB := hid (Below.refl w.heap.size w)
  go_enter Tryz.func85, Tryz.ntmps85
  go_wp2
  try go_region
  all_goals (try go_wp2)
  all_goals go_ret
  all_goals first | exact ⟨rfl, HB.out⟩ | exact ⟨rfl, HB.out.drew⟩

end Go.Proofs.YtnkpogjiiohapaaGreatDoor

/-! PHistB: The order of Ids: cmp.Compare, cmp.Or. -/
namespace Go.Proofs.YtnkpogjiiohapaaGreatDoor
open Go.RowKit

def cmpZ (a b : Int) : Int := if a < b then -1 else if b < a then 1 else 0
def orZ (a b : Int) : Int := if a ≠ 0 then a else b
def cmpI (a b : PId) : Int := orZ (cmpZ a.1 b.1) (cmpZ a.2 b.2)

set_option maxRecDepth 1000000 in
set_option maxHeartbeats 2000000 in
theorem cmpCompare_q (a b : Int) (w : World) : Calls Tryz.prog 166 #[.int .i64 a, .int .i64 b] w fun e w' => e = .returned (.int .i64 (cmpZ a b)) ∧ w' = w := by
  unfold cmpZ
  by_cases h1 : a < b
  · go_enter Tryz.func166, Tryz.ntmps166
    go_wp2
    go_ret
    simp [h1]
  · by_cases h2 : b < a
    · go_enter Tryz.func166, Tryz.ntmps166
      go_wp2
      go_ret
      simp [h1, h2]
    · go_enter Tryz.func166, Tryz.ntmps166
      go_wp2
      go_ret
      simp [h1, h2]

set_option maxRecDepth 1000000 in
set_option maxHeartbeats 2000000 in
theorem cmpOr_q {w : World} {g : Nat} {a b : Int} (h0 : w.cell? ⟨g, 0, none⟩ = some (.int .i64 a)) (h1 : w.cell? ⟨g, 1, none⟩ = some (.int .i64 b)) :
    Calls Tryz.prog 165 #[.slice (some ⟨g, 0, none⟩) 2 2] w fun e w' => e = .returned (.int .i64 (orZ a b)) ∧ w' = w := by
  unfold orZ
  go_enter Tryz.func165, Tryz.ntmps165
  go_wp2
  go_loopw [8] (fun i wr => wr = w ∧ (i = .int .i64 0 ∨ (i = .int .i64 1 ∧ a = 0) ∨ (i = .int .i64 2 ∧ a = 0 ∧ b = 0))) (fun i _ => 2 - (intOf i).toNat)
  case atStart => exact ⟨rfl, .inl rfl⟩
  case round =>
    obtain ⟨rfl, rfl | ⟨rfl, ha⟩ | ⟨rfl, ha, hb⟩⟩ := hrel
    · by_cases hz : a = 0
      · subst hz
        go_wp2
        go_roundw
        case rel => simp
        case measure => simp [intOf]
      · go_wp2
        go_ret
        simp [hz]
    · subst ha
      by_cases hz : b = 0
      · subst hz
        go_wp2
        go_roundw
        case rel => simp
        case measure => simp [intOf]
      · go_wp2
        go_ret
        simp
    · subst ha
      subst hb
      go_wp2
      go_ret
      simp

end Go.Proofs.YtnkpogjiiohapaaGreatDoor

/-! PHistC: The order of Ids: Compare, byId; the search for the place of an operation that lies behind all others. -/
namespace Go.Proofs.YtnkpogjiiohapaaGreatDoor
open Go.RowKit
attribute [local go_sem ↓] Go.wp_at_zero Go.wp_at_succ

theorem cells2_new (w : World) (o1 o2 : Obj) (x y : Value) (t : TypeId) : (((w.alloc o1).alloc o2).alloc (.cells #[x, y] t)).drew.cell? ⟨w.heap.size + 2, 0, none⟩ = some x ∧ (((w.alloc o1).alloc o2).alloc (.cells #[x, y] t)).drew.cell? ⟨w.heap.size + 2, 1, none⟩ = some y := by
  have h := blk_new ((w.alloc o1).alloc o2) (.cells #[x, y] t)
  have hs : ((w.alloc o1).alloc o2).heap.size = w.heap.size + 2 := by simp
  rw [hs] at h
  exact blk2 (w := (((w.alloc o1).alloc o2).alloc (.cells #[x, y] t)).drew) h

set_option maxRecDepth 1000000 in
set_option maxHeartbeats 2000000 in
theorem compare_q (a1 a2 b1 b2 : Int) (w : World) :
    Calls Tryz.prog 139 #[.agg #[.int .i64 a1, .int .i64 a2], .agg #[.int .i64 b1, .int .i64 b2]] w fun e w' => e = .returned (.int .i64 (cmpI (a1, a2) (b1, b2))) ∧ Below w.heap.size w w' := by
  go_enter Tryz.func139, Tryz.ntmps139
  go_wp2_with fail
  go_region_held3 (fun W => W.cell? ⟨w.heap.size, 0, none⟩ = some (.int .i64 a1) ∧ W.cell? ⟨w.heap.size, 1, none⟩ = some (.int .i64 a2) ∧ W.cell? ⟨w.heap.size + 1, 0, none⟩ = some (.int .i64 b1) ∧ W.cell? ⟨w.heap.size + 1, 1, none⟩ = some (.int .i64 b2)) (go_keep)
    (first
      | (go_at_call 166; refine (cmpCompare_q _ _ _).mono ?_; rintro e w' ⟨rfl, rfl⟩)
      | (go_at_call 165; refine (cmpOr_q (g := w.heap.size + 2) (a := cmpZ a1 b1) (b := cmpZ a2 b2) ?_ ?_).mono ?_; (exact (cells2_new _ _ _ _ _ _).1); (exact (cells2_new _ _ _ _ _ _).2); rintro e w' ⟨rfl, rfl⟩))
  all_goals go_wp2
  all_goals go_ret
  all_goals exact ⟨rfl, by go_grown⟩

end Go.Proofs.YtnkpogjiiohapaaGreatDoor

/-! PHistD: A copy's operations in memory: the search for a place behind all others; insert there. -/
namespace Go.Proofs.YtnkpogjiiohapaaGreatDoor
open Go.RowKit
attribute [local go_sem ↓] Go.wp_at_zero Go.wp_at_succ

/-- An operation with its change as it lies in memory. -/
structure MOp where
  op : QOp
  t : TypeId
  v : Value
def MOp.c (o : MOp) : Value := .iface o.t o.v
def mopC (o : MOp) : List Value := [.int .i64 o.op.id.1, .int .i64 o.op.id.2, .int .i64 o.op.nth, .iface o.t o.v]
def ownMOps (B : Nat) (w : World) (v : Value) (l : List MOp) : Prop := w.ownsRow B 210 4 v l.length (l.flatMap mopC)

theorem flat4 {α : Type} {f : α → List Value} (hf : ∀ x, (f x).length = 4) : ∀ (l : List α) (k : Nat) (hk : k < l.length) (j : Nat), j < 4 → (l.flatMap f)[k * 4 + j]? = (f l[k])[j]?
  | x :: l, 0, _, j, hj => by
    rw [List.flatMap_cons, List.getElem?_append_left (by rw [hf]; omega)]; simp
  | x :: l, k + 1, hk, j, hj => by
    rw [List.flatMap_cons, List.getElem?_append_right (by rw [hf]; omega), hf, show (k + 1) * 4 + j - 4 = k * 4 + j by omega]
    exact flat4 hf l k (by simpa using hk) j hj
theorem ownMOps.cells {B : Nat} {w : World} {g cap : Nat} {l : List MOp} (h : ownMOps B w (.slice (some ⟨g, 0, none⟩) l.length cap) l) (k : Nat) (hk : k < l.length) :
    w.cell? ⟨g, k * 4, none⟩ = some (.int .i64 l[k].op.id.1) ∧ w.cell? ⟨g, k * 4 + 1, none⟩ = some (.int .i64 l[k].op.id.2) ∧ w.cell? ⟨g, k * 4 + 2, none⟩ = some (.int .i64 l[k].op.nth) ∧ w.cell? ⟨g, k * 4 + 3, none⟩ = some (.iface l[k].t l[k].v) := by
  have hc := fun j (hj : j < 4) => World.ownsRow.cellAt h (k * 4 + j) (by omega)
  have hf := fun j (hj : j < 4) => flat4 (f := mopC) (fun _ => rfl) l k hk j hj
  refine ⟨?_, ?_, ?_, ?_⟩
  · have := (hc 0 (by omega)).trans (hf 0 (by omega)); simpa [mopC] using this
  · have := (hc 1 (by omega)).trans (hf 1 (by omega)); simpa [mopC] using this
  · have := (hc 2 (by omega)).trans (hf 2 (by omega)); simpa [mopC] using this
  · have := (hc 3 (by omega)).trans (hf 3 (by omega)); simpa [mopC] using this

theorem boxed4 (w : World) (a b c d : Value) (t : TypeId) : (w.alloc (.cells #[a, b, c, d] t)).cell? ⟨w.heap.size, 0, none⟩ = some a ∧ (w.alloc (.cells #[a, b, c, d] t)).cell? ⟨w.heap.size, 1, none⟩ = some b ∧ (w.alloc (.cells #[a, b, c, d] t)).cell? ⟨w.heap.size, 2, none⟩ = some c ∧ (w.alloc (.cells #[a, b, c, d] t)).cell? ⟨w.heap.size, 3, none⟩ = some d := blk4 (blk_new w _)
theorem below_drew_left {w w' : World} (h : Below w.drew.heap.size w.drew w') : Hid (Below w.heap.size w w') := ⟨h.os, h.tape, h.output, h.size, h.block⟩

set_option maxRecDepth 1000000 in
set_option maxHeartbeats 2000000 in
theorem byId_q (a1 a2 an b1 b2 bn : Int) (ta tb : TypeId) (va vb : Value) (w : World) :
    Calls Tryz.prog 211 #[.agg #[.int .i64 a1, .int .i64 a2, .int .i64 an, .iface ta va], .agg #[.int .i64 b1, .int .i64 b2, .int .i64 bn, .iface tb vb]] w fun e w' => e = .returned (.int .i64 (cmpI (a1, a2) (b1, b2))) ∧ Below w.heap.size w w' := by
  have HB := hid (((Below.refl w.heap.size w).alloc (Nat.le_refl _) (.cells #[.int .i64 a1, .int .i64 a2, .int .i64 an, .iface ta va] 210)).alloc (by simp) (.cells #[.int .i64 b1, .int .i64 b2, .int .i64 bn, .iface tb vb] 210))
  go_enter Tryz.func211, Tryz.ntmps211
  go_wp2_with fail
  refine (compare_q a1 a2 b1 b2 _).mono ?_
  rintro e w1 ⟨rfl, hb1⟩
  have hb := HB.out.trans (hb1.mono HB.out.size)
  clear hb1
  go_wp2
  go_ret
  exact ⟨rfl, hb⟩

/-- ONE ELEMENT MORE, and where the row lies. -/
theorem app_one_at {α : Type} (f : α → List Value) (size bytes : Nat) (t e : TypeId) (z : Value) (hinfo : (Tryz.prog.info? e).map (fun i => (i.zero, i.size, i.bytes)) = some (some z, size, bytes))
    (ht : Tryz.prog.underlying t = some (.slice e)) (hzs : z.cells.size = size) (hk : 0 < size) (hf : ∀ x, (f x).length = size)
    {ops : Array Oper} {rest : List Oper} {o : Oper} {a : Act} {Q : Exit → Act → World → Prop} {w : World} (hgd : o.guard = none) (s x : Operand)
    (ho : o.op = .call { callee := .builtin .append, args := #[s, x], argTypes := #[t, t] }) (B : Nat) (v : Value) (l : List α) (hs : a.eval s = v)
    (hown : w.ownsRow B e size v l.length (l.flatMap f)) (g c : Nat) (y : α) (hx : a.eval x = .slice (some ⟨g, 0, none⟩) 1 c)
    (hnew : ∀ j u, (f y)[j]? = some u → w.cell? ⟨g, j, none⟩ = some u) (h1 : ∀ u ∈ f y, u.oneCell' = true) (hlen : (l.length + 1) * bytes ≤ 140737488355328) (hlen' : l.length < maxLen) (hB : B ≤ w.heap.size)
    (h : ∀ v' w', w'.ownsRow B e size v' (l.length + 1) ((l ++ [y]).flatMap f) → w.grownBy w' v.ownBlock → newOr w v v' → wpList Tryz.prog ops Q rest (a.put o.dst v') w') : wpList Tryz.prog ops Q (o :: rest) a w := by
  obtain ⟨i, hi, hz, hsz, hby⟩ := info_parts hinfo
  refine wpList_append_own_at (P := Tryz.prog) w hgd s x t ho B e i z size bytes ht hi hz hsz hby hzs hk v l.length (l.flatMap f) hs hown ⟨g, 0, none⟩ 1 c (f y) hx (by rw [hf]; simp) ?_ h1 (by omega) hlen hB ?_
  · intro j u hu
    have : (⟨g, 0, none⟩ : Addr).add j = ⟨g, j, none⟩ := by unfold Addr.add; split <;> simp_all
    rw [this]; exact hnew j u hu
  · intro v' w' h2 h3 _ h5
    exact h v' w' (by simpa using h2) h3 (h5.imp id fun h6 k hk => by rw [h6] at hk; cases hk; exact Nat.le_refl _)

theorem cells_mop {w : World} {g : Nat} {x : MOp} (h0 : w.cell? ⟨g, 0, none⟩ = some (.int .i64 x.op.id.1)) (h1 : w.cell? ⟨g, 1, none⟩ = some (.int .i64 x.op.id.2)) (h2 : w.cell? ⟨g, 2, none⟩ = some (.int .i64 x.op.nth)) (h3 : w.cell? ⟨g, 3, none⟩ = some (.iface x.t x.v)) :
    ∀ j u, (mopC x)[j]? = some u → w.cell? ⟨g, j, none⟩ = some u := by
  intro j u hu
  match j with
  | 0 => simp [mopC] at hu; rw [← hu]; exact h0
  | 1 => simp [mopC] at hu; rw [← hu]; exact h1
  | 2 => simp [mopC] at hu; rw [← hu]; exact h2
  | 3 => simp [mopC] at hu; rw [← hu]; exact h3
  | j + 4 => simp [mopC] at hu
theorem wf_mop (x : MOp) : ∀ u ∈ mopC x, u.oneCell' = true := by
  intro u hu; simp [mopC] at hu; rcases hu with rfl | rfl | rfl | rfl <;> rfl

set_option maxRecDepth 1000000 in
set_option maxHeartbeats 2000000 in
theorem insert_end_q {w : World} {v : Value} {l : List MOp} (h : ownMOps 0 w v l) (x : MOp) (g : Nat) (h0 : w.cell? ⟨g, 0, none⟩ = some (.int .i64 x.op.id.1)) (h1 : w.cell? ⟨g, 1, none⟩ = some (.int .i64 x.op.id.2)) (h2 : w.cell? ⟨g, 2, none⟩ = some (.int .i64 x.op.nth)) (h3 : w.cell? ⟨g, 3, none⟩ = some (.iface x.t x.v)) (hl : l.length ≤ 100000) :
    Calls Tryz.prog 212 #[v, .int .i64 l.length, .slice (some ⟨g, 0, none⟩) 1 1] w fun e w' => ∃ v', e = .returned v' ∧ ownMOps 0 w' v' (l ++ [x]) ∧ w.grownBy w' v.ownBlock ∧ newOr w v v' := by
  have HC := hid (cells_mop (x := x) h0 h1 h2 h3)
  obtain ⟨a, c, rfl, hlc, hcm, hf⟩ := owns_form h
  unfold maxLen at hcm
  have HH := hid h; clear h
  have HF := hid hf; clear hf
  clear HF
  rcases Nat.eq_or_lt_of_le hlc with he | hlt
  · subst he
    go_enter Tryz.func212, Tryz.ntmps212
    go_wp2_with (first
      | (at_builtin; refine app_one_at mopC 4 40 202 210 (.agg #[.int .i64 0, .int .i64 0, .int .i64 0, .nilIface]) (by kernel_rfl) Tryz.underlying202 rfl (by omega) (fun _ => rfl) rfl (.tmp 23) (.tmp 24) rfl 0 (.slice a l.length l.length) l rfl HH.out g 1 x rfl HC.out (wf_mop x) (by omega) (by unfold maxLen; omega) (Nat.zero_le _) ?_; intro v' w1 ho hg hn; have HO := hid ho; have HG := hid hg; have HN := hid hn; clear ho hg hn)
      | fail)
    all_goals (try go_ret)
    all_goals exact ⟨_, rfl, by simpa [ownMOps] using HO.out, HG.out, HN.out⟩
  · go_enter Tryz.func212, Tryz.ntmps212
    go_wp2_with (first
      | (at_builtin; refine app_one_at mopC 4 40 202 210 (.agg #[.int .i64 0, .int .i64 0, .int .i64 0, .nilIface]) (by kernel_rfl) Tryz.underlying202 rfl (by omega) (fun _ => rfl) rfl (.tmp 23) (.tmp 24) rfl 0 (.slice a l.length c) l rfl HH.out g 1 x rfl HC.out (wf_mop x) (by omega) (by unfold maxLen; omega) (Nat.zero_le _) ?_; intro v' w1 ho hg hn; have HO := hid ho; have HG := hid hg; have HN := hid hn; clear ho hg hn)
      | fail)
    all_goals (try go_ret)
    all_goals exact ⟨_, rfl, by simpa [ownMOps] using HO.out, HG.out, HN.out⟩

end Go.Proofs.YtnkpogjiiohapaaGreatDoor
