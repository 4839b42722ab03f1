/- Our own text (PClaimA). -/
import Derived.Test.YtnkpogjiiohapaaGreatDoorCards
import Derived.Test.YtnkpogjiiohapaaGreatDoorTie
import Derived.ProofKit
import Derived.OpenShut
import Derived.Deep.DeepHandedRow
import Derived.Lib.LaidTab
import Derived.Test.YtnkpogjiiohapaaGreatDoorP18
set_option linter.unusedSimpArgs false
set_option linter.unusedVariables false

/-! PClaimA: The law Writes: it answers true, and the script reads afterwards as it read before. The three tables that the translation lists (math/bits.deBruijn32tab, deBruijn64tab, internal/strconv.uint64pow10) lie as the program's text lays them. -/
namespace Go.Proofs.YtnkpogjiiohapaaGreatDoor
open Go.ChangeShapes Go.WideShapes Go.ChangeAt Go.RowKit

theorem post_below {H : Type} {enc : TypeId × Value → H} {P : Program} {f : Func} {s : ChangeSpec} {apart fresh handsOn again : Bool} {W W' : World} {args : Array Value} {v : Value} {ds gs : List (DataW H)} {before pa pv : List MemPlace}
    (hW : DataW.Whole enc P f.params.toList s.vars apart W args.toList ds gs before)
    (hres : ∀ (b : Nat) (sp : Nat → Bool) (hd : Bool), DataW.TrodAll enc P W' b sp hd f.resultTypes.toList (v.resultList f.resultTypes.size) (s.fn H (ds ++ gs)).results [])
    (hargs : ∀ sp : Nat → Bool, (∀ p ∈ before, sp p.block = true) → DataW.TrodAll enc P W' 0 sp true f.params.toList args.toList (s.fn H (ds ++ gs)).args pa)
    (hvars : ∀ sp : Nat → Bool, (∀ p ∈ before, sp p.block = true) → DataW.TrodVars enc P W' sp s.vars (s.fn H (ds ++ gs)).vars pv)
    (hps : before = pa ++ pv) (hb : Below W.heap.size W W')
    (hok : ∀ (j : Nat) (t : TypeId) (r : Value), f.resultTypes[j]? = some t → (v.resultList f.resultTypes.size)[j]? = some r → Value.okWide P W' .any 0 t r) :
    s.post enc P f apart fresh handsOn again W args v W' := by
  have hold : ∀ p ∈ before, (fun b => decide (b < W.heap.size)) p.block = true := fun p hp => by simpa using hW.lt p hp
  have hlt := hW.lt
  refine ⟨ds, gs, before, [], pa, pv, hW, hres _ _ _, hargs _ hold, hvars _ hold, World.keptBut_mono (fun p hp => ⟨hp, ?_⟩) (hb.frame _), fun _ => ?_⟩
  · rw [hps, List.mem_append] at hp
    exact Or.inr hp
  · obtain ⟨_, _, _, _, _, hz, hn⟩ := hW
    refine ⟨hok, _, _, ([] ++ pa) ++ pv, ⟨[] ++ pa, pv, trodAll_append (hargs _ (fun _ _ => rfl)) (hres _ _ _), hvars _ (fun _ _ => rfl), rfl, ?_, ?_⟩, ?_⟩
    · intro b off hp
      have hm : MemPlace.cell b off ∈ before := by rw [hps]; simpa using hp
      rw [hb.frozen (hlt _ hm)]
      exact hz b off hm
    · intro ha
      have := hn ha
      rw [hps] at this
      simpa using this
    · intro p hp _
      rw [hps]
      simpa using hp

/-- The kinds that Writes plays: one to eleven. -/
theorem kinds_at {w : World} (q : Nat) (hq : q < 11) : (w.alloc (.cells #[.int .i64 1, .int .i64 2, .int .i64 3, .int .i64 4, .int .i64 5, .int .i64 6, .int .i64 7, .int .i64 8, .int .i64 9, .int .i64 10, .int .i64 11] 3)).cell? ⟨w.heap.size, q, none⟩ = some (.int .i64 ((q : Int) + 1)) := by
  rw [cell_of_row _ _ _ _ _ _ (blk_new w _)]
  match q, hq with
  | 0, _ => rfl
  | 1, _ => rfl
  | 2, _ => rfl
  | 3, _ => rfl
  | 4, _ => rfl
  | 5, _ => rfl
  | 6, _ => rfl
  | 7, _ => rfl
  | 8, _ => rfl
  | 9, _ => rfl
  | 10, _ => rfl

set_option maxRecDepth 1000000 in
set_option maxHeartbeats 4000000 in
/-- The law's walk. -/
theorem writes_law {w : World} {sa : Option Addr} {os : List LOp} {cap : Nat} (hs : isScript w sa os) (hok : ∀ i (hi : i < os.length), LOk os[i]) (hn : os.length ≤ 1500000000000) (hpow : Pow w) :
    Calls Tryz.prog 3 #[.slice sa os.length cap] w fun e w' => e = .returned (.bool true) ∧ Below w.heap.size w w' := by
  have HB := hid ((Below.refl w.heap.size w).alloc (Nat.le_refl _) (.cells #[.int .i64 1, .int .i64 2, .int .i64 3, .int .i64 4, .int .i64 5, .int .i64 6, .int .i64 7, .int .i64 8, .int .i64 9, .int .i64 10, .int .i64 11] 3))
  have HP := hid (plays_q (cap := cap) (hs.keep HB.out (Nat.le_refl _)) hok hn kinds_at (hpow.keep HB.out))
  clear hs hok hpow
  go_enter Tryz.func3, Tryz.ntmps3
  go_wp2_with fail
  refine HP.out.mono ?_
  rintro e w1 ⟨rfl, hb1⟩
  have HB1 := hid hb1; clear hb1
  go_wp2
  go_ret
  exact ⟨rfl, HB.out.trans (HB1.out.mono HB.out.size)⟩

theorem w_own : ownKnob Tryz.prog.godebug = none := by kernel_rfl
theorem g_pow : Tryz.prog.globalNamed "internal/strconv.uint64pow10" = some 1 := by kernel_rfl
theorem g_powT : (Tryz.prog.globals[1]?).map (·.type) = some 354 := by kernel_rfl
theorem cells_pow : Tryz.prog.cellsOf 354 = 20 := by kernel_rfl
theorem cells_u64 : Tryz.prog.cellsOf 315 = 1 := by kernel_rfl
theorem laid_tail {P : Program} {n : String} {d : DataW Unit} {r : List (String × DataW Unit)} {w : World} (h : laidMet P ((n, d) :: r) w) : laidMet P r w := by
  obtain ⟨ps, ⟨g, t, cs, fuel, p, q, _, _, _, _, h5, rfl⟩, hnd, hall⟩ := h
  exact ⟨q, h5, (List.nodup_append.1 hnd).2.1, fun b off hm => hall b off (List.mem_append_right _ hm)⟩
/-- What the row's list gives: the table of powers. -/
theorem pow_of {W : World} (h : laidMetH Tryz.prog Rows.writesRow.laid W) : Pow W := by
  have h1 : laidMet Tryz.prog Rows.writesRow.laid W := h
  exact Lib.tabIs_of_head (rest := []) g_pow g_powT Tryz.underlying354 Tryz.underlying315 cells_u64 cells_pow (laid_tail (laid_tail h1))

theorem bytes_op : Tryz.prog.bytesOf 87 = 96 := by kernel_rfl
/-- What the form's own reach gives: how many steps there are at the most. -/
theorem reach_len {H : Type} {elems spare : List (DataW H)} {ts : List TypeId} (h : (DataW.weightsEach Tryz.prog (22 :: ts) [.slice elems spare]).all (· ≤ reachBytes) = true) : elems.length ≤ 1500000000000 := by
  simp only [DataW.weightsEach, DataW.weights, Tryz.underlying22, List.cons_append, List.all_cons, Bool.and_eq_true, decide_eq_true_eq, bytes_op] at h
  have h1 := h.1
  unfold reachBytes at h1
  omega

set_option maxRecDepth 100000 in
/-- For every script and every world that holds the tables. -/
theorem contract (H : Type) (enc : TypeId × Value → H) (W : World) (base : Nat) (args : Array Value) (ds gs : List (DataW H)) (before : List MemPlace)
    (hval : ∀ (j : Nat) t v, Tryz.f3.params[j]? = some t → args[j]? = some v → Value.okWide Tryz.prog W .any base t v)
    (hW : DataW.Whole enc Tryz.prog Tryz.f3.params.toList Rows.writesSpec.vars false W args.toList ds gs before) (hk : (DataW.weightsEach Tryz.prog (Tryz.f3.params.toList ++ (OpenSpec.ofChange Rows.writesSpec).bare.plain.varTypes Tryz.prog) (ds ++ gs)).all (· ≤ reachBytes) = true) (hL : laidMetH Tryz.prog Rows.writesRow.laid W) :
    Calls Tryz.prog 3 args W fun e W' => ∃ v, e = .returned v ∧ Rows.writesSpec.post enc Tryz.prog Tryz.f3 false true false false W args v W' := by
  have hW' := hW
  have hlt := hW.lt
  obtain ⟨p, q, hA0, hV, rfl, hfz, hnd⟩ := hW
  have hA : DataW.TrodAll enc Tryz.prog W 0 (fun _ => true) true Tryz.f3.params.toList args.toList ds p := hA0
  rw [Tryz.params3] at hA hval hk
  obtain ⟨v0, vs0, d0, ds0, p0, q0, hargs, rfl, rfl, h0, r0⟩ := trodAll_cons hA
  obtain ⟨rfl, rfl, rfl⟩ := trodAll_nil r0
  obtain rfl : args = #[v0] := by cases args; simp_all
  obtain ⟨rfl, rfl⟩ := trodVars_none hV
  clear hA0
  simp only [List.append_nil] at hW' hk hlt
  obtain ⟨sa, os, cap, rfl, hok, hs, hd, hn, hagain⟩ := open_script h0 hlt (okWide_slice Tryz.underlying22 (hval 0 _ v0 rfl rfl))
  have hlen : os.length ≤ 1500000000000 := by
    rcases hd with ⟨_, rfl⟩ | ⟨elems, spare, rfl, hl⟩
    · simp
    · rw [← hl]; exact reach_len hk
  refine (writes_law (cap := cap) hs hok hlen (pow_of hL)).mono fun e W' hh => ?_
  obtain ⟨rfl, hb⟩ := hh
  exact ⟨_, rfl, post_below (pa := p0) (pv := []) hW' (fun _ _ _ => trodAll_cons_mk (shut_bool Tryz.underlying4 _) trodAll_mk0) (fun sp hsp => by
      have := hagain W' hb sp hsp
      exact trodAll_mk1 this) (fun _ _ => rfl) (by simp) hb (ok_one (by kernel_rfl) rfl (okWide_bool_mk Tryz.underlying4 _))⟩

end Go.Proofs.YtnkpogjiiohapaaGreatDoor
