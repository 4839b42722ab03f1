/- Our own text (ApClaimA). -/
import Derived.Test.YtnkpogjiiohapaaGreatDoorA47
import Derived.Test.YtnkpogjiiohapaaGreatDoorA48
set_option linter.unusedSimpArgs false
set_option linter.unusedVariables false

/-! ApClaimA: The law Apart: it answers true, and its arguments read afterwards as they read before. The three tables that the translation lists (math/bits.deBruijn32tab, deBruijn64tab, internal/strconv.uint64pow10) lie as the program's text lays them. -/
namespace Go.Proofs.YtnkpogjiiohapaaGreatDoor
open Go.ChangeShapes Go.WideShapes Go.ChangeAt Go.RowKit

/-- What the row's list gives: the table of powers. -/
theorem pow_of {W : World} (h : laidMetH Tryz.prog Rows.apartRow.laid W) : Pow W := by
  have h1 : laidMet Tryz.prog Rows.apartRow.laid W := h
  exact Lib.tabIs_of_head (rest := []) g_pow g_powT Tryz.underlying354 Tryz.underlying315 cells_u64 cells_pow (laid_tail (laid_tail h1))

set_option maxRecDepth 100000 in
/-- For all arguments and every world that holds the tables. -/
theorem contract (H : Type) (enc : TypeId × Value → H) (W : World) (base : Nat) (args : Array Value) (ds gs : List (DataW H)) (before : List MemPlace)
    (hval : ∀ (j : Nat) t v, Tryz.f8.params[j]? = some t → args[j]? = some v → Value.okWide Tryz.prog W .any base t v)
    (hW : DataW.Whole enc Tryz.prog Tryz.f8.params.toList Rows.apartSpec.vars false W args.toList ds gs before) (hk : (DataW.weightsEach Tryz.prog (Tryz.f8.params.toList ++ (OpenSpec.ofChange Rows.apartSpec).bare.plain.varTypes Tryz.prog) (ds ++ gs)).all (· ≤ reachBytes) = true) (hL : laidMetH Tryz.prog Rows.apartRow.laid W) :
    Calls Tryz.prog 8 args W fun e W' => ∃ v, e = .returned v ∧ Rows.apartSpec.post enc Tryz.prog Tryz.f8 false true false false W args v W' := by
  have hW' := hW
  have hlt := hW.lt
  obtain ⟨p, q, hA0, hV, rfl, hfz, hnd⟩ := hW
  have hA : DataW.TrodAll enc Tryz.prog W 0 (fun _ => true) true Tryz.f8.params.toList args.toList ds p := hA0
  rw [Tryz.params8] at hA hval hk
  obtain ⟨v0, vs0, d0, ds0, p0, q0, hargs, rfl, rfl, h0, r0⟩ := trodAll_cons hA
  obtain ⟨v1, vs1, d1, ds1, p1, q1, rfl, rfl, rfl, h1, r1⟩ := trodAll_cons r0
  obtain ⟨v2, vs2, d2, ds2, p2, q2, rfl, rfl, rfl, h2, r2⟩ := trodAll_cons r1
  obtain ⟨rfl, rfl, rfl⟩ := trodAll_nil r2
  obtain rfl : args = #[v0, v1, v2] := by cases args; simp_all
  obtain ⟨rfl, rfl⟩ := trodVars_none hV
  clear hA0
  obtain ⟨z0, rfl, rfl, rfl, wf0⟩ := open_int Tryz.underlying3 (hval 0 _ v0 rfl rfl) h0
  obtain ⟨z1, rfl, rfl, rfl, wf1⟩ := open_int Tryz.underlying3 (hval 1 _ v1 rfl rfl) h1
  simp only [List.append_nil, List.nil_append] at hW' hk hlt
  obtain ⟨a2, n2, c2, rfl, hs2, hd2, hag2⟩ := open_steps h2 (fun p hp => hlt p hp) (okWide_slice Tryz.underlying26 (hval 2 _ v2 rfl rfl))
  have hlen2 : n2 ≤ 4000000000000 := by
    rcases hd2 with ⟨_, rfl⟩ | ⟨elems, spare, rfl, hl⟩
    · simp
    · have := sized_slice hk (j := 2) rfl rfl Tryz.underlying26
      rw [bytes_stp] at this
      unfold reachBytes at this
      omega
  have i0 : intOk z0 := by simp [Lit.wf] at wf0; exact wf0
  have i1 : intOk z1 := by simp [Lit.wf] at wf1; exact wf1
  refine (apartLaw_g (pow_of hL) z0 z1 hlen2 hs2 (laid_g (pow_of hL) i0 i1)).mono fun e W' hh => ?_
  obtain ⟨rfl, hb⟩ := hh
  exact ⟨_, rfl, post_below (pa := ([] ++ ([] ++ (p2 ++ [])))) (pv := []) hW' (fun _ _ _ => trodAll_cons_mk (shut_bool Tryz.underlying4 _) trodAll_mk0) (fun sp hsp =>
      trodAll_cons_mk (shut_int Tryz.underlying3 wf0) (trodAll_cons_mk (shut_int Tryz.underlying3 wf1) (trodAll_cons_mk (hag2 W' hb sp fun p hp => hsp p hp) (trodAll_mk0)))) (fun _ _ => rfl) (by simp) hb (ok_one (by kernel_rfl) rfl (okWide_bool_mk Tryz.underlying4 _))⟩

end Go.Proofs.YtnkpogjiiohapaaGreatDoor
