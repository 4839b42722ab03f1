/- The law Unseen: for all arguments that the form reads the call answers true, and the arguments read afterwards as they read before: the row and the card. Its conditions: the three tables that the translation lists lie as the program's text lays them; the card ties them to that text. -/
import Derived.Test.YtnkpogjiiohapaaGreatDoorRows
import Derived.JoinedCond
import Derived.Test.YtnkpogjiiohapaaGreatDoorCards
import Derived.Test.YtnkpogjiiohapaaGreatDoorTie
import Derived.Test.YtnkpogjiiohapaaGreatDoorB50
set_option linter.unusedSimpArgs false
set_option linter.unusedVariables false

/-! UnClosed: The law Unseen: the closed facts of its row, one a theorem (each by the kernel). -/
namespace Go.Proofs.YtnkpogjiiohapaaGreatDoor

theorem and_yes {a b : Bool} (ha : a = true) (hb : b = true) : (a && b) = true := by rw [ha, hb]; rfl
theorem jf1 : (Rows.unseenRow.wf (OpenSpec.ofChange (OpenSpec.ofChange Rows.unseenSpec).bare)) = true := by kernel_rfl
theorem jf2 : (laidOutB Tryz.prog) = true := by kernel_rfl
theorem jf3 : (mapsRowed Tryz.prog) = true := by kernel_rfl
theorem jf4 : (Tryz.f12.params.all (Tryz.prog.readableRec ·)) = true := by kernel_rfl
theorem jf5 : (namedTie Tryz.prog Rows.unseenRow.named (OpenSpec.ofChange Rows.unseenSpec).bare.vars) = true := by kernel_rfl
theorem jf6 : ((Rows.unseenRow.stops == [])) = true := by kernel_rfl
theorem jf7 : ((Tryz.prog.stops == [])) = true := by kernel_rfl
theorem jf8 : ((Rows.unseenRow.knobs == [])) = true := by kernel_rfl
theorem jf9 : ((Tryz.prog.stopKnobs == [])) = true := by kernel_rfl
theorem jf10 : ((Rows.unseenRow.inPlace == Tryz.prog.inPlace 12)) = true := by kernel_rfl
theorem jf11 : ((Rows.unseenRow.unfollowed == Tryz.prog.unfollowed 12)) = true := by kernel_rfl
theorem jf12 : ((Rows.unseenRow.recurses == Tryz.prog.recurses 12)) = true := by kernel_rfl
theorem jf13 : ((Rows.unseenRow.named == Tryz.prog.varsNamed 12)) = true := by kernel_rfl
theorem jf14 : ((Rows.unseenRow.maps == (Tryz.f12.params.toList ++ (OpenSpec.ofChange Rows.unseenSpec).bare.plain.varTypes Tryz.prog).any (Tryz.prog.mapsRec ·))) = true := by kernel_rfl
theorem jf15 : ((Rows.unseenRow.ifaces == (Tryz.f12.params.toList ++ (OpenSpec.ofChange Rows.unseenSpec).bare.plain.varTypes Tryz.prog).any (Tryz.prog.ifacesRec ·))) = true := by kernel_rfl
theorem jf16 : ((Rows.unseenRow.mapsOut == Tryz.prog.mapsAmong Tryz.f12.resultTypes.toList)) = true := by kernel_rfl
theorem jf17 : ((Rows.unseenRow.loops == (Tryz.f12.params.toList ++ (OpenSpec.ofChange Rows.unseenSpec).bare.plain.varTypes Tryz.prog).any (Tryz.prog.loopsFrom ·))) = true := by kernel_rfl
theorem jf18 : ((Rows.unseenRow.wideKeys == (Tryz.f12.params.toList ++ (OpenSpec.ofChange Rows.unseenSpec).bare.plain.varTypes Tryz.prog ++ Tryz.f12.resultTypes.toList).any (Tryz.prog.wideKeysFrom ·))) = true := by kernel_rfl
theorem jf19 : ((OpenSpec.ofChange Rows.unseenSpec).bare.vars.all (Tryz.prog.varReadable ·)) = true := by kernel_rfl
theorem jf20 : (Tryz.f12.resultTypes.all (fun t => Tryz.prog.readableRec t && decide (t < Tryz.prog.types.size))) = true := by kernel_rfl
theorem jf21 : ((Rows.unseenRow.ifacesOut == Tryz.f12.resultTypes.toList.any (Tryz.prog.ifacesRec ·))) = true := by kernel_rfl
theorem jf22 : ((Rows.unseenRow.loopsOut == Tryz.f12.resultTypes.toList.any (Tryz.prog.loopsFrom ·))) = true := by kernel_rfl
theorem jf23 : ((Rows.unseenRow.plainKeys == Tryz.prog.plainKeys)) = true := by kernel_rfl
theorem jf24 : (Rows.unseenRow.shortTexts.isNone) = true := by kernel_rfl
theorem jf25 : (Tryz.prog.stopsHeard) = true := by kernel_rfl
theorem jf26 : (Tryz.prog.mayEnter) = true := by kernel_rfl
theorem jf27 : ((Rows.unseenRow.lifted == Tryz.prog.liftsFinal)) = true := by kernel_rfl
theorem jf28 : ((Tryz.prog.make == some Rows.unseenRow.make)) = true := by kernel_rfl
theorem jf29 : ((Rows.unseenRow.kinds == (if Rows.unseenRow.domain.isEmpty then [] else Tryz.f12.params.toList.map fun t => match Tryz.prog.underlying t with | some (.int k) => some k | _ => none))) = true := by kernel_rfl
theorem jf30 : ((Rows.unseenRow.pinned == Rows.unseenRow.pinnedBy)) = true := by kernel_rfl
theorem jf31 : ((Rows.unseenRow.veiled == (Tryz.f12.params.toList ++ (OpenSpec.ofChange Rows.unseenSpec).bare.plain.varTypes Tryz.prog ++ Tryz.f12.resultTypes.toList).any (Tryz.prog.veiledRec ·))) = true := by kernel_rfl
theorem jf32 : (Rows.unseenRow.veiledFits Tryz.prog Tryz.f12.params.toList (Tryz.f12.params.toList ++ (OpenSpec.ofChange Rows.unseenSpec).bare.plain.varTypes Tryz.prog ++ Tryz.f12.resultTypes.toList)) = true := by kernel_rfl

end Go.Proofs.YtnkpogjiiohapaaGreatDoor

/-! UnClosedB: The law Unseen: the closed facts of its row, joined. -/
namespace Go.Proofs.YtnkpogjiiohapaaGreatDoor

set_option maxRecDepth 1000000 in
theorem closed_unseen : joinedFacts Tryz.prog 12 Tryz.f12 (OpenSpec.ofChange Rows.unseenSpec).bare Rows.unseenRow = true := by
  unfold joinedFacts
  exact and_yes (and_yes (and_yes (and_yes (and_yes (and_yes (and_yes (and_yes (and_yes (and_yes (and_yes (and_yes (and_yes (and_yes (and_yes (and_yes (and_yes (and_yes (and_yes (and_yes (and_yes (and_yes (and_yes (and_yes (and_yes (and_yes (and_yes (and_yes (and_yes (and_yes (and_yes jf1 jf2) jf3) jf4) jf5) jf6) jf7) jf8) jf9) jf10) jf11) jf12) jf13) jf14) jf15) jf16) jf17) jf18) jf19) jf20) jf21) jf22) jf23) jf24) jf25) jf26) jf27) jf28) jf29) jf30) jf31) jf32

end Go.Proofs.YtnkpogjiiohapaaGreatDoor

/-! UnClaimB: The law Unseen: for all arguments that the form reads the call answers true, and the arguments read afterwards as they read before: the row and the card. Its conditions: the three tables that the translation lists lie as the program's text lays them; the card ties them to that text. -/
namespace Go.Proofs.YtnkpogjiiohapaaGreatDoor
open Go.ChangeShapes Go.WideShapes Go.ChangeAt Go.RowKit

theorem laid_met (os : Os) : laidMet Tryz.prog Rows.unseenRow.laid ((layAll (World.holding Tryz.prog os ⟨#[], #[], []⟩)).forCall (fun _ _ => 0) ⟨#[], #[.int .i64 0, .int .i64 0, .int .i64 0, .slice none 0 0, .slice none 0 0, .slice none 0 0], []⟩).memory :=
  laidMet_of_run' 8 (by kernel_rfl) (by kernel_rfl)
theorem reads (os : Os) {H : Type} (enc : TypeId × Value → H) : ∃ places, DataW.whole enc Tryz.prog ((layAll (World.holding Tryz.prog os ⟨#[], #[], []⟩)).forCall (fun _ _ => 0) ⟨#[], #[.int .i64 0, .int .i64 0, .int .i64 0, .slice none 0 0, .slice none 0 0, .slice none 0 0], []⟩).memory Tryz.f12.params.toList Rows.unseenSpec.vars false #[Value.int .i64 0, .int .i64 0, .int .i64 0, .slice none 0 0, .slice none 0 0, .slice none 0 0].toList 8 = some ([.lit (.int .i64 0), .lit (.int .i64 0), .lit (.int .i64 0), .nil, .nil, .nil], [], places) :=
  ⟨[], by kernel_rfl⟩

set_option maxRecDepth 100000 in
theorem lifted (os : Os) (started : os.Started) (H : Type) (enc : TypeId × Value → H) (F : Stop.Interp) :
    ReturnsInHanded {} Tryz.checked os 12 .any ((OpenSpec.ofChange Rows.unseenSpec).preRow enc Tryz.prog Tryz.f12 Rows.unseenRow.domain false Rows.unseenRow.laid) (((OpenSpec.ofChange Rows.unseenSpec).at F).post enc Tryz.prog Tryz.f12 false true false false) := by
  obtain ⟨places, hx⟩ := reads os enc
  refine returnsInHanded_of_row (C := Tryz.checked) (s := OpenSpec.ofChange Rows.unseenSpec) w_own started (by kernel_rfl) Tryz.func12
    (witness_row_at (enc := enc) (C := Tryz.checked) false (layAll (World.holding Tryz.prog os ⟨#[], #[], []⟩)) #[.int .i64 0, .int .i64 0, .int .i64 0, .slice none 0 0, .slice none 0 0, .slice none 0 0] rfl (by kernel_rfl) (by kernel_rfl) (by kernel_rfl)
      (OpenSpec.preRow_of_cond 8 hx (by kernel_rfl) (fun k hk => by cases hk) (by kernel_rfl) (laid_met os))) ?_
  intro W base args ds gs before hval hW _ _ hk hL _ _
  exact contract H enc W base args ds gs before hval hW hk hL

theorem said_unseen : Rows.UnseenSaid :=
  OpenClaim.holds_of_cond 12 Tryz.f12 rfl rfl rfl rfl rfl rfl rfl ⟨rfl, rfl, rfl, rfl, rfl⟩ rfl rfl rfl rfl rfl (by kernel_rfl) Tryz.func12 closed_unseen
    (of_decide_eq_true (by kernel_rfl)) (by unfold Func.isWrapper; first | (rw [if_pos (by decide +kernel)]; kernel_rfl) | (rw [if_neg (by decide +kernel)]; exact ⟨rfl, rfl⟩))
    (fun os started H enc _ F => by rw [OpenClaim.pre_eq_preRow]; exact lifted os started H enc F)

/-- No parameter wants a stand-in; the program's own looks are off. -/
theorem plain_w (f : FuncId) (fn : Func) (hf : Tryz.pinned.checked.prog.funcNamed Rows.unseenRow.func = some f) (hfn : Tryz.pinned.checked.prog.funcs[f]? = some fn) :
    true = Tryz.pinned.checked.prog.looks [] ∧ ∀ (j : Nat) t, fn.params[j]? = some t → Tryz.pinned.checked.prog.wantsStandIn t = false := by
  obtain rfl : f = 12 := Option.some.inj ((show Tryz.prog.funcNamed Rows.unseenRow.func = some 12 by kernel_rfl).symm.trans hf) |>.symm
  obtain rfl : fn = Tryz.f12 := (Option.some.inj (Tryz.func12.symm.trans hfn)).symm
  refine ⟨by kernel_rfl, fun j t ht => ?_⟩
  rw [Tryz.params12] at ht
  have hm := Array.mem_of_getElem? ht
  simp only [List.mem_toArray, List.mem_cons, List.not_mem_nil, or_false] at hm
  rcases hm with rfl | rfl | rfl | rfl | rfl | rfl
  · exact (show Tryz.prog.wantsStandIn 3 = false by kernel_rfl)
  · exact (show Tryz.prog.wantsStandIn 3 = false by kernel_rfl)
  · exact (show Tryz.prog.wantsStandIn 3 = false by kernel_rfl)
  · exact (show Tryz.prog.wantsStandIn 26 = false by kernel_rfl)
  · exact (show Tryz.prog.wantsStandIn 24 = false by kernel_rfl)
  · exact (show Tryz.prog.wantsStandIn 24 = false by kernel_rfl)

/-- THE CARD. -/
theorem unseen_card : Rows.UnseenCardSaid :=
  Claim7.holds_tied_plain_at .later [] _ _ _ _ said_unseen (fun _ h => by cases h) (by kernel_rfl) (fun _ h => by cases h) unseen_row_tie rfl ⟨rfl, rfl⟩ (by kernel_rfl) rfl plain_w (by kernel_rfl)

end Go.Proofs.YtnkpogjiiohapaaGreatDoor
