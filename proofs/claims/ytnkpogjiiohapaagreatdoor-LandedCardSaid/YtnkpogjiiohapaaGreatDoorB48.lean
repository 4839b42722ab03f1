/- Our own text (LaClosed, LaClosedB). -/
import Derived.Test.YtnkpogjiiohapaaGreatDoorRows
import Derived.JoinedCond
set_option linter.unusedSimpArgs false
set_option linter.unusedVariables false

/-! LaClosed: The law Landed: the closed facts of its row, one a theorem (each by the kernel). -/
namespace Go.Proofs.YtnkpogjiiohapaaGreatDoor

theorem and_yes {a b : Bool} (ha : a = true) (hb : b = true) : (a && b) = true := by rw [ha, hb]; rfl
theorem jf1 : (Rows.landedRow.wf (OpenSpec.ofChange (OpenSpec.ofChange Rows.landedSpec).bare)) = true := by kernel_rfl
theorem jf2 : (laidOutB Tryz.prog) = true := by kernel_rfl
theorem jf3 : (mapsRowed Tryz.prog) = true := by kernel_rfl
theorem jf4 : (Tryz.f11.params.all (Tryz.prog.readableRec ·)) = true := by kernel_rfl
theorem jf5 : (namedTie Tryz.prog Rows.landedRow.named (OpenSpec.ofChange Rows.landedSpec).bare.vars) = true := by kernel_rfl
theorem jf6 : ((Rows.landedRow.stops == [])) = true := by kernel_rfl
theorem jf7 : ((Tryz.prog.stops == [])) = true := by kernel_rfl
theorem jf8 : ((Rows.landedRow.knobs == [])) = true := by kernel_rfl
theorem jf9 : ((Tryz.prog.stopKnobs == [])) = true := by kernel_rfl
theorem jf10 : ((Rows.landedRow.inPlace == Tryz.prog.inPlace 11)) = true := by kernel_rfl
theorem jf11 : ((Rows.landedRow.unfollowed == Tryz.prog.unfollowed 11)) = true := by kernel_rfl
theorem jf12 : ((Rows.landedRow.recurses == Tryz.prog.recurses 11)) = true := by kernel_rfl
theorem jf13 : ((Rows.landedRow.named == Tryz.prog.varsNamed 11)) = true := by kernel_rfl
theorem jf14 : ((Rows.landedRow.maps == (Tryz.f11.params.toList ++ (OpenSpec.ofChange Rows.landedSpec).bare.plain.varTypes Tryz.prog).any (Tryz.prog.mapsRec ·))) = true := by kernel_rfl
theorem jf15 : ((Rows.landedRow.ifaces == (Tryz.f11.params.toList ++ (OpenSpec.ofChange Rows.landedSpec).bare.plain.varTypes Tryz.prog).any (Tryz.prog.ifacesRec ·))) = true := by kernel_rfl
theorem jf16 : ((Rows.landedRow.mapsOut == Tryz.prog.mapsAmong Tryz.f11.resultTypes.toList)) = true := by kernel_rfl
theorem jf17 : ((Rows.landedRow.loops == (Tryz.f11.params.toList ++ (OpenSpec.ofChange Rows.landedSpec).bare.plain.varTypes Tryz.prog).any (Tryz.prog.loopsFrom ·))) = true := by kernel_rfl
theorem jf18 : ((Rows.landedRow.wideKeys == (Tryz.f11.params.toList ++ (OpenSpec.ofChange Rows.landedSpec).bare.plain.varTypes Tryz.prog ++ Tryz.f11.resultTypes.toList).any (Tryz.prog.wideKeysFrom ·))) = true := by kernel_rfl
theorem jf19 : ((OpenSpec.ofChange Rows.landedSpec).bare.vars.all (Tryz.prog.varReadable ·)) = true := by kernel_rfl
theorem jf20 : (Tryz.f11.resultTypes.all (fun t => Tryz.prog.readableRec t && decide (t < Tryz.prog.types.size))) = true := by kernel_rfl
theorem jf21 : ((Rows.landedRow.ifacesOut == Tryz.f11.resultTypes.toList.any (Tryz.prog.ifacesRec ·))) = true := by kernel_rfl
theorem jf22 : ((Rows.landedRow.loopsOut == Tryz.f11.resultTypes.toList.any (Tryz.prog.loopsFrom ·))) = true := by kernel_rfl
theorem jf23 : ((Rows.landedRow.plainKeys == Tryz.prog.plainKeys)) = true := by kernel_rfl
theorem jf24 : (Rows.landedRow.shortTexts.isNone) = true := by kernel_rfl
theorem jf25 : (Tryz.prog.stopsHeard) = true := by kernel_rfl
theorem jf26 : (Tryz.prog.mayEnter) = true := by kernel_rfl
theorem jf27 : ((Rows.landedRow.lifted == Tryz.prog.liftsFinal)) = true := by kernel_rfl
theorem jf28 : ((Tryz.prog.make == some Rows.landedRow.make)) = true := by kernel_rfl
theorem jf29 : ((Rows.landedRow.kinds == (if Rows.landedRow.domain.isEmpty then [] else Tryz.f11.params.toList.map fun t => match Tryz.prog.underlying t with | some (.int k) => some k | _ => none))) = true := by kernel_rfl
theorem jf30 : ((Rows.landedRow.pinned == Rows.landedRow.pinnedBy)) = true := by kernel_rfl
theorem jf31 : ((Rows.landedRow.veiled == (Tryz.f11.params.toList ++ (OpenSpec.ofChange Rows.landedSpec).bare.plain.varTypes Tryz.prog ++ Tryz.f11.resultTypes.toList).any (Tryz.prog.veiledRec ·))) = true := by kernel_rfl
theorem jf32 : (Rows.landedRow.veiledFits Tryz.prog Tryz.f11.params.toList (Tryz.f11.params.toList ++ (OpenSpec.ofChange Rows.landedSpec).bare.plain.varTypes Tryz.prog ++ Tryz.f11.resultTypes.toList)) = true := by kernel_rfl

end Go.Proofs.YtnkpogjiiohapaaGreatDoor

/-! LaClosedB: The law Landed: the closed facts of its row, joined. -/
namespace Go.Proofs.YtnkpogjiiohapaaGreatDoor

set_option maxRecDepth 1000000 in
theorem closed_landed : joinedFacts Tryz.prog 11 Tryz.f11 (OpenSpec.ofChange Rows.landedSpec).bare Rows.landedRow = true := by
  unfold joinedFacts
  exact and_yes (and_yes (and_yes (and_yes (and_yes (and_yes (and_yes (and_yes (and_yes (and_yes (and_yes (and_yes (and_yes (and_yes (and_yes (and_yes (and_yes (and_yes (and_yes (and_yes (and_yes (and_yes (and_yes (and_yes (and_yes (and_yes (and_yes (and_yes (and_yes (and_yes (and_yes jf1 jf2) jf3) jf4) jf5) jf6) jf7) jf8) jf9) jf10) jf11) jf12) jf13) jf14) jf15) jf16) jf17) jf18) jf19) jf20) jf21) jf22) jf23) jf24) jf25) jf26) jf27) jf28) jf29) jf30) jf31) jf32

end Go.Proofs.YtnkpogjiiohapaaGreatDoor
