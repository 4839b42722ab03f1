/- Our own text (OrClosed, OrClosedB). -/
import Derived.Test.YtnkpogjiiohapaaGreatDoorRows
import Derived.JoinedCond
set_option linter.unusedSimpArgs false
set_option linter.unusedVariables false

/-! OrClosed: The law Ordered: the closed facts of its row, one a theorem (each by the kernel). -/
namespace Go.Proofs.YtnkpogjiiohapaaGreatDoor

theorem and_yes {a b : Bool} (ha : a = true) (hb : b = true) : (a && b) = true := by rw [ha, hb]; rfl
theorem jf1 : (Rows.orderedRow.wf (OpenSpec.ofChange (OpenSpec.ofChange Rows.orderedSpec).bare)) = true := by kernel_rfl
theorem jf2 : (laidOutB Tryz.prog) = true := by kernel_rfl
theorem jf3 : (mapsRowed Tryz.prog) = true := by kernel_rfl
theorem jf4 : (Tryz.f10.params.all (Tryz.prog.readableRec ·)) = true := by kernel_rfl
theorem jf5 : (namedTie Tryz.prog Rows.orderedRow.named (OpenSpec.ofChange Rows.orderedSpec).bare.vars) = true := by kernel_rfl
theorem jf6 : ((Rows.orderedRow.stops == [])) = true := by kernel_rfl
theorem jf7 : ((Tryz.prog.stops == [])) = true := by kernel_rfl
theorem jf8 : ((Rows.orderedRow.knobs == [])) = true := by kernel_rfl
theorem jf9 : ((Tryz.prog.stopKnobs == [])) = true := by kernel_rfl
theorem jf10 : ((Rows.orderedRow.inPlace == Tryz.prog.inPlace 10)) = true := by kernel_rfl
theorem jf11 : ((Rows.orderedRow.unfollowed == Tryz.prog.unfollowed 10)) = true := by kernel_rfl
theorem jf12 : ((Rows.orderedRow.recurses == Tryz.prog.recurses 10)) = true := by kernel_rfl
theorem jf13 : ((Rows.orderedRow.named == Tryz.prog.varsNamed 10)) = true := by kernel_rfl
theorem jf14 : ((Rows.orderedRow.maps == (Tryz.f10.params.toList ++ (OpenSpec.ofChange Rows.orderedSpec).bare.plain.varTypes Tryz.prog).any (Tryz.prog.mapsRec ·))) = true := by kernel_rfl
theorem jf15 : ((Rows.orderedRow.ifaces == (Tryz.f10.params.toList ++ (OpenSpec.ofChange Rows.orderedSpec).bare.plain.varTypes Tryz.prog).any (Tryz.prog.ifacesRec ·))) = true := by kernel_rfl
theorem jf16 : ((Rows.orderedRow.mapsOut == Tryz.prog.mapsAmong Tryz.f10.resultTypes.toList)) = true := by kernel_rfl
theorem jf17 : ((Rows.orderedRow.loops == (Tryz.f10.params.toList ++ (OpenSpec.ofChange Rows.orderedSpec).bare.plain.varTypes Tryz.prog).any (Tryz.prog.loopsFrom ·))) = true := by kernel_rfl
theorem jf18 : ((Rows.orderedRow.wideKeys == (Tryz.f10.params.toList ++ (OpenSpec.ofChange Rows.orderedSpec).bare.plain.varTypes Tryz.prog ++ Tryz.f10.resultTypes.toList).any (Tryz.prog.wideKeysFrom ·))) = true := by kernel_rfl
theorem jf19 : ((OpenSpec.ofChange Rows.orderedSpec).bare.vars.all (Tryz.prog.varReadable ·)) = true := by kernel_rfl
theorem jf20 : (Tryz.f10.resultTypes.all (fun t => Tryz.prog.readableRec t && decide (t < Tryz.prog.types.size))) = true := by kernel_rfl
theorem jf21 : ((Rows.orderedRow.ifacesOut == Tryz.f10.resultTypes.toList.any (Tryz.prog.ifacesRec ·))) = true := by kernel_rfl
theorem jf22 : ((Rows.orderedRow.loopsOut == Tryz.f10.resultTypes.toList.any (Tryz.prog.loopsFrom ·))) = true := by kernel_rfl
theorem jf23 : ((Rows.orderedRow.plainKeys == Tryz.prog.plainKeys)) = true := by kernel_rfl
theorem jf24 : (Rows.orderedRow.shortTexts.isNone) = true := by kernel_rfl
theorem jf25 : (Tryz.prog.stopsHeard) = true := by kernel_rfl
theorem jf26 : (Tryz.prog.mayEnter) = true := by kernel_rfl
theorem jf27 : ((Rows.orderedRow.lifted == Tryz.prog.liftsFinal)) = true := by kernel_rfl
theorem jf28 : ((Tryz.prog.make == some Rows.orderedRow.make)) = true := by kernel_rfl
theorem jf29 : ((Rows.orderedRow.kinds == (if Rows.orderedRow.domain.isEmpty then [] else Tryz.f10.params.toList.map fun t => match Tryz.prog.underlying t with | some (.int k) => some k | _ => none))) = true := by kernel_rfl
theorem jf30 : ((Rows.orderedRow.pinned == Rows.orderedRow.pinnedBy)) = true := by kernel_rfl
theorem jf31 : ((Rows.orderedRow.veiled == (Tryz.f10.params.toList ++ (OpenSpec.ofChange Rows.orderedSpec).bare.plain.varTypes Tryz.prog ++ Tryz.f10.resultTypes.toList).any (Tryz.prog.veiledRec ·))) = true := by kernel_rfl
theorem jf32 : (Rows.orderedRow.veiledFits Tryz.prog Tryz.f10.params.toList (Tryz.f10.params.toList ++ (OpenSpec.ofChange Rows.orderedSpec).bare.plain.varTypes Tryz.prog ++ Tryz.f10.resultTypes.toList)) = true := by kernel_rfl

end Go.Proofs.YtnkpogjiiohapaaGreatDoor

/-! OrClosedB: The law Ordered: the closed facts of its row, joined. -/
namespace Go.Proofs.YtnkpogjiiohapaaGreatDoor

set_option maxRecDepth 1000000 in
theorem closed_ordered : joinedFacts Tryz.prog 10 Tryz.f10 (OpenSpec.ofChange Rows.orderedSpec).bare Rows.orderedRow = true := by
  unfold joinedFacts
  exact and_yes (and_yes (and_yes (and_yes (and_yes (and_yes (and_yes (and_yes (and_yes (and_yes (and_yes (and_yes (and_yes (and_yes (and_yes (and_yes (and_yes (and_yes (and_yes (and_yes (and_yes (and_yes (and_yes (and_yes (and_yes (and_yes (and_yes (and_yes (and_yes (and_yes (and_yes jf1 jf2) jf3) jf4) jf5) jf6) jf7) jf8) jf9) jf10) jf11) jf12) jf13) jf14) jf15) jf16) jf17) jf18) jf19) jf20) jf21) jf22) jf23) jf24) jf25) jf26) jf27) jf28) jf29) jf30) jf31) jf32

end Go.Proofs.YtnkpogjiiohapaaGreatDoor
