/- Our own text (ApClosed, ApClosedB). -/
import Derived.Test.YtnkpogjiiohapaaGreatDoorRows
import Derived.JoinedCond
set_option linter.unusedSimpArgs false
set_option linter.unusedVariables false

/-! ApClosed: The law Apart: the closed facts of its row, one a theorem (each by the kernel). -/
namespace Go.Proofs.YtnkpogjiiohapaaGreatDoor

theorem and_yes {a b : Bool} (ha : a = true) (hb : b = true) : (a && b) = true := by rw [ha, hb]; rfl
theorem jf1 : (Rows.apartRow.wf (OpenSpec.ofChange (OpenSpec.ofChange Rows.apartSpec).bare)) = true := by kernel_rfl
theorem jf2 : (laidOutB Tryz.prog) = true := by kernel_rfl
theorem jf3 : (mapsRowed Tryz.prog) = true := by kernel_rfl
theorem jf4 : (Tryz.f8.params.all (Tryz.prog.readableRec ·)) = true := by kernel_rfl
theorem jf5 : (namedTie Tryz.prog Rows.apartRow.named (OpenSpec.ofChange Rows.apartSpec).bare.vars) = true := by kernel_rfl
theorem jf6 : ((Rows.apartRow.stops == [])) = true := by kernel_rfl
theorem jf7 : ((Tryz.prog.stops == [])) = true := by kernel_rfl
theorem jf8 : ((Rows.apartRow.knobs == [])) = true := by kernel_rfl
theorem jf9 : ((Tryz.prog.stopKnobs == [])) = true := by kernel_rfl
theorem jf10 : ((Rows.apartRow.inPlace == Tryz.prog.inPlace 8)) = true := by kernel_rfl
theorem jf11 : ((Rows.apartRow.unfollowed == Tryz.prog.unfollowed 8)) = true := by kernel_rfl
theorem jf12 : ((Rows.apartRow.recurses == Tryz.prog.recurses 8)) = true := by kernel_rfl
theorem jf13 : ((Rows.apartRow.named == Tryz.prog.varsNamed 8)) = true := by kernel_rfl
theorem jf14 : ((Rows.apartRow.maps == (Tryz.f8.params.toList ++ (OpenSpec.ofChange Rows.apartSpec).bare.plain.varTypes Tryz.prog).any (Tryz.prog.mapsRec ·))) = true := by kernel_rfl
theorem jf15 : ((Rows.apartRow.ifaces == (Tryz.f8.params.toList ++ (OpenSpec.ofChange Rows.apartSpec).bare.plain.varTypes Tryz.prog).any (Tryz.prog.ifacesRec ·))) = true := by kernel_rfl
theorem jf16 : ((Rows.apartRow.mapsOut == Tryz.prog.mapsAmong Tryz.f8.resultTypes.toList)) = true := by kernel_rfl
theorem jf17 : ((Rows.apartRow.loops == (Tryz.f8.params.toList ++ (OpenSpec.ofChange Rows.apartSpec).bare.plain.varTypes Tryz.prog).any (Tryz.prog.loopsFrom ·))) = true := by kernel_rfl
theorem jf18 : ((Rows.apartRow.wideKeys == (Tryz.f8.params.toList ++ (OpenSpec.ofChange Rows.apartSpec).bare.plain.varTypes Tryz.prog ++ Tryz.f8.resultTypes.toList).any (Tryz.prog.wideKeysFrom ·))) = true := by kernel_rfl
theorem jf19 : ((OpenSpec.ofChange Rows.apartSpec).bare.vars.all (Tryz.prog.varReadable ·)) = true := by kernel_rfl
theorem jf20 : (Tryz.f8.resultTypes.all (fun t => Tryz.prog.readableRec t && decide (t < Tryz.prog.types.size))) = true := by kernel_rfl
theorem jf21 : ((Rows.apartRow.ifacesOut == Tryz.f8.resultTypes.toList.any (Tryz.prog.ifacesRec ·))) = true := by kernel_rfl
theorem jf22 : ((Rows.apartRow.loopsOut == Tryz.f8.resultTypes.toList.any (Tryz.prog.loopsFrom ·))) = true := by kernel_rfl
theorem jf23 : ((Rows.apartRow.plainKeys == Tryz.prog.plainKeys)) = true := by kernel_rfl
theorem jf24 : (Rows.apartRow.shortTexts.isNone) = true := by kernel_rfl
theorem jf25 : (Tryz.prog.stopsHeard) = true := by kernel_rfl
theorem jf26 : (Tryz.prog.mayEnter) = true := by kernel_rfl
theorem jf27 : ((Rows.apartRow.lifted == Tryz.prog.liftsFinal)) = true := by kernel_rfl
theorem jf28 : ((Tryz.prog.make == some Rows.apartRow.make)) = true := by kernel_rfl
theorem jf29 : ((Rows.apartRow.kinds == (if Rows.apartRow.domain.isEmpty then [] else Tryz.f8.params.toList.map fun t => match Tryz.prog.underlying t with | some (.int k) => some k | _ => none))) = true := by kernel_rfl
theorem jf30 : ((Rows.apartRow.pinned == Rows.apartRow.pinnedBy)) = true := by kernel_rfl
theorem jf31 : ((Rows.apartRow.veiled == (Tryz.f8.params.toList ++ (OpenSpec.ofChange Rows.apartSpec).bare.plain.varTypes Tryz.prog ++ Tryz.f8.resultTypes.toList).any (Tryz.prog.veiledRec ·))) = true := by kernel_rfl
theorem jf32 : (Rows.apartRow.veiledFits Tryz.prog Tryz.f8.params.toList (Tryz.f8.params.toList ++ (OpenSpec.ofChange Rows.apartSpec).bare.plain.varTypes Tryz.prog ++ Tryz.f8.resultTypes.toList)) = true := by kernel_rfl

end Go.Proofs.YtnkpogjiiohapaaGreatDoor

/-! ApClosedB: The law Apart: the closed facts of its row, joined. -/
namespace Go.Proofs.YtnkpogjiiohapaaGreatDoor

set_option maxRecDepth 1000000 in
theorem closed_apart : joinedFacts Tryz.prog 8 Tryz.f8 (OpenSpec.ofChange Rows.apartSpec).bare Rows.apartRow = true := by
  unfold joinedFacts
  exact and_yes (and_yes (and_yes (and_yes (and_yes (and_yes (and_yes (and_yes (and_yes (and_yes (and_yes (and_yes (and_yes (and_yes (and_yes (and_yes (and_yes (and_yes (and_yes (and_yes (and_yes (and_yes (and_yes (and_yes (and_yes (and_yes (and_yes (and_yes (and_yes (and_yes (and_yes jf1 jf2) jf3) jf4) jf5) jf6) jf7) jf8) jf9) jf10) jf11) jf12) jf13) jf14) jf15) jf16) jf17) jf18) jf19) jf20) jf21) jf22) jf23) jf24) jf25) jf26) jf27) jf28) jf29) jf30) jf31) jf32

end Go.Proofs.YtnkpogjiiohapaaGreatDoor
