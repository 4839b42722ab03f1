/- Our own text (JoClosed, JoClosedB). -/
import Derived.Test.YtnkpogjiiohapaaGreatDoorRows
import Derived.JoinedCond
set_option linter.unusedSimpArgs false
set_option linter.unusedVariables false

/-! JoClosed: The law Joined: the closed facts of its row, one a theorem (each by the kernel). -/
namespace Go.Proofs.YtnkpogjiiohapaaGreatDoor

theorem and_yes {a b : Bool} (ha : a = true) (hb : b = true) : (a && b) = true := by rw [ha, hb]; rfl
theorem jf1 : (Rows.joinedRow.wf (OpenSpec.ofChange (OpenSpec.ofChange Rows.joinedSpec).bare)) = true := by kernel_rfl
theorem jf2 : (laidOutB Tryz.prog) = true := by kernel_rfl
theorem jf3 : (mapsRowed Tryz.prog) = true := by kernel_rfl
theorem jf4 : (Tryz.f9.params.all (Tryz.prog.readableRec ·)) = true := by kernel_rfl
theorem jf5 : (namedTie Tryz.prog Rows.joinedRow.named (OpenSpec.ofChange Rows.joinedSpec).bare.vars) = true := by kernel_rfl
theorem jf6 : ((Rows.joinedRow.stops == [])) = true := by kernel_rfl
theorem jf7 : ((Tryz.prog.stops == [])) = true := by kernel_rfl
theorem jf8 : ((Rows.joinedRow.knobs == [])) = true := by kernel_rfl
theorem jf9 : ((Tryz.prog.stopKnobs == [])) = true := by kernel_rfl
theorem jf10 : ((Rows.joinedRow.inPlace == Tryz.prog.inPlace 9)) = true := by kernel_rfl
theorem jf11 : ((Rows.joinedRow.unfollowed == Tryz.prog.unfollowed 9)) = true := by kernel_rfl
theorem jf12 : ((Rows.joinedRow.recurses == Tryz.prog.recurses 9)) = true := by kernel_rfl
theorem jf13 : ((Rows.joinedRow.named == Tryz.prog.varsNamed 9)) = true := by kernel_rfl
theorem jf14 : ((Rows.joinedRow.maps == (Tryz.f9.params.toList ++ (OpenSpec.ofChange Rows.joinedSpec).bare.plain.varTypes Tryz.prog).any (Tryz.prog.mapsRec ·))) = true := by kernel_rfl
theorem jf15 : ((Rows.joinedRow.ifaces == (Tryz.f9.params.toList ++ (OpenSpec.ofChange Rows.joinedSpec).bare.plain.varTypes Tryz.prog).any (Tryz.prog.ifacesRec ·))) = true := by kernel_rfl
theorem jf16 : ((Rows.joinedRow.mapsOut == Tryz.prog.mapsAmong Tryz.f9.resultTypes.toList)) = true := by kernel_rfl
theorem jf17 : ((Rows.joinedRow.loops == (Tryz.f9.params.toList ++ (OpenSpec.ofChange Rows.joinedSpec).bare.plain.varTypes Tryz.prog).any (Tryz.prog.loopsFrom ·))) = true := by kernel_rfl
theorem jf18 : ((Rows.joinedRow.wideKeys == (Tryz.f9.params.toList ++ (OpenSpec.ofChange Rows.joinedSpec).bare.plain.varTypes Tryz.prog ++ Tryz.f9.resultTypes.toList).any (Tryz.prog.wideKeysFrom ·))) = true := by kernel_rfl
theorem jf19 : ((OpenSpec.ofChange Rows.joinedSpec).bare.vars.all (Tryz.prog.varReadable ·)) = true := by kernel_rfl
theorem jf20 : (Tryz.f9.resultTypes.all (fun t => Tryz.prog.readableRec t && decide (t < Tryz.prog.types.size))) = true := by kernel_rfl
theorem jf21 : ((Rows.joinedRow.ifacesOut == Tryz.f9.resultTypes.toList.any (Tryz.prog.ifacesRec ·))) = true := by kernel_rfl
theorem jf22 : ((Rows.joinedRow.loopsOut == Tryz.f9.resultTypes.toList.any (Tryz.prog.loopsFrom ·))) = true := by kernel_rfl
theorem jf23 : ((Rows.joinedRow.plainKeys == Tryz.prog.plainKeys)) = true := by kernel_rfl
theorem jf24 : (Rows.joinedRow.shortTexts.isNone) = true := by kernel_rfl
theorem jf25 : (Tryz.prog.stopsHeard) = true := by kernel_rfl
theorem jf26 : (Tryz.prog.mayEnter) = true := by kernel_rfl
theorem jf27 : ((Rows.joinedRow.lifted == Tryz.prog.liftsFinal)) = true := by kernel_rfl
theorem jf28 : ((Tryz.prog.make == some Rows.joinedRow.make)) = true := by kernel_rfl
theorem jf29 : ((Rows.joinedRow.kinds == (if Rows.joinedRow.domain.isEmpty then [] else Tryz.f9.params.toList.map fun t => match Tryz.prog.underlying t with | some (.int k) => some k | _ => none))) = true := by kernel_rfl
theorem jf30 : ((Rows.joinedRow.pinned == Rows.joinedRow.pinnedBy)) = true := by kernel_rfl
theorem jf31 : ((Rows.joinedRow.veiled == (Tryz.f9.params.toList ++ (OpenSpec.ofChange Rows.joinedSpec).bare.plain.varTypes Tryz.prog ++ Tryz.f9.resultTypes.toList).any (Tryz.prog.veiledRec ·))) = true := by kernel_rfl
theorem jf32 : (Rows.joinedRow.veiledFits Tryz.prog Tryz.f9.params.toList (Tryz.f9.params.toList ++ (OpenSpec.ofChange Rows.joinedSpec).bare.plain.varTypes Tryz.prog ++ Tryz.f9.resultTypes.toList)) = true := by kernel_rfl

end Go.Proofs.YtnkpogjiiohapaaGreatDoor

/-! JoClosedB: The law Joined: the closed facts of its row, joined. -/
namespace Go.Proofs.YtnkpogjiiohapaaGreatDoor

set_option maxRecDepth 1000000 in
theorem closed_joined : joinedFacts Tryz.prog 9 Tryz.f9 (OpenSpec.ofChange Rows.joinedSpec).bare Rows.joinedRow = true := by
  unfold joinedFacts
  exact and_yes (and_yes (and_yes (and_yes (and_yes (and_yes (and_yes (and_yes (and_yes (and_yes (and_yes (and_yes (and_yes (and_yes (and_yes (and_yes (and_yes (and_yes (and_yes (and_yes (and_yes (and_yes (and_yes (and_yes (and_yes (and_yes (and_yes (and_yes (and_yes (and_yes (and_yes jf1 jf2) jf3) jf4) jf5) jf6) jf7) jf8) jf9) jf10) jf11) jf12) jf13) jf14) jf15) jf16) jf17) jf18) jf19) jf20) jf21) jf22) jf23) jf24) jf25) jf26) jf27) jf28) jf29) jf30) jf31) jf32

end Go.Proofs.YtnkpogjiiohapaaGreatDoor
