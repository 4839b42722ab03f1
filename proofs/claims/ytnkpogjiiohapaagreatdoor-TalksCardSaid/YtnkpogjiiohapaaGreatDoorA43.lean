/- Our own text. -/
import Derived.Test.YtnkpogjiiohapaaGreatDoorRows
import Derived.JoinedCond
set_option linter.unusedSimpArgs false
set_option linter.unusedVariables false
set_option maxRecDepth 1000000
namespace Go.Proofs.YtnkpogjiiohapaaGreatDoor
theorem j7{a b:Bool}(c:a=true)(d:b=true):(a&&b)=true:=by rw[c,d];rfl
theorem jf1:(Rows.talksRow.wf (OpenSpec.ofChange (OpenSpec.ofChange Rows.talksSpec).bare))=true:=by kernel_rfl
theorem jf2:(laidOutB Tryz.prog)=true:=by kernel_rfl
theorem jf3:(mapsRowed Tryz.prog)=true:=by kernel_rfl
theorem jf4:(Tryz.f4.params.all (Tryz.prog.readableRec ·))=true:=by kernel_rfl
theorem jf5:(namedTie Tryz.prog Rows.talksRow.named (OpenSpec.ofChange Rows.talksSpec).bare.vars)=true:=by kernel_rfl
theorem jf6:((Rows.talksRow.stops==[]))=true:=by kernel_rfl
theorem jf7:((Tryz.prog.stops==[]))=true:=by kernel_rfl
theorem jf8:((Rows.talksRow.knobs==[]))=true:=by kernel_rfl
theorem jf9:((Tryz.prog.stopKnobs==[]))=true:=by kernel_rfl
theorem amj:((Rows.talksRow.inPlace==Tryz.prog.inPlace 4))=true:=by kernel_rfl
theorem amk:((Rows.talksRow.unfollowed==Tryz.prog.unfollowed 4))=true:=by kernel_rfl
theorem aml:((Rows.talksRow.recurses==Tryz.prog.recurses 4))=true:=by kernel_rfl
theorem amm:((Rows.talksRow.named==Tryz.prog.varsNamed 4))=true:=by kernel_rfl
theorem amn:((Rows.talksRow.maps==(Tryz.f4.params.toList++(OpenSpec.ofChange Rows.talksSpec).bare.plain.varTypes Tryz.prog).any (Tryz.prog.mapsRec ·)))=true:=by kernel_rfl
theorem amo:((Rows.talksRow.ifaces==(Tryz.f4.params.toList++(OpenSpec.ofChange Rows.talksSpec).bare.plain.varTypes Tryz.prog).any (Tryz.prog.ifacesRec ·)))=true:=by kernel_rfl
theorem amp:((Rows.talksRow.mapsOut==Tryz.prog.mapsAmong Tryz.f4.resultTypes.toList))=true:=by kernel_rfl
theorem amq:((Rows.talksRow.loops==(Tryz.f4.params.toList++(OpenSpec.ofChange Rows.talksSpec).bare.plain.varTypes Tryz.prog).any (Tryz.prog.loopsFrom ·)))=true:=by kernel_rfl
theorem amr:((Rows.talksRow.wideKeys==(Tryz.f4.params.toList++(OpenSpec.ofChange Rows.talksSpec).bare.plain.varTypes Tryz.prog++Tryz.f4.resultTypes.toList).any (Tryz.prog.wideKeysFrom ·)))=true:=by kernel_rfl
theorem ams:((OpenSpec.ofChange Rows.talksSpec).bare.vars.all (Tryz.prog.varReadable ·))=true:=by kernel_rfl
theorem amt:(Tryz.f4.resultTypes.all (fun t=>Tryz.prog.readableRec t&&decide (t<Tryz.prog.types.size)))=true:=by kernel_rfl
theorem amu:((Rows.talksRow.ifacesOut==Tryz.f4.resultTypes.toList.any (Tryz.prog.ifacesRec ·)))=true:=by kernel_rfl
theorem amv:((Rows.talksRow.loopsOut==Tryz.f4.resultTypes.toList.any (Tryz.prog.loopsFrom ·)))=true:=by kernel_rfl
theorem amw:((Rows.talksRow.plainKeys==Tryz.prog.plainKeys))=true:=by kernel_rfl
theorem amx:(Rows.talksRow.shortTexts.isNone)=true:=by kernel_rfl
theorem amy:(Tryz.prog.stopsHeard)=true:=by kernel_rfl
theorem amz:(Tryz.prog.mayEnter)=true:=by kernel_rfl
theorem amA:((Rows.talksRow.lifted==Tryz.prog.liftsFinal))=true:=by kernel_rfl
theorem amB:((Tryz.prog.make==some Rows.talksRow.make))=true:=by kernel_rfl
theorem amC:((Rows.talksRow.kinds==(if Rows.talksRow.domain.isEmpty then[] else Tryz.f4.params.toList.map fun t=>match Tryz.prog.underlying t with |some (.int k)=>some k|_=>none)))=true:=by kernel_rfl
theorem amD:((Rows.talksRow.pinned==Rows.talksRow.pinnedBy))=true:=by kernel_rfl
theorem amE:((Rows.talksRow.veiled==(Tryz.f4.params.toList++(OpenSpec.ofChange Rows.talksSpec).bare.plain.varTypes Tryz.prog++Tryz.f4.resultTypes.toList).any (Tryz.prog.veiledRec ·)))=true:=by kernel_rfl
theorem amF:(Rows.talksRow.veiledFits Tryz.prog Tryz.f4.params.toList (Tryz.f4.params.toList++(OpenSpec.ofChange Rows.talksSpec).bare.plain.varTypes Tryz.prog++Tryz.f4.resultTypes.toList))=true:=by kernel_rfl
theorem amG:joinedFacts Tryz.prog 4 Tryz.f4 (OpenSpec.ofChange Rows.talksSpec).bare Rows.talksRow=true:=by
 unfold joinedFacts;exact j7 (j7 (j7 (j7 (j7 (j7 (j7 (j7 (j7 (j7 (j7 (j7 (j7 (j7 (j7 (j7 (j7 (j7 (j7 (j7 (j7 (j7 (j7 (j7 (j7 (j7 (j7 (j7 (j7 (j7 (j7 jf1 jf2) jf3) jf4) jf5) jf6) jf7) jf8) jf9) amj) amk) aml) amm) amn) amo) amp) amq) amr) ams) amt) amu) amv) amw) amx) amy) amz) amA) amB) amC) amD) amE) amF
end Go.Proofs.YtnkpogjiiohapaaGreatDoor
