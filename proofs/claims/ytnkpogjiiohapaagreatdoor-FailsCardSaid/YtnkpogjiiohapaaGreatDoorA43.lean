/- Our own text. -/
import Derived.Test.YtnkpogjiiohapaaGreatDoorRows
import Derived.JoinedCond
set_option linter.unusedSimpArgs false
set_option linter.unusedVariables false
namespace Go.Proofs.YtnkpogjiiohapaaGreatDoor
theorem kd{a b:Bool}(c:a=true)(d:b=true):(a&&b)=true:=by rw[c,d];rfl
theorem jf1:(Rows.failsRow.wf (OpenSpec.ofChange (OpenSpec.ofChange Rows.failsSpec).bare))=true:=by kernel_rfl
theorem jf2:(laidOutB Tryz.prog)=true:=by kernel_rfl
theorem jf3:(mapsRowed Tryz.prog)=true:=by kernel_rfl
theorem jf4:(Tryz.f5.params.all (Tryz.prog.readableRec ·))=true:=by kernel_rfl
theorem jf5:(namedTie Tryz.prog Rows.failsRow.named (OpenSpec.ofChange Rows.failsSpec).bare.vars)=true:=by kernel_rfl
theorem jf6:((Rows.failsRow.stops==[]))=true:=by kernel_rfl
theorem jf7:((Tryz.prog.stops==[]))=true:=by kernel_rfl
theorem jf8:((Rows.failsRow.knobs==[]))=true:=by kernel_rfl
theorem jf9:((Tryz.prog.stopKnobs==[]))=true:=by kernel_rfl
theorem anl:((Rows.failsRow.inPlace==Tryz.prog.inPlace 5))=true:=by kernel_rfl
theorem anm:((Rows.failsRow.unfollowed==Tryz.prog.unfollowed 5))=true:=by kernel_rfl
theorem ann:((Rows.failsRow.recurses==Tryz.prog.recurses 5))=true:=by kernel_rfl
theorem ano:((Rows.failsRow.named==Tryz.prog.varsNamed 5))=true:=by kernel_rfl
theorem anp:((Rows.failsRow.maps==(Tryz.f5.params.toList++(OpenSpec.ofChange Rows.failsSpec).bare.plain.varTypes Tryz.prog).any (Tryz.prog.mapsRec ·)))=true:=by kernel_rfl
theorem anq:((Rows.failsRow.ifaces==(Tryz.f5.params.toList++(OpenSpec.ofChange Rows.failsSpec).bare.plain.varTypes Tryz.prog).any (Tryz.prog.ifacesRec ·)))=true:=by kernel_rfl
theorem anr:((Rows.failsRow.mapsOut==Tryz.prog.mapsAmong Tryz.f5.resultTypes.toList))=true:=by kernel_rfl
theorem ans:((Rows.failsRow.loops==(Tryz.f5.params.toList++(OpenSpec.ofChange Rows.failsSpec).bare.plain.varTypes Tryz.prog).any (Tryz.prog.loopsFrom ·)))=true:=by kernel_rfl
theorem ant:((Rows.failsRow.wideKeys==(Tryz.f5.params.toList++(OpenSpec.ofChange Rows.failsSpec).bare.plain.varTypes Tryz.prog++Tryz.f5.resultTypes.toList).any (Tryz.prog.wideKeysFrom ·)))=true:=by kernel_rfl
theorem anu:((OpenSpec.ofChange Rows.failsSpec).bare.vars.all (Tryz.prog.varReadable ·))=true:=by kernel_rfl
theorem anv:(Tryz.f5.resultTypes.all (fun t=>Tryz.prog.readableRec t&&decide (t<Tryz.prog.types.size)))=true:=by kernel_rfl
theorem anw:((Rows.failsRow.ifacesOut==Tryz.f5.resultTypes.toList.any (Tryz.prog.ifacesRec ·)))=true:=by kernel_rfl
theorem anx:((Rows.failsRow.loopsOut==Tryz.f5.resultTypes.toList.any (Tryz.prog.loopsFrom ·)))=true:=by kernel_rfl
theorem anz:((Rows.failsRow.plainKeys==Tryz.prog.plainKeys))=true:=by kernel_rfl
theorem anA:(Rows.failsRow.shortTexts.isNone)=true:=by kernel_rfl
theorem anB:(Tryz.prog.stopsHeard)=true:=by kernel_rfl
theorem anC:(Tryz.prog.mayEnter)=true:=by kernel_rfl
theorem anD:((Rows.failsRow.lifted==Tryz.prog.liftsFinal))=true:=by kernel_rfl
theorem anE:((Tryz.prog.make==some Rows.failsRow.make))=true:=by kernel_rfl
theorem anF:((Rows.failsRow.kinds==(if Rows.failsRow.domain.isEmpty then[] else Tryz.f5.params.toList.map fun t=>match Tryz.prog.underlying t with |some (.int k)=>some k|_=>none)))=true:=by kernel_rfl
theorem anG:((Rows.failsRow.pinned==Rows.failsRow.pinnedBy))=true:=by kernel_rfl
theorem anH:((Rows.failsRow.veiled==(Tryz.f5.params.toList++(OpenSpec.ofChange Rows.failsSpec).bare.plain.varTypes Tryz.prog++Tryz.f5.resultTypes.toList).any (Tryz.prog.veiledRec ·)))=true:=by kernel_rfl
theorem anI:(Rows.failsRow.veiledFits Tryz.prog Tryz.f5.params.toList (Tryz.f5.params.toList++(OpenSpec.ofChange Rows.failsSpec).bare.plain.varTypes Tryz.prog++Tryz.f5.resultTypes.toList))=true:=by kernel_rfl
end Go.Proofs.YtnkpogjiiohapaaGreatDoor
