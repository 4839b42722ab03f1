/- Our own text. -/
import Derived.Test.YtnkpogjiiohapaaGreatDoorRows
import Derived.JoinedCond
set_option linter.unusedSimpArgs false
set_option linter.unusedVariables false
namespace Go.Proofs.YtnkpogjiiohapaaGreatDoor
theorem lv{a b:Bool}(c:a=true)(d:b=true):(a&&b)=true:=by rw[c,d];rfl
theorem jf1:(Rows.allRow.wf (OpenSpec.ofChange (OpenSpec.ofChange Rows.allSpec).bare))=true:=by kernel_rfl
theorem jf2:(laidOutB Tryz.prog)=true:=by kernel_rfl
theorem jf3:(mapsRowed Tryz.prog)=true:=by kernel_rfl
theorem jf4:(Tryz.f6.params.all (Tryz.prog.readableRec ·))=true:=by kernel_rfl
theorem jf5:(namedTie Tryz.prog Rows.allRow.named (OpenSpec.ofChange Rows.allSpec).bare.vars)=true:=by kernel_rfl
theorem jf6:((Rows.allRow.stops==[]))=true:=by kernel_rfl
theorem jf7:((Tryz.prog.stops==[]))=true:=by kernel_rfl
theorem jf8:((Rows.allRow.knobs==[]))=true:=by kernel_rfl
theorem jf9:((Tryz.prog.stopKnobs==[]))=true:=by kernel_rfl
theorem as4:((Rows.allRow.inPlace==Tryz.prog.inPlace 6))=true:=by kernel_rfl
theorem as5:((Rows.allRow.unfollowed==Tryz.prog.unfollowed 6))=true:=by kernel_rfl
theorem as6:((Rows.allRow.recurses==Tryz.prog.recurses 6))=true:=by kernel_rfl
theorem as7:((Rows.allRow.named==Tryz.prog.varsNamed 6))=true:=by kernel_rfl
theorem as8:((Rows.allRow.maps==(Tryz.f6.params.toList++(OpenSpec.ofChange Rows.allSpec).bare.plain.varTypes Tryz.prog).any (Tryz.prog.mapsRec ·)))=true:=by kernel_rfl
theorem as9:((Rows.allRow.ifaces==(Tryz.f6.params.toList++(OpenSpec.ofChange Rows.allSpec).bare.plain.varTypes Tryz.prog).any (Tryz.prog.ifacesRec ·)))=true:=by kernel_rfl
theorem ata:((Rows.allRow.mapsOut==Tryz.prog.mapsAmong Tryz.f6.resultTypes.toList))=true:=by kernel_rfl
theorem atb:((Rows.allRow.loops==(Tryz.f6.params.toList++(OpenSpec.ofChange Rows.allSpec).bare.plain.varTypes Tryz.prog).any (Tryz.prog.loopsFrom ·)))=true:=by kernel_rfl
theorem atc:((Rows.allRow.wideKeys==(Tryz.f6.params.toList++(OpenSpec.ofChange Rows.allSpec).bare.plain.varTypes Tryz.prog++Tryz.f6.resultTypes.toList).any (Tryz.prog.wideKeysFrom ·)))=true:=by kernel_rfl
theorem atd:((OpenSpec.ofChange Rows.allSpec).bare.vars.all (Tryz.prog.varReadable ·))=true:=by kernel_rfl
theorem ate:(Tryz.f6.resultTypes.all (λt=>Tryz.prog.readableRec t&&decide (t<Tryz.prog.types.size)))=true:=by kernel_rfl
theorem atf:((Rows.allRow.ifacesOut==Tryz.f6.resultTypes.toList.any (Tryz.prog.ifacesRec ·)))=true:=by kernel_rfl
theorem atg:((Rows.allRow.loopsOut==Tryz.f6.resultTypes.toList.any (Tryz.prog.loopsFrom ·)))=true:=by kernel_rfl
theorem ath:((Rows.allRow.plainKeys==Tryz.prog.plainKeys))=true:=by kernel_rfl
theorem ati:(Rows.allRow.shortTexts.isNone)=true:=by kernel_rfl
theorem atj:(Tryz.prog.stopsHeard)=true:=by kernel_rfl
theorem atk:(Tryz.prog.mayEnter)=true:=by kernel_rfl
theorem atl:((Rows.allRow.lifted==Tryz.prog.liftsFinal))=true:=by kernel_rfl
theorem atm:((Tryz.prog.make==some Rows.allRow.make))=true:=by kernel_rfl
theorem atn:((Rows.allRow.kinds==(if Rows.allRow.domain.isEmpty then[] else Tryz.f6.params.toList.map λt=>match Tryz.prog.underlying t with |some (.int k)=>some k|_=>none)))=true:=by kernel_rfl
theorem ato:((Rows.allRow.pinned==Rows.allRow.pinnedBy))=true:=by kernel_rfl
theorem atp:((Rows.allRow.veiled==(Tryz.f6.params.toList++(OpenSpec.ofChange Rows.allSpec).bare.plain.varTypes Tryz.prog++Tryz.f6.resultTypes.toList).any (Tryz.prog.veiledRec ·)))=true:=by kernel_rfl
theorem atq:(Rows.allRow.veiledFits Tryz.prog Tryz.f6.params.toList (Tryz.f6.params.toList++(OpenSpec.ofChange Rows.allSpec).bare.plain.varTypes Tryz.prog++Tryz.f6.resultTypes.toList))=true:=by kernel_rfl
