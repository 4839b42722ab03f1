/- Our own text. -/
import Derived.Test.YtnkpogjiiohapaaGreatDoorA43
set_option linter.unusedSimpArgs false
set_option linter.unusedVariables false
set_option maxRecDepth 1000000
namespace Go.Proofs.YtnkpogjiiohapaaGreatDoor
theorem anJ:joinedFacts Tryz.prog 5 Tryz.f5 (OpenSpec.ofChange Rows.failsSpec).bare Rows.failsRow=true:=by
 unfold joinedFacts;exact kd (kd (kd (kd (kd (kd (kd (kd (kd (kd (kd (kd (kd (kd (kd (kd (kd (kd (kd (kd (kd (kd (kd (kd (kd (kd (kd (kd (kd (kd (kd jf1 jf2) jf3) jf4) jf5) jf6) jf7) jf8) jf9) anl) anm) ann) ano) anp) anq) anr) ans) ant) anu) anv) anw) anx) anz) anA) anB) anC) anD) anE) anF) anG) anH) anI
end Go.Proofs.YtnkpogjiiohapaaGreatDoor
