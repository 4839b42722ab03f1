/- Our own text. -/
import Derived.Test.YtnkpogjiiohapaaGreatDoorA32
set_option linter.unusedSimpArgs false
set_option linter.unusedVariables false
set_option maxRecDepth 1000000
namespace Go.Proofs.YtnkpogjiiohapaaGreatDoor
theorem atr:joinedFacts Tryz.prog 6 Tryz.f6 (OpenSpec.ofChange Rows.allSpec).bare Rows.allRow=true:=by unfold joinedFacts;exact lv (lv (lv (lv (lv (lv (lv (lv (lv (lv (lv (lv (lv (lv (lv (lv (lv (lv (lv (lv (lv (lv (lv (lv (lv (lv (lv (lv (lv (lv (lv jf1 jf2) jf3) jf4) jf5) jf6) jf7) jf8) jf9) as4) as5) as6) as7) as8) as9) ata) atb) atc) atd) ate) atf) atg) ath) ati) atj) atk) atl) atm) atn) ato) atp) atq
