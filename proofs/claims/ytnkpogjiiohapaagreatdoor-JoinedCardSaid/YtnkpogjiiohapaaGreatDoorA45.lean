/- The law Joined: for all arguments that the form reads the call answers true, and the arguments read afterwards as they read before: the row and the card. Its conditions: the three tables that the translation lists lie as the program's text lays them; the card ties them to that text. -/
import Derived.Test.YtnkpogjiiohapaaGreatDoorCards
import Derived.Test.YtnkpogjiiohapaaGreatDoorTie
import Derived.Test.YtnkpogjiiohapaaGreatDoorRows
import Derived.JoinedCond
import Derived.Test.YtnkpogjiiohapaaGreatDoorA44
set_option linter.unusedSimpArgs false
set_option linter.unusedVariables false

/-! JoClaimB: The law Joined: for all arguments that the form reads the call answers true, and the arguments read afterwards as they read before: the row and the card. Its conditions: the three tables that the translation lists lie as the program's text lays them; the card ties them to that text. -/
namespace Go.Proofs.YtnkpogjiiohapaaGreatDoor
open Go.ChangeShapes Go.WideShapes Go.ChangeAt Go.RowKit

theorem reads (os : Os) {H : Type} (enc : TypeId × Value → H) : ∃ places, DataW.whole enc Tryz.prog ((layAll (World.holding Tryz.prog os ⟨#[], #[], []⟩)).forCall (fun _ _ => 0) ⟨#[], #[.int .i64 0, .int .i64 0, .slice none 0 0], []⟩).memory Tryz.f9.params.toList Rows.joinedSpec.vars false #[Value.int .i64 0, .int .i64 0, .slice none 0 0].toList 8 = some ([.lit (.int .i64 0), .lit (.int .i64 0), .nil], [], places) :=
  ⟨[], by kernel_rfl⟩

end Go.Proofs.YtnkpogjiiohapaaGreatDoor
