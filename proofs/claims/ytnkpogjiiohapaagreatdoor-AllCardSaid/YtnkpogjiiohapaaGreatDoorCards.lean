/-
  DERIVED. GIVEN WITH THE SEED: THE CARDS: each row of YtnkpogjiiohapaaGreatDoorRows.lean that lists a variable, with what it lists TIED to the program's text (the seventh form; the later family's looks); each row that meets fmt, with fmt's text TOLD by the authors' own Lean function (tested against real Go, not proved from fmt's source: count such statements apart). THE CARD IS WHAT COUNTS. Prove the row's statement (the work); the ties are given (YtnkpogjiiohapaaGreatDoorTie.lean); close each card by the builder's one call (the guide's Derived/Test/ToyasCard.lean, 'card_holds'). Laid BY PROGRAM, IN A SANDBOX (cutbox-door.mjs). By AI agents, Wed Nov 11 2026. No macro, syntax, notation, axiom, sorry.
-/
import Derived.Test.YtnkpogjiiohapaaGreatDoorRows
import GoSem.ClaimSeven
namespace Go.Proofs.YtnkpogjiiohapaaGreatDoor
namespace Rows

/-- THE TIED CARD OF 'quirelaw.Writes'. -/
def writesCard : Claim7 := { stood := { row := writesRow, standIns := [], harness := (true, "591b77d0ff88434aa228b2302bbe7b92e0029d56b8939989cdb8f7f6ee13cf19"), looks := true }, kinds := [], alts := [], laidByText := true, laidKinds := [.data, .data, .data], laidTests := true, laidLooks := .later }
def WritesCardSaid : Prop := Claim7.holds Tryz.pinned (.plain (OpenSpec.ofChange writesSpec)) writesCard

/-- THE TIED CARD OF 'quirelaw.Talks'. -/
def talksCard : Claim7 := { stood := { row := talksRow, standIns := [], harness := (true, "591b77d0ff88434aa228b2302bbe7b92e0029d56b8939989cdb8f7f6ee13cf19"), looks := true }, kinds := [], alts := [], laidByText := true, laidKinds := [.data, .data, .data], laidTests := true, laidLooks := .later }
def TalksCardSaid : Prop := Claim7.holds Tryz.pinned (.plain (OpenSpec.ofChange talksSpec)) talksCard

/-- THE TIED CARD OF 'quirelaw.Fails'. -/
def failsCard : Claim7 := { stood := { row := failsRow, standIns := [], harness := (true, "591b77d0ff88434aa228b2302bbe7b92e0029d56b8939989cdb8f7f6ee13cf19"), looks := true }, kinds := [], alts := [], laidByText := true, laidKinds := [.data, .data, .data], laidTests := true, laidLooks := .later }
def FailsCardSaid : Prop := Claim7.holds Tryz.pinned (.plain (OpenSpec.ofChange failsSpec)) failsCard

/-- THE TIED CARD OF 'quirelaw.All'. -/
def allCard : Claim7 := { stood := { row := allRow, standIns := [], harness := (true, "591b77d0ff88434aa228b2302bbe7b92e0029d56b8939989cdb8f7f6ee13cf19"), looks := true }, kinds := [], alts := [], laidByText := true, laidKinds := [.data, .data, .data], laidTests := true, laidLooks := .later }
def AllCardSaid : Prop := Claim7.holds Tryz.pinned (.plain (OpenSpec.ofChange allSpec)) allCard

/-- THE TIED CARD OF 'quirekeep.Alike'. -/
def alikeCard : Claim7 := { stood := { row := alikeRow, standIns := [], harness := (true, "591b77d0ff88434aa228b2302bbe7b92e0029d56b8939989cdb8f7f6ee13cf19"), looks := true }, kinds := [], alts := [], laidByText := true, laidKinds := [.data, .data, .data], laidTests := true, laidLooks := .later }
def AlikeCardSaid : Prop := Claim7.holds Tryz.pinned (.plain (OpenSpec.ofChange alikeSpec)) alikeCard

/-- THE TIED CARD OF 'quirekeep.Apart'. -/
def apartCard : Claim7 := { stood := { row := apartRow, standIns := [], harness := (true, "591b77d0ff88434aa228b2302bbe7b92e0029d56b8939989cdb8f7f6ee13cf19"), looks := true }, kinds := [], alts := [], laidByText := true, laidKinds := [.data, .data, .data], laidTests := true, laidLooks := .later }
def ApartCardSaid : Prop := Claim7.holds Tryz.pinned (.plain (OpenSpec.ofChange apartSpec)) apartCard

/-- THE TIED CARD OF 'quirekeep.Joined'. -/
def joinedCard : Claim7 := { stood := { row := joinedRow, standIns := [], harness := (true, "591b77d0ff88434aa228b2302bbe7b92e0029d56b8939989cdb8f7f6ee13cf19"), looks := true }, kinds := [], alts := [], laidByText := true, laidKinds := [.data, .data, .data], laidTests := true, laidLooks := .later }
def JoinedCardSaid : Prop := Claim7.holds Tryz.pinned (.plain (OpenSpec.ofChange joinedSpec)) joinedCard

/-- THE TIED CARD OF 'quirekeep.Ordered'. -/
def orderedCard : Claim7 := { stood := { row := orderedRow, standIns := [], harness := (true, "591b77d0ff88434aa228b2302bbe7b92e0029d56b8939989cdb8f7f6ee13cf19"), looks := true }, kinds := [], alts := [], laidByText := true, laidKinds := [.data, .data, .data], laidTests := true, laidLooks := .later }
def OrderedCardSaid : Prop := Claim7.holds Tryz.pinned (.plain (OpenSpec.ofChange orderedSpec)) orderedCard

/-- THE TIED CARD OF 'quirekeep.Landed'. -/
def landedCard : Claim7 := { stood := { row := landedRow, standIns := [], harness := (true, "591b77d0ff88434aa228b2302bbe7b92e0029d56b8939989cdb8f7f6ee13cf19"), looks := true }, kinds := [], alts := [], laidByText := true, laidKinds := [.data, .data, .data], laidTests := true, laidLooks := .later }
def LandedCardSaid : Prop := Claim7.holds Tryz.pinned (.plain (OpenSpec.ofChange landedSpec)) landedCard

/-- THE TIED CARD OF 'quirekeep.Unseen'. -/
def unseenCard : Claim7 := { stood := { row := unseenRow, standIns := [], harness := (true, "591b77d0ff88434aa228b2302bbe7b92e0029d56b8939989cdb8f7f6ee13cf19"), looks := true }, kinds := [], alts := [], laidByText := true, laidKinds := [.data, .data, .data], laidTests := true, laidLooks := .later }
def UnseenCardSaid : Prop := Claim7.holds Tryz.pinned (.plain (OpenSpec.ofChange unseenSpec)) unseenCard

/-- THE SECOND FORM's CARD OF 'quirelaw.Writes'. -/
def writesUptoCard : Claim7 := { stood := { row := writesUptoRow, standIns := [], harness := (true, "591b77d0ff88434aa228b2302bbe7b92e0029d56b8939989cdb8f7f6ee13cf19"), looks := true }, kinds := [], alts := [], laidByText := true, laidKinds := [.data, .data, .data], laidTests := true, laidLooks := .later }
def WritesUptoCardSaid : Prop := Claim7.holds Tryz.pinned (.plain (OpenSpec.upto writesSpec)) writesUptoCard

/-- THE SECOND FORM's CARD OF 'quirelaw.Talks'. -/
def talksUptoCard : Claim7 := { stood := { row := talksUptoRow, standIns := [], harness := (true, "591b77d0ff88434aa228b2302bbe7b92e0029d56b8939989cdb8f7f6ee13cf19"), looks := true }, kinds := [], alts := [], laidByText := true, laidKinds := [.data, .data, .data], laidTests := true, laidLooks := .later }
def TalksUptoCardSaid : Prop := Claim7.holds Tryz.pinned (.plain (OpenSpec.upto talksSpec)) talksUptoCard

/-- THE SECOND FORM's CARD OF 'quirelaw.Fails'. -/
def failsUptoCard : Claim7 := { stood := { row := failsUptoRow, standIns := [], harness := (true, "591b77d0ff88434aa228b2302bbe7b92e0029d56b8939989cdb8f7f6ee13cf19"), looks := true }, kinds := [], alts := [], laidByText := true, laidKinds := [.data, .data, .data], laidTests := true, laidLooks := .later }
def FailsUptoCardSaid : Prop := Claim7.holds Tryz.pinned (.plain (OpenSpec.upto failsSpec)) failsUptoCard

/-- THE SECOND FORM's CARD OF 'quirelaw.All'. -/
def allUptoCard : Claim7 := { stood := { row := allUptoRow, standIns := [], harness := (true, "591b77d0ff88434aa228b2302bbe7b92e0029d56b8939989cdb8f7f6ee13cf19"), looks := true }, kinds := [], alts := [], laidByText := true, laidKinds := [.data, .data, .data], laidTests := true, laidLooks := .later }
def AllUptoCardSaid : Prop := Claim7.holds Tryz.pinned (.plain (OpenSpec.upto allSpec)) allUptoCard

/-- THE SECOND FORM's CARD OF 'quirekeep.Alike'. -/
def alikeUptoCard : Claim7 := { stood := { row := alikeUptoRow, standIns := [], harness := (true, "591b77d0ff88434aa228b2302bbe7b92e0029d56b8939989cdb8f7f6ee13cf19"), looks := true }, kinds := [], alts := [], laidByText := true, laidKinds := [.data, .data, .data], laidTests := true, laidLooks := .later }
def AlikeUptoCardSaid : Prop := Claim7.holds Tryz.pinned (.plain (OpenSpec.upto alikeSpec)) alikeUptoCard

/-- THE SECOND FORM's CARD OF 'quirekeep.Apart'. -/
def apartUptoCard : Claim7 := { stood := { row := apartUptoRow, standIns := [], harness := (true, "591b77d0ff88434aa228b2302bbe7b92e0029d56b8939989cdb8f7f6ee13cf19"), looks := true }, kinds := [], alts := [], laidByText := true, laidKinds := [.data, .data, .data], laidTests := true, laidLooks := .later }
def ApartUptoCardSaid : Prop := Claim7.holds Tryz.pinned (.plain (OpenSpec.upto apartSpec)) apartUptoCard

/-- THE SECOND FORM's CARD OF 'quirekeep.Joined'. -/
def joinedUptoCard : Claim7 := { stood := { row := joinedUptoRow, standIns := [], harness := (true, "591b77d0ff88434aa228b2302bbe7b92e0029d56b8939989cdb8f7f6ee13cf19"), looks := true }, kinds := [], alts := [], laidByText := true, laidKinds := [.data, .data, .data], laidTests := true, laidLooks := .later }
def JoinedUptoCardSaid : Prop := Claim7.holds Tryz.pinned (.plain (OpenSpec.upto joinedSpec)) joinedUptoCard

/-- THE SECOND FORM's CARD OF 'quirekeep.Ordered'. -/
def orderedUptoCard : Claim7 := { stood := { row := orderedUptoRow, standIns := [], harness := (true, "591b77d0ff88434aa228b2302bbe7b92e0029d56b8939989cdb8f7f6ee13cf19"), looks := true }, kinds := [], alts := [], laidByText := true, laidKinds := [.data, .data, .data], laidTests := true, laidLooks := .later }
def OrderedUptoCardSaid : Prop := Claim7.holds Tryz.pinned (.plain (OpenSpec.upto orderedSpec)) orderedUptoCard

/-- THE SECOND FORM's CARD OF 'quirekeep.Landed'. -/
def landedUptoCard : Claim7 := { stood := { row := landedUptoRow, standIns := [], harness := (true, "591b77d0ff88434aa228b2302bbe7b92e0029d56b8939989cdb8f7f6ee13cf19"), looks := true }, kinds := [], alts := [], laidByText := true, laidKinds := [.data, .data, .data], laidTests := true, laidLooks := .later }
def LandedUptoCardSaid : Prop := Claim7.holds Tryz.pinned (.plain (OpenSpec.upto landedSpec)) landedUptoCard

/-- THE SECOND FORM's CARD OF 'quirekeep.Unseen'. -/
def unseenUptoCard : Claim7 := { stood := { row := unseenUptoRow, standIns := [], harness := (true, "591b77d0ff88434aa228b2302bbe7b92e0029d56b8939989cdb8f7f6ee13cf19"), looks := true }, kinds := [], alts := [], laidByText := true, laidKinds := [.data, .data, .data], laidTests := true, laidLooks := .later }
def UnseenUptoCardSaid : Prop := Claim7.holds Tryz.pinned (.plain (OpenSpec.upto unseenSpec)) unseenUptoCard
end Rows
end Go.Proofs.YtnkpogjiiohapaaGreatDoor
