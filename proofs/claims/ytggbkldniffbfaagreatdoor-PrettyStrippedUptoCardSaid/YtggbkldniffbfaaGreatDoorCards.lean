/-
  DERIVED. GIVEN WITH THE SEED: THE CARDS: each row of YtggbkldniffbfaaGreatDoorRows.lean that lists a variable, with what it lists TIED to the program's text (the seventh form; the later family's looks); each row that meets fmt, with fmt's text TOLD by the authors' own Lean function (tested against real Go, not proved from fmt's source: count such statements apart). THE CARD IS WHAT COUNTS. Prove the row's statement (the work); the ties are given (YtggbkldniffbfaaGreatDoorTie.lean); close each card by the builder's one call (the guide's Derived/Test/ToyasCard.lean, 'card_holds'). Laid BY PROGRAM, IN A SANDBOX (cutbox-door.mjs). By AI agents, Wed Nov 11 2026. No macro, syntax, notation, axiom, sorry.
-/
import Derived.Test.YtggbkldniffbfaaGreatDoorRows
import GoSem.ClaimSeven
namespace Go.Proofs.YtggbkldniffbfaaGreatDoor
namespace Rows

/-- THE TIED CARD OF 'stilelaw04.PrettyBack'. -/
def prettyBackCard : Claim7 := { stood := { row := prettyBackRow, standIns := [], harness := (true, "9d4a31b8f2401570a644e97d29bd1202d6b6c165d66a5f895cf7bec84e23f129"), looks := true }, kinds := [], alts := [], laidByText := true, laidKinds := [.data, .data, .data, .data, .data, .data, .data, .data], laidTests := true, laidLooks := .later }
def PrettyBackCardSaid : Prop := Claim7.holds Tryz.pinned (.plain (OpenSpec.ofChange prettyBackSpec)) prettyBackCard

/-- THE TIED CARD OF 'stilelaw04.PrettyOne'. -/
def prettyOneCard : Claim7 := { stood := { row := prettyOneRow, standIns := [], harness := (true, "9d4a31b8f2401570a644e97d29bd1202d6b6c165d66a5f895cf7bec84e23f129"), looks := true }, kinds := [], alts := [], laidByText := true, laidKinds := [.data, .data, .data, .data, .data, .data, .data, .data], laidTests := true, laidLooks := .later }
def PrettyOneCardSaid : Prop := Claim7.holds Tryz.pinned (.plain (OpenSpec.ofChange prettyOneSpec)) prettyOneCard

/-- THE TIED CARD OF 'stilelaw04.PrettyStripped'. -/
def prettyStrippedCard : Claim7 := { stood := { row := prettyStrippedRow, standIns := [], harness := (true, "9d4a31b8f2401570a644e97d29bd1202d6b6c165d66a5f895cf7bec84e23f129"), looks := true }, kinds := [], alts := [], laidByText := true, laidKinds := [.data, .data, .data, .data, .data, .data, .data], laidTests := true, laidLooks := .later }
def PrettyStrippedCardSaid : Prop := Claim7.holds Tryz.pinned (.plain (OpenSpec.ofChange prettyStrippedSpec)) prettyStrippedCard

/-- THE SECOND FORM's CARD OF 'stilelaw04.PrettyBack'. -/
def prettyBackUptoCard : Claim7 := { stood := { row := prettyBackUptoRow, standIns := [], harness := (true, "9d4a31b8f2401570a644e97d29bd1202d6b6c165d66a5f895cf7bec84e23f129"), looks := true }, kinds := [], alts := [], laidByText := true, laidKinds := [.data, .data, .data, .data, .data, .data, .data, .data], laidTests := true, laidLooks := .later }
def PrettyBackUptoCardSaid : Prop := Claim7.holds Tryz.pinned (.plain (OpenSpec.upto prettyBackSpec)) prettyBackUptoCard

/-- THE SECOND FORM's CARD OF 'stilelaw04.PrettyOne'. -/
def prettyOneUptoCard : Claim7 := { stood := { row := prettyOneUptoRow, standIns := [], harness := (true, "9d4a31b8f2401570a644e97d29bd1202d6b6c165d66a5f895cf7bec84e23f129"), looks := true }, kinds := [], alts := [], laidByText := true, laidKinds := [.data, .data, .data, .data, .data, .data, .data, .data], laidTests := true, laidLooks := .later }
def PrettyOneUptoCardSaid : Prop := Claim7.holds Tryz.pinned (.plain (OpenSpec.upto prettyOneSpec)) prettyOneUptoCard

/-- THE SECOND FORM's CARD OF 'stilelaw04.PrettyStripped'. -/
def prettyStrippedUptoCard : Claim7 := { stood := { row := prettyStrippedUptoRow, standIns := [], harness := (true, "9d4a31b8f2401570a644e97d29bd1202d6b6c165d66a5f895cf7bec84e23f129"), looks := true }, kinds := [], alts := [], laidByText := true, laidKinds := [.data, .data, .data, .data, .data, .data, .data], laidTests := true, laidLooks := .later }
def PrettyStrippedUptoCardSaid : Prop := Claim7.holds Tryz.pinned (.plain (OpenSpec.upto prettyStrippedSpec)) prettyStrippedUptoCard
end Rows
end Go.Proofs.YtggbkldniffbfaaGreatDoor
