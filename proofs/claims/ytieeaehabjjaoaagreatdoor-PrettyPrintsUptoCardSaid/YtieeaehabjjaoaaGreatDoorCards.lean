/-
  DERIVED. GIVEN WITH THE SEED: THE CARDS: each row of YtieeaehabjjaoaaGreatDoorRows.lean that lists a variable, with what it lists TIED to the program's text (the seventh form; the later family's looks); each row that meets fmt, with fmt's text TOLD by the authors' own Lean function (tested against real Go, not proved from fmt's source: count such statements apart). THE CARD IS WHAT COUNTS. Prove the row's statement (the work); the ties are given (YtieeaehabjjaoaaGreatDoorTie.lean); close each card by the builder's one call (the guide's Derived/Test/ToyasCard.lean, 'card_holds'). Laid BY PROGRAM, IN A SANDBOX (cutbox-door.mjs). By AI agents, Wed Nov 11 2026. No macro, syntax, notation, axiom, sorry.
-/
import Derived.Test.YtieeaehabjjaoaaGreatDoorRows
import GoSem.ClaimSeven
namespace Go.Proofs.YtieeaehabjjaoaaGreatDoor
namespace Rows

/-- THE TIED CARD OF 'stilelaw04.PrettyPrints'. -/
def prettyPrintsCard : Claim7 := { stood := { row := prettyPrintsRow, standIns := [], harness := (true, "77bd04a61b31ed02a22df38037118e2b0e396fab65a78bfa03e62ae26c6e0db9"), looks := true }, kinds := [], alts := [], laidByText := true, laidKinds := [.data, .data, .data, .data, .data, .data, .data], laidTests := true, laidLooks := .later }
def PrettyPrintsCardSaid : Prop := Claim7.holds Tryz.pinned (.plain (OpenSpec.ofChange prettyPrintsSpec)) prettyPrintsCard

/-- THE TIED CARD OF 'stilelaw04.PrettyLaid'. -/
def prettyLaidCard : Claim7 := { stood := { row := prettyLaidRow, standIns := [], harness := (true, "77bd04a61b31ed02a22df38037118e2b0e396fab65a78bfa03e62ae26c6e0db9"), looks := true }, kinds := [], alts := [], laidByText := true, laidKinds := [.data, .data, .data, .data, .data, .data, .data, .data], laidTests := true, laidLooks := .later }
def PrettyLaidCardSaid : Prop := Claim7.holds Tryz.pinned (.plain (OpenSpec.ofChange prettyLaidSpec)) prettyLaidCard

/-- THE SECOND FORM's CARD OF 'stilelaw04.PrettyPrints'. -/
def prettyPrintsUptoCard : Claim7 := { stood := { row := prettyPrintsUptoRow, standIns := [], harness := (true, "77bd04a61b31ed02a22df38037118e2b0e396fab65a78bfa03e62ae26c6e0db9"), looks := true }, kinds := [], alts := [], laidByText := true, laidKinds := [.data, .data, .data, .data, .data, .data, .data], laidTests := true, laidLooks := .later }
def PrettyPrintsUptoCardSaid : Prop := Claim7.holds Tryz.pinned (.plain (OpenSpec.upto prettyPrintsSpec)) prettyPrintsUptoCard

/-- THE SECOND FORM's CARD OF 'stilelaw04.PrettyLaid'. -/
def prettyLaidUptoCard : Claim7 := { stood := { row := prettyLaidUptoRow, standIns := [], harness := (true, "77bd04a61b31ed02a22df38037118e2b0e396fab65a78bfa03e62ae26c6e0db9"), looks := true }, kinds := [], alts := [], laidByText := true, laidKinds := [.data, .data, .data, .data, .data, .data, .data, .data], laidTests := true, laidLooks := .later }
def PrettyLaidUptoCardSaid : Prop := Claim7.holds Tryz.pinned (.plain (OpenSpec.upto prettyLaidSpec)) prettyLaidUptoCard
end Rows
end Go.Proofs.YtieeaehabjjaoaaGreatDoor
