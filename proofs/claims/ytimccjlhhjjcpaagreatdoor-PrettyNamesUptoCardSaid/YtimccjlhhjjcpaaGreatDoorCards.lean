/-
  DERIVED. GIVEN WITH THE SEED: THE CARDS: each row of YtimccjlhhjjcpaaGreatDoorRows.lean that lists a variable, with what it lists TIED to the program's text (the seventh form; the later family's looks); each row that meets fmt, with fmt's text TOLD by the authors' own Lean function (tested against real Go, not proved from fmt's source: count such statements apart). THE CARD IS WHAT COUNTS. Prove the row's statement (the work); the ties are given (YtimccjlhhjjcpaaGreatDoorTie.lean); close each card by the builder's one call (the guide's Derived/Test/ToyasCard.lean, 'card_holds'). Laid BY PROGRAM, IN A SANDBOX (cutbox-door.mjs). By AI agents, Wed Nov 11 2026. No macro, syntax, notation, axiom, sorry.
-/
import Derived.Test.YtimccjlhhjjcpaaGreatDoorRows
import GoSem.ClaimSeven
namespace Go.Proofs.YtimccjlhhjjcpaaGreatDoor
namespace Rows

/-- THE TIED CARD OF 'stilelaw04.PrettyNames'. -/
def prettyNamesCard : Claim7 := { stood := { row := prettyNamesRow, standIns := [], harness := (true, "bdaa41cd297fa79ef5b8e738b8fdba988242fa626dba2288dc48e49807ef33e3"), looks := true }, kinds := [], alts := [], laidByText := true, laidKinds := [.data, .data, .data, .data, .data, .data, .data], laidTests := true, laidLooks := .later }
def PrettyNamesCardSaid : Prop := Claim7.holds Tryz.pinned (.plain (OpenSpec.ofChange prettyNamesSpec)) prettyNamesCard

/-- THE TIED CARD OF 'stilelaw04.PrettyRenamed'. -/
def prettyRenamedCard : Claim7 := { stood := { row := prettyRenamedRow, standIns := [], harness := (true, "bdaa41cd297fa79ef5b8e738b8fdba988242fa626dba2288dc48e49807ef33e3"), looks := true }, kinds := [], alts := [], laidByText := true, laidKinds := [.data, .data, .data, .data, .data, .data, .data], laidTests := true, laidLooks := .later }
def PrettyRenamedCardSaid : Prop := Claim7.holds Tryz.pinned (.plain (OpenSpec.ofChange prettyRenamedSpec)) prettyRenamedCard

/-- THE TIED CARD OF 'stilelaw04.PrettyOwn'. -/
def prettyOwnCard : Claim7 := { stood := { row := prettyOwnRow, standIns := [], harness := (true, "bdaa41cd297fa79ef5b8e738b8fdba988242fa626dba2288dc48e49807ef33e3"), looks := true }, kinds := [], alts := [], laidByText := true, laidKinds := [.data, .data, .data, .data, .data, .data, .data], laidTests := true, laidLooks := .later }
def PrettyOwnCardSaid : Prop := Claim7.holds Tryz.pinned (.plain (OpenSpec.ofChange prettyOwnSpec)) prettyOwnCard

/-- THE SECOND FORM's CARD OF 'stilelaw04.PrettyNames'. -/
def prettyNamesUptoCard : Claim7 := { stood := { row := prettyNamesUptoRow, standIns := [], harness := (true, "bdaa41cd297fa79ef5b8e738b8fdba988242fa626dba2288dc48e49807ef33e3"), looks := true }, kinds := [], alts := [], laidByText := true, laidKinds := [.data, .data, .data, .data, .data, .data, .data], laidTests := true, laidLooks := .later }
def PrettyNamesUptoCardSaid : Prop := Claim7.holds Tryz.pinned (.plain (OpenSpec.upto prettyNamesSpec)) prettyNamesUptoCard

/-- THE SECOND FORM's CARD OF 'stilelaw04.PrettyRenamed'. -/
def prettyRenamedUptoCard : Claim7 := { stood := { row := prettyRenamedUptoRow, standIns := [], harness := (true, "bdaa41cd297fa79ef5b8e738b8fdba988242fa626dba2288dc48e49807ef33e3"), looks := true }, kinds := [], alts := [], laidByText := true, laidKinds := [.data, .data, .data, .data, .data, .data, .data], laidTests := true, laidLooks := .later }
def PrettyRenamedUptoCardSaid : Prop := Claim7.holds Tryz.pinned (.plain (OpenSpec.upto prettyRenamedSpec)) prettyRenamedUptoCard

/-- THE SECOND FORM's CARD OF 'stilelaw04.PrettyOwn'. -/
def prettyOwnUptoCard : Claim7 := { stood := { row := prettyOwnUptoRow, standIns := [], harness := (true, "bdaa41cd297fa79ef5b8e738b8fdba988242fa626dba2288dc48e49807ef33e3"), looks := true }, kinds := [], alts := [], laidByText := true, laidKinds := [.data, .data, .data, .data, .data, .data, .data], laidTests := true, laidLooks := .later }
def PrettyOwnUptoCardSaid : Prop := Claim7.holds Tryz.pinned (.plain (OpenSpec.upto prettyOwnSpec)) prettyOwnUptoCard
end Rows
end Go.Proofs.YtimccjlhhjjcpaaGreatDoor
