/-
  DERIVED. GIVEN WITH THE SEED: THE CARDS: each row of YteedpojchapjgaaDoorRows.lean that lists a variable, with what it lists TIED to the program's text (the seventh form; the later family's looks); each row that meets fmt, with fmt's text TOLD by the authors' own Lean function (tested against real Go, not proved from fmt's source: count such statements apart). THE CARD IS WHAT COUNTS. Prove the row's statement (the work); the ties are given (YteedpojchapjgaaDoorTie.lean); close each card by the builder's one call (the guide's Derived/Test/ToyasCard.lean, 'card_holds'). Laid BY PROGRAM, IN A SANDBOX (cutbox-door.mjs). By AI agents, Wed Nov 11 2026. No macro, syntax, notation, axiom, sorry.
-/
import Derived.Test.YteedpojchapjgaaDoorRows
import GoSem.ClaimSeven
namespace Go.Proofs.YteedpojchapjgaaDoor
namespace Rows

/-- THE TIED CARD OF 'stilelaw02.LexerKinds'. -/
def lexerKindsCard : Claim7 := { stood := { row := lexerKindsRow, standIns := [], harness := (true, "b46d8237164b09fcda54aaf504dde37e946514d55171d9bbb892019a6dcc23a9"), looks := false }, kinds := [], alts := [], laidByText := true, laidKinds := [.data, .data], laidTests := true, laidLooks := .later }
def LexerKindsCardSaid : Prop := Claim7.holds Tryd.pinned (.plain (OpenSpec.ofChange lexerKindsSpec)) lexerKindsCard

/-- THE TIED CARD OF 'stilelaw02.LexerScans'. -/
def lexerScansCard : Claim7 := { stood := { row := lexerScansRow, standIns := [], harness := (true, "b46d8237164b09fcda54aaf504dde37e946514d55171d9bbb892019a6dcc23a9"), looks := false }, kinds := [], alts := [], laidByText := true, laidKinds := [.data, .data], laidTests := true, laidLooks := .later }
def LexerScansCardSaid : Prop := Claim7.holds Tryd.pinned (.plain (OpenSpec.ofChange lexerScansSpec)) lexerScansCard

/-- THE TIED CARD OF 'stilelaw02.LexerEach'. -/
def lexerEachCard : Claim7 := { stood := { row := lexerEachRow, standIns := [], harness := (true, "b46d8237164b09fcda54aaf504dde37e946514d55171d9bbb892019a6dcc23a9"), looks := false }, kinds := [], alts := [], laidByText := true, laidKinds := [.data, .data], laidTests := true, laidLooks := .later }
def LexerEachCardSaid : Prop := Claim7.holds Tryd.pinned (.plain (OpenSpec.ofChange lexerEachSpec)) lexerEachCard

/-- THE TIED CARD OF 'stilelaw02.LexerPrints'. -/
def lexerPrintsCard : Claim7 := { stood := { row := lexerPrintsRow, standIns := [], harness := (true, "b46d8237164b09fcda54aaf504dde37e946514d55171d9bbb892019a6dcc23a9"), looks := false }, kinds := [], alts := [], laidByText := true, laidKinds := [.data, .data], laidTests := true, laidLooks := .later }
def LexerPrintsCardSaid : Prop := Claim7.holds Tryd.pinned (.plain (OpenSpec.ofChange lexerPrintsSpec)) lexerPrintsCard

/-- THE TIED CARD OF 'stilelaw02.LexerPlaces'. -/
def lexerPlacesCard : Claim7 := { stood := { row := lexerPlacesRow, standIns := [], harness := (true, "b46d8237164b09fcda54aaf504dde37e946514d55171d9bbb892019a6dcc23a9"), looks := false }, kinds := [], alts := [], laidByText := true, laidKinds := [.data, .data], laidTests := true, laidLooks := .later }
def LexerPlacesCardSaid : Prop := Claim7.holds Tryd.pinned (.plain (OpenSpec.ofChange lexerPlacesSpec)) lexerPlacesCard

/-- THE TIED CARD OF 'stilelaw02.LexerBack'. -/
def lexerBackCard : Claim7 := { stood := { row := lexerBackRow, standIns := [], harness := (true, "b46d8237164b09fcda54aaf504dde37e946514d55171d9bbb892019a6dcc23a9"), looks := false }, kinds := [], alts := [], laidByText := true, laidKinds := [.data, .data], laidTests := true, laidLooks := .later }
def LexerBackCardSaid : Prop := Claim7.holds Tryd.pinned (.plain (OpenSpec.ofChange lexerBackSpec)) lexerBackCard

/-- THE TIED CARD OF 'stilelaw02.LexerBlanks'. -/
def lexerBlanksCard : Claim7 := { stood := { row := lexerBlanksRow, standIns := [], harness := (true, "b46d8237164b09fcda54aaf504dde37e946514d55171d9bbb892019a6dcc23a9"), looks := false }, kinds := [], alts := [], laidByText := true, laidKinds := [.data, .data], laidTests := true, laidLooks := .later }
def LexerBlanksCardSaid : Prop := Claim7.holds Tryd.pinned (.plain (OpenSpec.ofChange lexerBlanksSpec)) lexerBlanksCard

/-- THE TIED CARD OF 'stilelaw02.LexerStands'. -/
def lexerStandsCard : Claim7 := { stood := { row := lexerStandsRow, standIns := [], harness := (true, "b46d8237164b09fcda54aaf504dde37e946514d55171d9bbb892019a6dcc23a9"), looks := false }, kinds := [], alts := [], laidByText := true, laidKinds := [.data, .data], laidTests := true, laidLooks := .later }
def LexerStandsCardSaid : Prop := Claim7.holds Tryd.pinned (.plain (OpenSpec.ofChange lexerStandsSpec)) lexerStandsCard

/-- THE TIED CARD OF 'stilelaw02.LexerFaults'. -/
def lexerFaultsCard : Claim7 := { stood := { row := lexerFaultsRow, standIns := [], harness := (true, "b46d8237164b09fcda54aaf504dde37e946514d55171d9bbb892019a6dcc23a9"), looks := false }, kinds := [], alts := [], laidByText := true, laidKinds := [.data, .data], laidTests := true, laidLooks := .later }
def LexerFaultsCardSaid : Prop := Claim7.holds Tryd.pinned (.plain (OpenSpec.ofChange lexerFaultsSpec)) lexerFaultsCard

/-- THE TIED CARD OF 'stilelaw02.LexerPlaced'. -/
def lexerPlacedCard : Claim7 := { stood := { row := lexerPlacedRow, standIns := [], harness := (true, "b46d8237164b09fcda54aaf504dde37e946514d55171d9bbb892019a6dcc23a9"), looks := false }, kinds := [], alts := [], laidByText := true, laidKinds := [.data, .data], laidTests := true, laidLooks := .later }
def LexerPlacedCardSaid : Prop := Claim7.holds Tryd.pinned (.plain (OpenSpec.ofChange lexerPlacedSpec)) lexerPlacedCard

/-- THE TIED CARD OF 'stilelaw02.LexerOwn'. -/
def lexerOwnCard : Claim7 := { stood := { row := lexerOwnRow, standIns := [], harness := (true, "b46d8237164b09fcda54aaf504dde37e946514d55171d9bbb892019a6dcc23a9"), looks := false }, kinds := [], alts := [], laidByText := true, laidKinds := [.data, .data], laidTests := true, laidLooks := .later }
def LexerOwnCardSaid : Prop := Claim7.holds Tryd.pinned (.plain (OpenSpec.ofChange lexerOwnSpec)) lexerOwnCard

/-- THE TIED CARD OF 'stiletop.TopNumbers'. -/
def topNumbersCard : Claim7 := { stood := { row := topNumbersRow, standIns := [], harness := (true, "b46d8237164b09fcda54aaf504dde37e946514d55171d9bbb892019a6dcc23a9"), looks := false }, kinds := [], alts := [], laidByText := true, laidKinds := [.data, .data, .data, .data, .data, .data, .data], laidTests := true, laidLooks := .later }
def TopNumbersCardSaid : Prop := Claim7.holds Tryd.pinned (.plain (OpenSpec.ofChange topNumbersSpec)) topNumbersCard

/-- THE SECOND FORM's CARD OF 'stilelaw02.LexerKinds'. -/
def lexerKindsUptoCard : Claim7 := { stood := { row := lexerKindsUptoRow, standIns := [], harness := (true, "b46d8237164b09fcda54aaf504dde37e946514d55171d9bbb892019a6dcc23a9"), looks := false }, kinds := [], alts := [], laidByText := true, laidKinds := [.data, .data], laidTests := true, laidLooks := .later }
def LexerKindsUptoCardSaid : Prop := Claim7.holds Tryd.pinned (.plain (OpenSpec.upto lexerKindsSpec)) lexerKindsUptoCard

/-- THE SECOND FORM's CARD OF 'stilelaw02.LexerScans'. -/
def lexerScansUptoCard : Claim7 := { stood := { row := lexerScansUptoRow, standIns := [], harness := (true, "b46d8237164b09fcda54aaf504dde37e946514d55171d9bbb892019a6dcc23a9"), looks := false }, kinds := [], alts := [], laidByText := true, laidKinds := [.data, .data], laidTests := true, laidLooks := .later }
def LexerScansUptoCardSaid : Prop := Claim7.holds Tryd.pinned (.plain (OpenSpec.upto lexerScansSpec)) lexerScansUptoCard

/-- THE SECOND FORM's CARD OF 'stilelaw02.LexerEach'. -/
def lexerEachUptoCard : Claim7 := { stood := { row := lexerEachUptoRow, standIns := [], harness := (true, "b46d8237164b09fcda54aaf504dde37e946514d55171d9bbb892019a6dcc23a9"), looks := false }, kinds := [], alts := [], laidByText := true, laidKinds := [.data, .data], laidTests := true, laidLooks := .later }
def LexerEachUptoCardSaid : Prop := Claim7.holds Tryd.pinned (.plain (OpenSpec.upto lexerEachSpec)) lexerEachUptoCard

/-- THE SECOND FORM's CARD OF 'stilelaw02.LexerPrints'. -/
def lexerPrintsUptoCard : Claim7 := { stood := { row := lexerPrintsUptoRow, standIns := [], harness := (true, "b46d8237164b09fcda54aaf504dde37e946514d55171d9bbb892019a6dcc23a9"), looks := false }, kinds := [], alts := [], laidByText := true, laidKinds := [.data, .data], laidTests := true, laidLooks := .later }
def LexerPrintsUptoCardSaid : Prop := Claim7.holds Tryd.pinned (.plain (OpenSpec.upto lexerPrintsSpec)) lexerPrintsUptoCard

/-- THE SECOND FORM's CARD OF 'stilelaw02.LexerPlaces'. -/
def lexerPlacesUptoCard : Claim7 := { stood := { row := lexerPlacesUptoRow, standIns := [], harness := (true, "b46d8237164b09fcda54aaf504dde37e946514d55171d9bbb892019a6dcc23a9"), looks := false }, kinds := [], alts := [], laidByText := true, laidKinds := [.data, .data], laidTests := true, laidLooks := .later }
def LexerPlacesUptoCardSaid : Prop := Claim7.holds Tryd.pinned (.plain (OpenSpec.upto lexerPlacesSpec)) lexerPlacesUptoCard

/-- THE SECOND FORM's CARD OF 'stilelaw02.LexerBack'. -/
def lexerBackUptoCard : Claim7 := { stood := { row := lexerBackUptoRow, standIns := [], harness := (true, "b46d8237164b09fcda54aaf504dde37e946514d55171d9bbb892019a6dcc23a9"), looks := false }, kinds := [], alts := [], laidByText := true, laidKinds := [.data, .data], laidTests := true, laidLooks := .later }
def LexerBackUptoCardSaid : Prop := Claim7.holds Tryd.pinned (.plain (OpenSpec.upto lexerBackSpec)) lexerBackUptoCard

/-- THE SECOND FORM's CARD OF 'stilelaw02.LexerBlanks'. -/
def lexerBlanksUptoCard : Claim7 := { stood := { row := lexerBlanksUptoRow, standIns := [], harness := (true, "b46d8237164b09fcda54aaf504dde37e946514d55171d9bbb892019a6dcc23a9"), looks := false }, kinds := [], alts := [], laidByText := true, laidKinds := [.data, .data], laidTests := true, laidLooks := .later }
def LexerBlanksUptoCardSaid : Prop := Claim7.holds Tryd.pinned (.plain (OpenSpec.upto lexerBlanksSpec)) lexerBlanksUptoCard

/-- THE SECOND FORM's CARD OF 'stilelaw02.LexerStands'. -/
def lexerStandsUptoCard : Claim7 := { stood := { row := lexerStandsUptoRow, standIns := [], harness := (true, "b46d8237164b09fcda54aaf504dde37e946514d55171d9bbb892019a6dcc23a9"), looks := false }, kinds := [], alts := [], laidByText := true, laidKinds := [.data, .data], laidTests := true, laidLooks := .later }
def LexerStandsUptoCardSaid : Prop := Claim7.holds Tryd.pinned (.plain (OpenSpec.upto lexerStandsSpec)) lexerStandsUptoCard

/-- THE SECOND FORM's CARD OF 'stilelaw02.LexerFaults'. -/
def lexerFaultsUptoCard : Claim7 := { stood := { row := lexerFaultsUptoRow, standIns := [], harness := (true, "b46d8237164b09fcda54aaf504dde37e946514d55171d9bbb892019a6dcc23a9"), looks := false }, kinds := [], alts := [], laidByText := true, laidKinds := [.data, .data], laidTests := true, laidLooks := .later }
def LexerFaultsUptoCardSaid : Prop := Claim7.holds Tryd.pinned (.plain (OpenSpec.upto lexerFaultsSpec)) lexerFaultsUptoCard

/-- THE SECOND FORM's CARD OF 'stilelaw02.LexerPlaced'. -/
def lexerPlacedUptoCard : Claim7 := { stood := { row := lexerPlacedUptoRow, standIns := [], harness := (true, "b46d8237164b09fcda54aaf504dde37e946514d55171d9bbb892019a6dcc23a9"), looks := false }, kinds := [], alts := [], laidByText := true, laidKinds := [.data, .data], laidTests := true, laidLooks := .later }
def LexerPlacedUptoCardSaid : Prop := Claim7.holds Tryd.pinned (.plain (OpenSpec.upto lexerPlacedSpec)) lexerPlacedUptoCard

/-- THE SECOND FORM's CARD OF 'stilelaw02.LexerOwn'. -/
def lexerOwnUptoCard : Claim7 := { stood := { row := lexerOwnUptoRow, standIns := [], harness := (true, "b46d8237164b09fcda54aaf504dde37e946514d55171d9bbb892019a6dcc23a9"), looks := false }, kinds := [], alts := [], laidByText := true, laidKinds := [.data, .data], laidTests := true, laidLooks := .later }
def LexerOwnUptoCardSaid : Prop := Claim7.holds Tryd.pinned (.plain (OpenSpec.upto lexerOwnSpec)) lexerOwnUptoCard

/-- THE SECOND FORM's CARD OF 'stiletop.TopNumbers'. -/
def topNumbersUptoCard : Claim7 := { stood := { row := topNumbersUptoRow, standIns := [], harness := (true, "b46d8237164b09fcda54aaf504dde37e946514d55171d9bbb892019a6dcc23a9"), looks := false }, kinds := [], alts := [], laidByText := true, laidKinds := [.data, .data, .data, .data, .data, .data, .data], laidTests := true, laidLooks := .later }
def TopNumbersUptoCardSaid : Prop := Claim7.holds Tryd.pinned (.plain (OpenSpec.upto topNumbersSpec)) topNumbersUptoCard
end Rows
end Go.Proofs.YteedpojchapjgaaDoor
