/-
  DERIVED. GIVEN WITH THE SEED: THE CARDS: each row of YtgmcfinjlddgbaaGreatDoorRows.lean that lists a variable, with what it lists TIED to the program's text (the seventh form; the later family's looks); each row that meets fmt, with fmt's text TOLD by the authors' own Lean function (tested against real Go, not proved from fmt's source: count such statements apart). THE CARD IS WHAT COUNTS. Prove the row's statement (the work); the ties are given (YtgmcfinjlddgbaaGreatDoorTie.lean); close each card by the builder's one call (the guide's Derived/Test/ToyasCard.lean, 'card_holds'). Laid BY PROGRAM, IN A SANDBOX (cutbox-door.mjs). By AI agents, Wed Nov 11 2026. No macro, syntax, notation, axiom, sorry.
-/
import Derived.Test.YtgmcfinjlddgbaaGreatDoorRows
import GoSem.ClaimSeven
namespace Go.Proofs.YtgmcfinjlddgbaaGreatDoor
namespace Rows

/-- THE TIED CARD OF 'stilelaw16.TargetRights'. -/
def targetRightsCard : Claim7 := { stood := { row := targetRightsRow, standIns := [], harness := (true, "0a132de794e25c26b7b5b06c78aba507bb148b5992aa9503ab0b795f99461ea6"), looks := false }, kinds := [], alts := [], laidByText := true, laidKinds := [.data, .data, .data, .data, .data, .data, .data], laidTests := true, laidLooks := .later }
def TargetRightsCardSaid : Prop := Claim7.holds Tryz.pinned (.plain (OpenSpec.ofChange targetRightsSpec)) targetRightsCard

/-- THE TIED CARD OF 'stilelaw16.TargetFlows'. -/
def targetFlowsCard : Claim7 := { stood := { row := targetFlowsRow, standIns := [], harness := (true, "0a132de794e25c26b7b5b06c78aba507bb148b5992aa9503ab0b795f99461ea6"), looks := false }, kinds := [], alts := [], laidByText := true, laidKinds := [.data, .data, .data, .data, .data, .data, .data], laidTests := true, laidLooks := .later }
def TargetFlowsCardSaid : Prop := Claim7.holds Tryz.pinned (.plain (OpenSpec.ofChange targetFlowsSpec)) targetFlowsCard

/-- THE TIED CARD OF 'stilelaw16.TargetPrints'. -/
def targetPrintsCard : Claim7 := { stood := { row := targetPrintsRow, standIns := [], harness := (true, "0a132de794e25c26b7b5b06c78aba507bb148b5992aa9503ab0b795f99461ea6"), looks := false }, kinds := [], alts := [], laidByText := true, laidKinds := [.data, .data, .data, .data, .data, .data, .data], laidTests := true, laidLooks := .later }
def TargetPrintsCardSaid : Prop := Claim7.holds Tryz.pinned (.plain (OpenSpec.ofChange targetPrintsSpec)) targetPrintsCard

/-- THE TIED CARD OF 'stilelaw16.TargetBytes'. -/
def targetBytesCard : Claim7 := { stood := { row := targetBytesRow, standIns := [], harness := (true, "0a132de794e25c26b7b5b06c78aba507bb148b5992aa9503ab0b795f99461ea6"), looks := false }, kinds := [], alts := [], laidByText := true, laidKinds := [.data, .data, .data, .data, .data, .data, .data], laidTests := true, laidLooks := .later }
def TargetBytesCardSaid : Prop := Claim7.holds Tryz.pinned (.plain (OpenSpec.ofChange targetBytesSpec)) targetBytesCard

/-- THE TIED CARD OF 'stilelaw16.TargetBack'. -/
def targetBackCard : Claim7 := { stood := { row := targetBackRow, standIns := [], harness := (true, "0a132de794e25c26b7b5b06c78aba507bb148b5992aa9503ab0b795f99461ea6"), looks := false }, kinds := [], alts := [], laidByText := true, laidKinds := [.data, .data, .data, .data, .data, .data, .data], laidTests := true, laidLooks := .later }
def TargetBackCardSaid : Prop := Claim7.holds Tryz.pinned (.plain (OpenSpec.ofChange targetBackSpec)) targetBackCard

/-- THE TIED CARD OF 'stilelaw16.TargetOne'. -/
def targetOneCard : Claim7 := { stood := { row := targetOneRow, standIns := [], harness := (true, "0a132de794e25c26b7b5b06c78aba507bb148b5992aa9503ab0b795f99461ea6"), looks := false }, kinds := [], alts := [], laidByText := true, laidKinds := [.data, .data, .data, .data, .data, .data, .data], laidTests := true, laidLooks := .later }
def TargetOneCardSaid : Prop := Claim7.holds Tryz.pinned (.plain (OpenSpec.ofChange targetOneSpec)) targetOneCard

/-- THE TIED CARD OF 'stilelaw16.TargetCut'. -/
def targetCutCard : Claim7 := { stood := { row := targetCutRow, standIns := [], harness := (true, "0a132de794e25c26b7b5b06c78aba507bb148b5992aa9503ab0b795f99461ea6"), looks := false }, kinds := [], alts := [], laidByText := true, laidKinds := [.data, .data, .data, .data, .data, .data, .data], laidTests := true, laidLooks := .later }
def TargetCutCardSaid : Prop := Claim7.holds Tryz.pinned (.plain (OpenSpec.ofChange targetCutSpec)) targetCutCard

/-- THE TIED CARD OF 'stilelaw16.TargetStays'. -/
def targetStaysCard : Claim7 := { stood := { row := targetStaysRow, standIns := [], harness := (true, "0a132de794e25c26b7b5b06c78aba507bb148b5992aa9503ab0b795f99461ea6"), looks := false }, kinds := [], alts := [], laidByText := true, laidKinds := [.data, .data, .data, .data, .data, .data, .data], laidTests := true, laidLooks := .later }
def TargetStaysCardSaid : Prop := Claim7.holds Tryz.pinned (.plain (OpenSpec.ofChange targetStaysSpec)) targetStaysCard

/-- THE TIED CARD OF 'stilelaw16.TargetOwn'. -/
def targetOwnCard : Claim7 := { stood := { row := targetOwnRow, standIns := [], harness := (true, "0a132de794e25c26b7b5b06c78aba507bb148b5992aa9503ab0b795f99461ea6"), looks := false }, kinds := [], alts := [], laidByText := true, laidKinds := [.data, .data, .data, .data, .data, .data, .data], laidTests := true, laidLooks := .later }
def TargetOwnCardSaid : Prop := Claim7.holds Tryz.pinned (.plain (OpenSpec.ofChange targetOwnSpec)) targetOwnCard

/-- THE SECOND FORM's CARD OF 'stilelaw16.TargetRights'. -/
def targetRightsUptoCard : Claim7 := { stood := { row := targetRightsUptoRow, standIns := [], harness := (true, "0a132de794e25c26b7b5b06c78aba507bb148b5992aa9503ab0b795f99461ea6"), looks := false }, kinds := [], alts := [], laidByText := true, laidKinds := [.data, .data, .data, .data, .data, .data, .data], laidTests := true, laidLooks := .later }
def TargetRightsUptoCardSaid : Prop := Claim7.holds Tryz.pinned (.plain (OpenSpec.upto targetRightsSpec)) targetRightsUptoCard

/-- THE SECOND FORM's CARD OF 'stilelaw16.TargetFlows'. -/
def targetFlowsUptoCard : Claim7 := { stood := { row := targetFlowsUptoRow, standIns := [], harness := (true, "0a132de794e25c26b7b5b06c78aba507bb148b5992aa9503ab0b795f99461ea6"), looks := false }, kinds := [], alts := [], laidByText := true, laidKinds := [.data, .data, .data, .data, .data, .data, .data], laidTests := true, laidLooks := .later }
def TargetFlowsUptoCardSaid : Prop := Claim7.holds Tryz.pinned (.plain (OpenSpec.upto targetFlowsSpec)) targetFlowsUptoCard

/-- THE SECOND FORM's CARD OF 'stilelaw16.TargetPrints'. -/
def targetPrintsUptoCard : Claim7 := { stood := { row := targetPrintsUptoRow, standIns := [], harness := (true, "0a132de794e25c26b7b5b06c78aba507bb148b5992aa9503ab0b795f99461ea6"), looks := false }, kinds := [], alts := [], laidByText := true, laidKinds := [.data, .data, .data, .data, .data, .data, .data], laidTests := true, laidLooks := .later }
def TargetPrintsUptoCardSaid : Prop := Claim7.holds Tryz.pinned (.plain (OpenSpec.upto targetPrintsSpec)) targetPrintsUptoCard

/-- THE SECOND FORM's CARD OF 'stilelaw16.TargetBytes'. -/
def targetBytesUptoCard : Claim7 := { stood := { row := targetBytesUptoRow, standIns := [], harness := (true, "0a132de794e25c26b7b5b06c78aba507bb148b5992aa9503ab0b795f99461ea6"), looks := false }, kinds := [], alts := [], laidByText := true, laidKinds := [.data, .data, .data, .data, .data, .data, .data], laidTests := true, laidLooks := .later }
def TargetBytesUptoCardSaid : Prop := Claim7.holds Tryz.pinned (.plain (OpenSpec.upto targetBytesSpec)) targetBytesUptoCard

/-- THE SECOND FORM's CARD OF 'stilelaw16.TargetBack'. -/
def targetBackUptoCard : Claim7 := { stood := { row := targetBackUptoRow, standIns := [], harness := (true, "0a132de794e25c26b7b5b06c78aba507bb148b5992aa9503ab0b795f99461ea6"), looks := false }, kinds := [], alts := [], laidByText := true, laidKinds := [.data, .data, .data, .data, .data, .data, .data], laidTests := true, laidLooks := .later }
def TargetBackUptoCardSaid : Prop := Claim7.holds Tryz.pinned (.plain (OpenSpec.upto targetBackSpec)) targetBackUptoCard

/-- THE SECOND FORM's CARD OF 'stilelaw16.TargetOne'. -/
def targetOneUptoCard : Claim7 := { stood := { row := targetOneUptoRow, standIns := [], harness := (true, "0a132de794e25c26b7b5b06c78aba507bb148b5992aa9503ab0b795f99461ea6"), looks := false }, kinds := [], alts := [], laidByText := true, laidKinds := [.data, .data, .data, .data, .data, .data, .data], laidTests := true, laidLooks := .later }
def TargetOneUptoCardSaid : Prop := Claim7.holds Tryz.pinned (.plain (OpenSpec.upto targetOneSpec)) targetOneUptoCard

/-- THE SECOND FORM's CARD OF 'stilelaw16.TargetCut'. -/
def targetCutUptoCard : Claim7 := { stood := { row := targetCutUptoRow, standIns := [], harness := (true, "0a132de794e25c26b7b5b06c78aba507bb148b5992aa9503ab0b795f99461ea6"), looks := false }, kinds := [], alts := [], laidByText := true, laidKinds := [.data, .data, .data, .data, .data, .data, .data], laidTests := true, laidLooks := .later }
def TargetCutUptoCardSaid : Prop := Claim7.holds Tryz.pinned (.plain (OpenSpec.upto targetCutSpec)) targetCutUptoCard

/-- THE SECOND FORM's CARD OF 'stilelaw16.TargetStays'. -/
def targetStaysUptoCard : Claim7 := { stood := { row := targetStaysUptoRow, standIns := [], harness := (true, "0a132de794e25c26b7b5b06c78aba507bb148b5992aa9503ab0b795f99461ea6"), looks := false }, kinds := [], alts := [], laidByText := true, laidKinds := [.data, .data, .data, .data, .data, .data, .data], laidTests := true, laidLooks := .later }
def TargetStaysUptoCardSaid : Prop := Claim7.holds Tryz.pinned (.plain (OpenSpec.upto targetStaysSpec)) targetStaysUptoCard

/-- THE SECOND FORM's CARD OF 'stilelaw16.TargetOwn'. -/
def targetOwnUptoCard : Claim7 := { stood := { row := targetOwnUptoRow, standIns := [], harness := (true, "0a132de794e25c26b7b5b06c78aba507bb148b5992aa9503ab0b795f99461ea6"), looks := false }, kinds := [], alts := [], laidByText := true, laidKinds := [.data, .data, .data, .data, .data, .data, .data], laidTests := true, laidLooks := .later }
def TargetOwnUptoCardSaid : Prop := Claim7.holds Tryz.pinned (.plain (OpenSpec.upto targetOwnSpec)) targetOwnUptoCard
end Rows
end Go.Proofs.YtgmcfinjlddgbaaGreatDoor
