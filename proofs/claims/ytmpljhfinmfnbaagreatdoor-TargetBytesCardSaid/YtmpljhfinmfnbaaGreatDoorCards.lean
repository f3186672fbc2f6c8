/-
  DERIVED. GIVEN WITH THE SEED: THE CARDS: each row of YtmpljhfinmfnbaaGreatDoorRows.lean that lists a variable, with what it lists TIED to the program's text (the seventh form; the later family's looks); each row that meets fmt, with fmt's text TOLD by the authors' own Lean function (tested against real Go, not proved from fmt's source: count such statements apart). THE CARD IS WHAT COUNTS. Prove the row's statement (the work); the ties are given (YtmpljhfinmfnbaaGreatDoorTie.lean); close each card by the builder's one call (the guide's Derived/Test/ToyasCard.lean, 'card_holds'). Laid BY PROGRAM, IN A SANDBOX (cutbox-door.mjs). By AI agents, Wed Nov 11 2026. No macro, syntax, notation, axiom, sorry.
-/
import Derived.Test.YtmpljhfinmfnbaaGreatDoorRows
import GoSem.ClaimSeven
namespace Go.Proofs.YtmpljhfinmfnbaaGreatDoor
namespace Rows

/-- THE TIED CARD OF 'stilelaw16.TargetBytes'. -/
def targetBytesCard : Claim7 := { stood := { row := targetBytesRow, standIns := [], harness := (true, "372a4ce49367e89353dca7a30dbd1d6ebac57c3bbcdc16012548ee0158d86944"), looks := false }, kinds := [], alts := [], laidByText := true, laidKinds := [.data, .data, .data, .data, .data, .data, .data], laidTests := true, laidLooks := .later }
def TargetBytesCardSaid : Prop := Claim7.holds Tryz.pinned (.plain (OpenSpec.ofChange targetBytesSpec)) targetBytesCard

/-- THE TIED CARD OF 'stilelaw18.VmSteps'. -/
def vmStepsCard : Claim7 := { stood := { row := vmStepsRow, standIns := [], harness := (true, "372a4ce49367e89353dca7a30dbd1d6ebac57c3bbcdc16012548ee0158d86944"), looks := false }, kinds := [], alts := [], laidByText := true, laidKinds := [.data, .data, .data], laidTests := true, laidLooks := .later }
def VmStepsCardSaid : Prop := Claim7.holds Tryz.pinned (.plain (OpenSpec.ofChange vmStepsSpec)) vmStepsCard

/-- THE SECOND FORM's CARD OF 'stilelaw16.TargetBytes'. -/
def targetBytesUptoCard : Claim7 := { stood := { row := targetBytesUptoRow, standIns := [], harness := (true, "372a4ce49367e89353dca7a30dbd1d6ebac57c3bbcdc16012548ee0158d86944"), looks := false }, kinds := [], alts := [], laidByText := true, laidKinds := [.data, .data, .data, .data, .data, .data, .data], laidTests := true, laidLooks := .later }
def TargetBytesUptoCardSaid : Prop := Claim7.holds Tryz.pinned (.plain (OpenSpec.upto targetBytesSpec)) targetBytesUptoCard

/-- THE SECOND FORM's CARD OF 'stilelaw18.VmSteps'. -/
def vmStepsUptoCard : Claim7 := { stood := { row := vmStepsUptoRow, standIns := [], harness := (true, "372a4ce49367e89353dca7a30dbd1d6ebac57c3bbcdc16012548ee0158d86944"), looks := false }, kinds := [], alts := [], laidByText := true, laidKinds := [.data, .data, .data], laidTests := true, laidLooks := .later }
def VmStepsUptoCardSaid : Prop := Claim7.holds Tryz.pinned (.plain (OpenSpec.upto vmStepsSpec)) vmStepsUptoCard
end Rows
end Go.Proofs.YtmpljhfinmfnbaaGreatDoor
