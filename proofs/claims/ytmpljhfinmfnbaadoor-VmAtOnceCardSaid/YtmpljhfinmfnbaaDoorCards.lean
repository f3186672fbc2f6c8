/-
  DERIVED. GIVEN WITH THE SEED: THE CARDS: each row of YtmpljhfinmfnbaaDoorRows.lean that lists a variable, with what it lists TIED to the program's text (the seventh form; the later family's looks); each row that meets fmt, with fmt's text TOLD by the authors' own Lean function (tested against real Go, not proved from fmt's source: count such statements apart). THE CARD IS WHAT COUNTS. Prove the row's statement (the work); the ties are given (YtmpljhfinmfnbaaDoorTie.lean); close each card by the builder's one call (the guide's Derived/Test/ToyasCard.lean, 'card_holds'). Laid BY PROGRAM, IN A SANDBOX (cutbox-door.mjs). By AI agents, Wed Nov 11 2026. No macro, syntax, notation, axiom, sorry.
-/
import Derived.Test.YtmpljhfinmfnbaaDoorRows
import GoSem.ClaimSeven
namespace Go.Proofs.YtmpljhfinmfnbaaDoor
namespace Rows

/-- THE TIED CARD OF 'stilelaw18.VmPlays'. -/
def vmPlaysCard : Claim7 := { stood := { row := vmPlaysRow, standIns := [], harness := (true, "05b5aebafb2d257498fdce8bb22135cad1f09461803a1a9420339f09e7a7d7d7"), looks := false }, kinds := [], alts := [], laidByText := true, laidKinds := [.data, .data, .data], laidTests := true, laidLooks := .later }
def VmPlaysCardSaid : Prop := Claim7.holds Tryd.pinned (.plain (OpenSpec.ofChange vmPlaysSpec)) vmPlaysCard

/-- THE TIED CARD OF 'stilelaw18.VmNil'. -/
def vmNilCard : Claim7 := { stood := { row := vmNilRow, standIns := [], harness := (true, "05b5aebafb2d257498fdce8bb22135cad1f09461803a1a9420339f09e7a7d7d7"), looks := false }, kinds := [], alts := [], laidByText := true, laidKinds := [.data, .data, .data], laidTests := true, laidLooks := .later }
def VmNilCardSaid : Prop := Claim7.holds Tryd.pinned (.plain (OpenSpec.ofChange vmNilSpec)) vmNilCard

/-- THE TIED CARD OF 'stilelaw18.VmForks'. -/
def vmForksCard : Claim7 := { stood := { row := vmForksRow, standIns := [], harness := (true, "05b5aebafb2d257498fdce8bb22135cad1f09461803a1a9420339f09e7a7d7d7"), looks := false }, kinds := [], alts := [], laidByText := true, laidKinds := [.data, .data, .data], laidTests := true, laidLooks := .later }
def VmForksCardSaid : Prop := Claim7.holds Tryd.pinned (.plain (OpenSpec.ofChange vmForksSpec)) vmForksCard

/-- THE TIED CARD OF 'stilelaw18.VmLocal'. -/
def vmLocalCard : Claim7 := { stood := { row := vmLocalRow, standIns := [], harness := (true, "05b5aebafb2d257498fdce8bb22135cad1f09461803a1a9420339f09e7a7d7d7"), looks := false }, kinds := [], alts := [], laidByText := true, laidKinds := [.data, .data, .data], laidTests := true, laidLooks := .later }
def VmLocalCardSaid : Prop := Claim7.holds Tryd.pinned (.plain (OpenSpec.ofChange vmLocalSpec)) vmLocalCard

/-- THE TIED CARD OF 'stilelaw18.VmFifo'. -/
def vmFifoCard : Claim7 := { stood := { row := vmFifoRow, standIns := [], harness := (true, "05b5aebafb2d257498fdce8bb22135cad1f09461803a1a9420339f09e7a7d7d7"), looks := false }, kinds := [], alts := [], laidByText := true, laidKinds := [.data, .data, .data], laidTests := true, laidLooks := .later }
def VmFifoCardSaid : Prop := Claim7.holds Tryd.pinned (.plain (OpenSpec.ofChange vmFifoSpec)) vmFifoCard

/-- THE TIED CARD OF 'stilelaw18.VmOrder'. -/
def vmOrderCard : Claim7 := { stood := { row := vmOrderRow, standIns := [], harness := (true, "05b5aebafb2d257498fdce8bb22135cad1f09461803a1a9420339f09e7a7d7d7"), looks := false }, kinds := [], alts := [], laidByText := true, laidKinds := [.data, .data, .data], laidTests := true, laidLooks := .later }
def VmOrderCardSaid : Prop := Claim7.holds Tryd.pinned (.plain (OpenSpec.ofChange vmOrderSpec)) vmOrderCard

/-- THE TIED CARD OF 'stilelaw18.VmAtOnce'. -/
def vmAtOnceCard : Claim7 := { stood := { row := vmAtOnceRow, standIns := [], harness := (true, "05b5aebafb2d257498fdce8bb22135cad1f09461803a1a9420339f09e7a7d7d7"), looks := false }, kinds := [], alts := [], laidByText := true, laidKinds := [.data, .data, .data], laidTests := true, laidLooks := .later }
def VmAtOnceCardSaid : Prop := Claim7.holds Tryd.pinned (.plain (OpenSpec.ofChange vmAtOnceSpec)) vmAtOnceCard

/-- THE TIED CARD OF 'stilelaw18.VmTotal'. -/
def vmTotalCard : Claim7 := { stood := { row := vmTotalRow, standIns := [], harness := (true, "05b5aebafb2d257498fdce8bb22135cad1f09461803a1a9420339f09e7a7d7d7"), looks := false }, kinds := [], alts := [], laidByText := true, laidKinds := [.data, .data, .data], laidTests := true, laidLooks := .later }
def VmTotalCardSaid : Prop := Claim7.holds Tryd.pinned (.plain (OpenSpec.ofChange vmTotalSpec)) vmTotalCard

/-- THE TIED CARD OF 'stilelaw18.VmOwn'. -/
def vmOwnCard : Claim7 := { stood := { row := vmOwnRow, standIns := [], harness := (true, "05b5aebafb2d257498fdce8bb22135cad1f09461803a1a9420339f09e7a7d7d7"), looks := false }, kinds := [], alts := [], laidByText := true, laidKinds := [.data, .data, .data], laidTests := true, laidLooks := .later }
def VmOwnCardSaid : Prop := Claim7.holds Tryd.pinned (.plain (OpenSpec.ofChange vmOwnSpec)) vmOwnCard

/-- THE SECOND FORM's CARD OF 'stilelaw18.VmPlays'. -/
def vmPlaysUptoCard : Claim7 := { stood := { row := vmPlaysUptoRow, standIns := [], harness := (true, "05b5aebafb2d257498fdce8bb22135cad1f09461803a1a9420339f09e7a7d7d7"), looks := false }, kinds := [], alts := [], laidByText := true, laidKinds := [.data, .data, .data], laidTests := true, laidLooks := .later }
def VmPlaysUptoCardSaid : Prop := Claim7.holds Tryd.pinned (.plain (OpenSpec.upto vmPlaysSpec)) vmPlaysUptoCard

/-- THE SECOND FORM's CARD OF 'stilelaw18.VmNil'. -/
def vmNilUptoCard : Claim7 := { stood := { row := vmNilUptoRow, standIns := [], harness := (true, "05b5aebafb2d257498fdce8bb22135cad1f09461803a1a9420339f09e7a7d7d7"), looks := false }, kinds := [], alts := [], laidByText := true, laidKinds := [.data, .data, .data], laidTests := true, laidLooks := .later }
def VmNilUptoCardSaid : Prop := Claim7.holds Tryd.pinned (.plain (OpenSpec.upto vmNilSpec)) vmNilUptoCard

/-- THE SECOND FORM's CARD OF 'stilelaw18.VmForks'. -/
def vmForksUptoCard : Claim7 := { stood := { row := vmForksUptoRow, standIns := [], harness := (true, "05b5aebafb2d257498fdce8bb22135cad1f09461803a1a9420339f09e7a7d7d7"), looks := false }, kinds := [], alts := [], laidByText := true, laidKinds := [.data, .data, .data], laidTests := true, laidLooks := .later }
def VmForksUptoCardSaid : Prop := Claim7.holds Tryd.pinned (.plain (OpenSpec.upto vmForksSpec)) vmForksUptoCard

/-- THE SECOND FORM's CARD OF 'stilelaw18.VmLocal'. -/
def vmLocalUptoCard : Claim7 := { stood := { row := vmLocalUptoRow, standIns := [], harness := (true, "05b5aebafb2d257498fdce8bb22135cad1f09461803a1a9420339f09e7a7d7d7"), looks := false }, kinds := [], alts := [], laidByText := true, laidKinds := [.data, .data, .data], laidTests := true, laidLooks := .later }
def VmLocalUptoCardSaid : Prop := Claim7.holds Tryd.pinned (.plain (OpenSpec.upto vmLocalSpec)) vmLocalUptoCard

/-- THE SECOND FORM's CARD OF 'stilelaw18.VmFifo'. -/
def vmFifoUptoCard : Claim7 := { stood := { row := vmFifoUptoRow, standIns := [], harness := (true, "05b5aebafb2d257498fdce8bb22135cad1f09461803a1a9420339f09e7a7d7d7"), looks := false }, kinds := [], alts := [], laidByText := true, laidKinds := [.data, .data, .data], laidTests := true, laidLooks := .later }
def VmFifoUptoCardSaid : Prop := Claim7.holds Tryd.pinned (.plain (OpenSpec.upto vmFifoSpec)) vmFifoUptoCard

/-- THE SECOND FORM's CARD OF 'stilelaw18.VmOrder'. -/
def vmOrderUptoCard : Claim7 := { stood := { row := vmOrderUptoRow, standIns := [], harness := (true, "05b5aebafb2d257498fdce8bb22135cad1f09461803a1a9420339f09e7a7d7d7"), looks := false }, kinds := [], alts := [], laidByText := true, laidKinds := [.data, .data, .data], laidTests := true, laidLooks := .later }
def VmOrderUptoCardSaid : Prop := Claim7.holds Tryd.pinned (.plain (OpenSpec.upto vmOrderSpec)) vmOrderUptoCard

/-- THE SECOND FORM's CARD OF 'stilelaw18.VmAtOnce'. -/
def vmAtOnceUptoCard : Claim7 := { stood := { row := vmAtOnceUptoRow, standIns := [], harness := (true, "05b5aebafb2d257498fdce8bb22135cad1f09461803a1a9420339f09e7a7d7d7"), looks := false }, kinds := [], alts := [], laidByText := true, laidKinds := [.data, .data, .data], laidTests := true, laidLooks := .later }
def VmAtOnceUptoCardSaid : Prop := Claim7.holds Tryd.pinned (.plain (OpenSpec.upto vmAtOnceSpec)) vmAtOnceUptoCard

/-- THE SECOND FORM's CARD OF 'stilelaw18.VmTotal'. -/
def vmTotalUptoCard : Claim7 := { stood := { row := vmTotalUptoRow, standIns := [], harness := (true, "05b5aebafb2d257498fdce8bb22135cad1f09461803a1a9420339f09e7a7d7d7"), looks := false }, kinds := [], alts := [], laidByText := true, laidKinds := [.data, .data, .data], laidTests := true, laidLooks := .later }
def VmTotalUptoCardSaid : Prop := Claim7.holds Tryd.pinned (.plain (OpenSpec.upto vmTotalSpec)) vmTotalUptoCard

/-- THE SECOND FORM's CARD OF 'stilelaw18.VmOwn'. -/
def vmOwnUptoCard : Claim7 := { stood := { row := vmOwnUptoRow, standIns := [], harness := (true, "05b5aebafb2d257498fdce8bb22135cad1f09461803a1a9420339f09e7a7d7d7"), looks := false }, kinds := [], alts := [], laidByText := true, laidKinds := [.data, .data, .data], laidTests := true, laidLooks := .later }
def VmOwnUptoCardSaid : Prop := Claim7.holds Tryd.pinned (.plain (OpenSpec.upto vmOwnSpec)) vmOwnUptoCard
end Rows
end Go.Proofs.YtmpljhfinmfnbaaDoor
