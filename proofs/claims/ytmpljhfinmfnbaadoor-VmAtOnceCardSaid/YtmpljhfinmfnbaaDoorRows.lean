/-
  NARROWER THAN 'FOR EVERY INPUT', by the rows' own cells (each row's printed sentence says how): VmPlays: laid · VmNil: laid · VmForks: laid · VmLocal: laid · VmFifo: laid · VmOrder: laid · VmAtOnce: laid · VmTotal: laid · VmOwn: laid.
  DERIVED. THE GIVEN ROWS OF THIS SEAT. 9 by the template 'for every input the law returns true; each argument reads behind the call as it read before'; 0 by the template 'total and deterministic' (their statements: YtmpljhfinmfnbaaDoorTotals.lean).
  GIVEN WITH THE SEED: the statements are not yours to turn. If you find one false, say at which input.
  Laid BY PROGRAM, IN A SANDBOX (cutbox-rows.mjs): the forced cells as the released guide's own fill.sh prints them over the translation 1adc7c41161ce55a… (all of the seat's roots in one cut). By AI agents, Wed Nov 11 2026. No macro, syntax, notation, axiom, sorry.
-/
import Derived.Test.YtmpljhfinmfnbaaDoorChecked
import GoSem.Claim
import GoSem.ClaimJoined
import GoSem.ClaimMapViews
import Derived.JoinedTies
import Derived.KernelRfl
namespace Go.Proofs.YtmpljhfinmfnbaaDoor
/- THE CELL 'sum', in the pinned program and in every row, IS THE sha256 OF THE DUMP (.gsa) THAT YtmpljhfinmfnbaaDoorProg.lean LOADS. Nothing in Lean hashes anything: it is a label: what it is worth is what the hold of that sum in a sandbox is worth. -/
noncomputable def Tryd.pinned : Pinned := { name := "ytmpljhfinmfnbaadoor", sum := "1adc7c41161ce55a1f02dcdc9ca410652f9f6a5861edda877d016aa4577e2f49", checked := Tryd.checked }
namespace Rows
def none {H : Type} : Left H := { results := [], args := [] }

/- WHAT THE LISTED PACKAGE-LEVEL VARIABLES READ AS WHEN THE CALL BEGINS. Each datum BY PROGRAM (the guide's laid-datum.mjs) off the statement by which the dump's own 'gosem.cut.vars' lays the variable. In a bare row this is a premise. The card (YtmpljhfinmfnbaaDoorCards.lean) ties it to the program's text. -/
def laid_stile_words_levels {H : Type} : DataW H := .agg [.lit (.int .i64 0), .lit (.int .i64 7), .lit (.int .i64 7), .lit (.int .i64 8), .lit (.int .i64 8), .lit (.int .i64 8), .lit (.int .i64 3), .lit (.int .i64 1), .lit (.int .i64 2), .lit (.int .i64 6), .lit (.int .i64 6), .lit (.int .i64 4), .lit (.int .i64 4), .lit (.int .i64 5), .lit (.int .i64 5), .lit (.int .i64 5), .lit (.int .i64 5), .lit (.int .i64 9), .lit (.int .i64 9)]
def laid_stile_lexer_languageWords {H : Type} : DataW H := .agg [.lit (.string [115, 104, 97, 114, 101, 100]), .lit (.string [108, 111, 99, 107]), .lit (.string [116, 104, 114, 101, 97, 100]), .lit (.string [108, 111, 99, 97, 108]), .lit (.string [105, 102]), .lit (.string [101, 108, 115, 101]), .lit (.string [119, 104, 105, 108, 101]), .lit (.string [112, 114, 105, 110, 116]), .lit (.string [115, 107, 105, 112]), .lit (.string [115, 119, 97, 112])]
def laid_stile_target_forms {H : Type} : DataW H := .agg [.agg [.lit (.string []), .lit (.int .u64 0)], .agg [.lit (.string [115, 101, 116]), .lit (.int .u64 66)], .agg [.lit (.string []), .lit (.int .u64 15)], .agg [.lit (.string [108, 111, 97, 100]), .lit (.int .u64 18)], .agg [.lit (.string [115, 116, 111, 114, 101]), .lit (.int .u64 20)], .agg [.lit (.string [115, 119, 97, 112]), .lit (.int .u64 18)], .agg [.lit (.string [102, 101, 110, 99, 101]), .lit (.int .u64 0)], .agg [.lit (.string [112, 114, 105, 110, 116]), .lit (.int .u64 4)], .agg [.lit (.string [106, 117, 109, 112]), .lit (.int .u64 32)], .agg [.lit (.string [122, 101, 114, 111]), .lit (.int .u64 36)], .agg [.lit (.string [104, 97, 108, 116]), .lit (.int .u64 0)]]

/-- 'stilelaw18.VmPlays': WHATEVER THE INPUT: true; the input reads as it did. -/
def vmPlaysSpec : ChangeSpec := { name := "vmPlays", fn := fun _ => fun
  | [d1, d2] => { results := [.lit (.bool true)], args := [d1, d2] }
  | _ => none }
def vmPlaysRow : OpenClaim := { program := "ytmpljhfinmfnbaadoor", sum := "1adc7c41161ce55a1f02dcdc9ca410652f9f6a5861edda877d016aa4577e2f49", func := "stile/stilelaw18.VmPlays", spec := "vmPlays", unfollowed := true, recurses := true, named := ["stile/lexer.languageWords", "stile/target.forms", "stile/words.levels"], apart := false, laid := [("stile/words.levels", laid_stile_words_levels), ("stile/lexer.languageWords", laid_stile_lexer_languageWords), ("stile/target.forms", laid_stile_target_forms)] }
def VmPlaysSaid : Prop := vmPlaysRow.holds Tryd.pinned (OpenSpec.ofChange vmPlaysSpec)

/-- ITS FALSE NEIGHBOUR: 'it returns false'. Refute it at one input. -/
def vmPlaysWrong : ChangeSpec := { name := "vmPlays", fn := fun _ => fun
  | [d1, d2] => { results := [.lit (.bool false)], args := [d1, d2] }
  | _ => none }
def VmPlaysWrongFalsely : Prop := vmPlaysRow.holds Tryd.pinned (OpenSpec.ofChange vmPlaysWrong)

/-- 'stilelaw18.VmNil': WHATEVER THE INPUT: true; the input reads as it did. -/
def vmNilSpec : ChangeSpec := { name := "vmNil", fn := fun _ => fun
  | [d1, d2] => { results := [.lit (.bool true)], args := [d1, d2] }
  | _ => none }
def vmNilRow : OpenClaim := { program := "ytmpljhfinmfnbaadoor", sum := "1adc7c41161ce55a1f02dcdc9ca410652f9f6a5861edda877d016aa4577e2f49", func := "stile/stilelaw18.VmNil", spec := "vmNil", unfollowed := true, recurses := true, named := ["stile/words.levels", "stile/lexer.languageWords", "stile/target.forms"], apart := false, laid := [("stile/words.levels", laid_stile_words_levels), ("stile/lexer.languageWords", laid_stile_lexer_languageWords), ("stile/target.forms", laid_stile_target_forms)] }
def VmNilSaid : Prop := vmNilRow.holds Tryd.pinned (OpenSpec.ofChange vmNilSpec)

/-- ITS FALSE NEIGHBOUR: 'it returns false'. Refute it at one input. -/
def vmNilWrong : ChangeSpec := { name := "vmNil", fn := fun _ => fun
  | [d1, d2] => { results := [.lit (.bool false)], args := [d1, d2] }
  | _ => none }
def VmNilWrongFalsely : Prop := vmNilRow.holds Tryd.pinned (OpenSpec.ofChange vmNilWrong)

/-- 'stilelaw18.VmForks': WHATEVER THE INPUT: true; the input reads as it did. -/
def vmForksSpec : ChangeSpec := { name := "vmForks", fn := fun _ => fun
  | [d1, d2, d3, d4] => { results := [.lit (.bool true)], args := [d1, d2, d3, d4] }
  | _ => none }
def vmForksRow : OpenClaim := { program := "ytmpljhfinmfnbaadoor", sum := "1adc7c41161ce55a1f02dcdc9ca410652f9f6a5861edda877d016aa4577e2f49", func := "stile/stilelaw18.VmForks", spec := "vmForks", unfollowed := true, recurses := true, named := ["stile/lexer.languageWords", "stile/target.forms", "stile/words.levels"], apart := false, laid := [("stile/words.levels", laid_stile_words_levels), ("stile/lexer.languageWords", laid_stile_lexer_languageWords), ("stile/target.forms", laid_stile_target_forms)] }
def VmForksSaid : Prop := vmForksRow.holds Tryd.pinned (OpenSpec.ofChange vmForksSpec)

/-- ITS FALSE NEIGHBOUR: 'it returns false'. Refute it at one input. -/
def vmForksWrong : ChangeSpec := { name := "vmForks", fn := fun _ => fun
  | [d1, d2, d3, d4] => { results := [.lit (.bool false)], args := [d1, d2, d3, d4] }
  | _ => none }
def VmForksWrongFalsely : Prop := vmForksRow.holds Tryd.pinned (OpenSpec.ofChange vmForksWrong)

/-- 'stilelaw18.VmLocal': WHATEVER THE INPUT: true; the input reads as it did. -/
def vmLocalSpec : ChangeSpec := { name := "vmLocal", fn := fun _ => fun
  | [d1, d2] => { results := [.lit (.bool true)], args := [d1, d2] }
  | _ => none }
def vmLocalRow : OpenClaim := { program := "ytmpljhfinmfnbaadoor", sum := "1adc7c41161ce55a1f02dcdc9ca410652f9f6a5861edda877d016aa4577e2f49", func := "stile/stilelaw18.VmLocal", spec := "vmLocal", unfollowed := true, recurses := true, named := ["stile/lexer.languageWords", "stile/target.forms", "stile/words.levels"], apart := false, laid := [("stile/words.levels", laid_stile_words_levels), ("stile/lexer.languageWords", laid_stile_lexer_languageWords), ("stile/target.forms", laid_stile_target_forms)] }
def VmLocalSaid : Prop := vmLocalRow.holds Tryd.pinned (OpenSpec.ofChange vmLocalSpec)

/-- ITS FALSE NEIGHBOUR: 'it returns false'. Refute it at one input. -/
def vmLocalWrong : ChangeSpec := { name := "vmLocal", fn := fun _ => fun
  | [d1, d2] => { results := [.lit (.bool false)], args := [d1, d2] }
  | _ => none }
def VmLocalWrongFalsely : Prop := vmLocalRow.holds Tryd.pinned (OpenSpec.ofChange vmLocalWrong)

/-- 'stilelaw18.VmFifo': WHATEVER THE INPUT: true; the input reads as it did. -/
def vmFifoSpec : ChangeSpec := { name := "vmFifo", fn := fun _ => fun
  | [d1, d2] => { results := [.lit (.bool true)], args := [d1, d2] }
  | _ => none }
def vmFifoRow : OpenClaim := { program := "ytmpljhfinmfnbaadoor", sum := "1adc7c41161ce55a1f02dcdc9ca410652f9f6a5861edda877d016aa4577e2f49", func := "stile/stilelaw18.VmFifo", spec := "vmFifo", unfollowed := true, recurses := true, named := ["stile/lexer.languageWords", "stile/target.forms", "stile/words.levels"], apart := false, laid := [("stile/words.levels", laid_stile_words_levels), ("stile/lexer.languageWords", laid_stile_lexer_languageWords), ("stile/target.forms", laid_stile_target_forms)] }
def VmFifoSaid : Prop := vmFifoRow.holds Tryd.pinned (OpenSpec.ofChange vmFifoSpec)

/-- ITS FALSE NEIGHBOUR: 'it returns false'. Refute it at one input. -/
def vmFifoWrong : ChangeSpec := { name := "vmFifo", fn := fun _ => fun
  | [d1, d2] => { results := [.lit (.bool false)], args := [d1, d2] }
  | _ => none }
def VmFifoWrongFalsely : Prop := vmFifoRow.holds Tryd.pinned (OpenSpec.ofChange vmFifoWrong)

/-- 'stilelaw18.VmOrder': WHATEVER THE INPUT: true; the input reads as it did. -/
def vmOrderSpec : ChangeSpec := { name := "vmOrder", fn := fun _ => fun
  | [d1, d2] => { results := [.lit (.bool true)], args := [d1, d2] }
  | _ => none }
def vmOrderRow : OpenClaim := { program := "ytmpljhfinmfnbaadoor", sum := "1adc7c41161ce55a1f02dcdc9ca410652f9f6a5861edda877d016aa4577e2f49", func := "stile/stilelaw18.VmOrder", spec := "vmOrder", unfollowed := true, recurses := true, named := ["stile/lexer.languageWords", "stile/target.forms", "stile/words.levels"], apart := false, laid := [("stile/words.levels", laid_stile_words_levels), ("stile/lexer.languageWords", laid_stile_lexer_languageWords), ("stile/target.forms", laid_stile_target_forms)] }
def VmOrderSaid : Prop := vmOrderRow.holds Tryd.pinned (OpenSpec.ofChange vmOrderSpec)

/-- ITS FALSE NEIGHBOUR: 'it returns false'. Refute it at one input. -/
def vmOrderWrong : ChangeSpec := { name := "vmOrder", fn := fun _ => fun
  | [d1, d2] => { results := [.lit (.bool false)], args := [d1, d2] }
  | _ => none }
def VmOrderWrongFalsely : Prop := vmOrderRow.holds Tryd.pinned (OpenSpec.ofChange vmOrderWrong)

/-- 'stilelaw18.VmAtOnce': WHATEVER THE INPUT: true; the input reads as it did. -/
def vmAtOnceSpec : ChangeSpec := { name := "vmAtOnce", fn := fun _ => fun
  | [d1, d2] => { results := [.lit (.bool true)], args := [d1, d2] }
  | _ => none }
def vmAtOnceRow : OpenClaim := { program := "ytmpljhfinmfnbaadoor", sum := "1adc7c41161ce55a1f02dcdc9ca410652f9f6a5861edda877d016aa4577e2f49", func := "stile/stilelaw18.VmAtOnce", spec := "vmAtOnce", unfollowed := true, recurses := true, named := ["stile/lexer.languageWords", "stile/target.forms", "stile/words.levels"], apart := false, laid := [("stile/words.levels", laid_stile_words_levels), ("stile/lexer.languageWords", laid_stile_lexer_languageWords), ("stile/target.forms", laid_stile_target_forms)] }
def VmAtOnceSaid : Prop := vmAtOnceRow.holds Tryd.pinned (OpenSpec.ofChange vmAtOnceSpec)

/-- ITS FALSE NEIGHBOUR: 'it returns false'. Refute it at one input. -/
def vmAtOnceWrong : ChangeSpec := { name := "vmAtOnce", fn := fun _ => fun
  | [d1, d2] => { results := [.lit (.bool false)], args := [d1, d2] }
  | _ => none }
def VmAtOnceWrongFalsely : Prop := vmAtOnceRow.holds Tryd.pinned (OpenSpec.ofChange vmAtOnceWrong)

/-- 'stilelaw18.VmTotal': WHATEVER THE INPUT: true; the input reads as it did. -/
def vmTotalSpec : ChangeSpec := { name := "vmTotal", fn := fun _ => fun
  | [d1, d2] => { results := [.lit (.bool true)], args := [d1, d2] }
  | _ => none }
def vmTotalRow : OpenClaim := { program := "ytmpljhfinmfnbaadoor", sum := "1adc7c41161ce55a1f02dcdc9ca410652f9f6a5861edda877d016aa4577e2f49", func := "stile/stilelaw18.VmTotal", spec := "vmTotal", unfollowed := true, recurses := true, named := ["stile/lexer.languageWords", "stile/target.forms", "stile/words.levels"], apart := false, laid := [("stile/words.levels", laid_stile_words_levels), ("stile/lexer.languageWords", laid_stile_lexer_languageWords), ("stile/target.forms", laid_stile_target_forms)] }
def VmTotalSaid : Prop := vmTotalRow.holds Tryd.pinned (OpenSpec.ofChange vmTotalSpec)

/-- ITS FALSE NEIGHBOUR: 'it returns false'. Refute it at one input. -/
def vmTotalWrong : ChangeSpec := { name := "vmTotal", fn := fun _ => fun
  | [d1, d2] => { results := [.lit (.bool false)], args := [d1, d2] }
  | _ => none }
def VmTotalWrongFalsely : Prop := vmTotalRow.holds Tryd.pinned (OpenSpec.ofChange vmTotalWrong)

/-- 'stilelaw18.VmOwn': WHATEVER THE INPUT: true; the input reads as it did. -/
def vmOwnSpec : ChangeSpec := { name := "vmOwn", fn := fun _ => fun
  | [d1, d2] => { results := [.lit (.bool true)], args := [d1, d2] }
  | _ => none }
def vmOwnRow : OpenClaim := { program := "ytmpljhfinmfnbaadoor", sum := "1adc7c41161ce55a1f02dcdc9ca410652f9f6a5861edda877d016aa4577e2f49", func := "stile/stilelaw18.VmOwn", spec := "vmOwn", unfollowed := true, recurses := true, named := ["stile/lexer.languageWords", "stile/target.forms", "stile/words.levels"], apart := false, laid := [("stile/words.levels", laid_stile_words_levels), ("stile/lexer.languageWords", laid_stile_lexer_languageWords), ("stile/target.forms", laid_stile_target_forms)] }
def VmOwnSaid : Prop := vmOwnRow.holds Tryd.pinned (OpenSpec.ofChange vmOwnSpec)

/-- ITS FALSE NEIGHBOUR: 'it returns false'. Refute it at one input. -/
def vmOwnWrong : ChangeSpec := { name := "vmOwn", fn := fun _ => fun
  | [d1, d2] => { results := [.lit (.bool false)], args := [d1, d2] }
  | _ => none }
def VmOwnWrongFalsely : Prop := vmOwnRow.holds Tryd.pinned (OpenSpec.ofChange vmOwnWrong)

/- THE SECOND FORM. 'bulk': how many values and letters a reading holds, each counted each time it is reached (what is shared counts as often as it is met; a slice's spare places count too). A statement '..UptoSaid' is the law's where the arguments, and the package variables that the reading takes, are together of bulk at most 1048576: NARROWER than '..Said'. Prove '..Said' where nothing that the law and all that it calls make is longer than what came in: it says more and counts as full. Else prove '..UptoSaid'. A law counts once. -/
mutual
def uptoBulk {H : Type} : DataW H → Nat
  | .lit (.string bytes) => bytes.length + 1
  | .lit _ => 1
  | .nil => 1
  | .ptr d => uptoBulk d + 1
  | .slice elems spare => uptoBulkAll elems + uptoBulkAll spare + 1
  | .agg parts => uptoBulkAll parts + 1
  | .iface _ d => uptoBulk d + 1
  | .map entries => uptoBulkEntries entries + 1
  | .held _ => 1
def uptoBulkAll {H : Type} : List (DataW H) → Nat
  | [] => 0
  | d :: r => uptoBulk d + uptoBulkAll r
def uptoBulkEntries {H : Type} : List (Lit × DataW H) → Nat
  | [] => 0
  | x :: r => uptoBulkEntry x + uptoBulkEntries r
def uptoBulkEntry {H : Type} : Lit × DataW H → Nat
  | (.string bytes, d) => bytes.length + uptoBulk d + 1
  | (_, d) => uptoBulk d + 1
 end
def uptoSmall : (H : Type) → List (DataW H) → Bool := fun _ ds => decide (uptoBulkAll ds ≤ 1048576)
def OpenSpec.upto (s : _root_.Go.ChangeSpec) : _root_.Go.OpenSpec := { _root_.Go.OpenSpec.ofChange s with cond := some uptoSmall }

/-- 'stilelaw18.VmPlays', WHERE WHAT IT READS IS OF BULK AT MOST 1048576: true; the input reads as it did. -/
def vmPlaysUptoRow : OpenClaim := { program := "ytmpljhfinmfnbaadoor", sum := "1adc7c41161ce55a1f02dcdc9ca410652f9f6a5861edda877d016aa4577e2f49", func := "stile/stilelaw18.VmPlays", spec := "vmPlays", unfollowed := true, recurses := true, named := ["stile/lexer.languageWords", "stile/target.forms", "stile/words.levels"], apart := false, laid := [("stile/words.levels", laid_stile_words_levels), ("stile/lexer.languageWords", laid_stile_lexer_languageWords), ("stile/target.forms", laid_stile_target_forms)], narrowed := true }
def VmPlaysUptoSaid : Prop := vmPlaysUptoRow.holds Tryd.pinned (OpenSpec.upto vmPlaysSpec)

/-- 'stilelaw18.VmNil', WHERE WHAT IT READS IS OF BULK AT MOST 1048576: true; the input reads as it did. -/
def vmNilUptoRow : OpenClaim := { program := "ytmpljhfinmfnbaadoor", sum := "1adc7c41161ce55a1f02dcdc9ca410652f9f6a5861edda877d016aa4577e2f49", func := "stile/stilelaw18.VmNil", spec := "vmNil", unfollowed := true, recurses := true, named := ["stile/words.levels", "stile/lexer.languageWords", "stile/target.forms"], apart := false, laid := [("stile/words.levels", laid_stile_words_levels), ("stile/lexer.languageWords", laid_stile_lexer_languageWords), ("stile/target.forms", laid_stile_target_forms)], narrowed := true }
def VmNilUptoSaid : Prop := vmNilUptoRow.holds Tryd.pinned (OpenSpec.upto vmNilSpec)

/-- 'stilelaw18.VmForks', WHERE WHAT IT READS IS OF BULK AT MOST 1048576: true; the input reads as it did. -/
def vmForksUptoRow : OpenClaim := { program := "ytmpljhfinmfnbaadoor", sum := "1adc7c41161ce55a1f02dcdc9ca410652f9f6a5861edda877d016aa4577e2f49", func := "stile/stilelaw18.VmForks", spec := "vmForks", unfollowed := true, recurses := true, named := ["stile/lexer.languageWords", "stile/target.forms", "stile/words.levels"], apart := false, laid := [("stile/words.levels", laid_stile_words_levels), ("stile/lexer.languageWords", laid_stile_lexer_languageWords), ("stile/target.forms", laid_stile_target_forms)], narrowed := true }
def VmForksUptoSaid : Prop := vmForksUptoRow.holds Tryd.pinned (OpenSpec.upto vmForksSpec)

/-- 'stilelaw18.VmLocal', WHERE WHAT IT READS IS OF BULK AT MOST 1048576: true; the input reads as it did. -/
def vmLocalUptoRow : OpenClaim := { program := "ytmpljhfinmfnbaadoor", sum := "1adc7c41161ce55a1f02dcdc9ca410652f9f6a5861edda877d016aa4577e2f49", func := "stile/stilelaw18.VmLocal", spec := "vmLocal", unfollowed := true, recurses := true, named := ["stile/lexer.languageWords", "stile/target.forms", "stile/words.levels"], apart := false, laid := [("stile/words.levels", laid_stile_words_levels), ("stile/lexer.languageWords", laid_stile_lexer_languageWords), ("stile/target.forms", laid_stile_target_forms)], narrowed := true }
def VmLocalUptoSaid : Prop := vmLocalUptoRow.holds Tryd.pinned (OpenSpec.upto vmLocalSpec)

/-- 'stilelaw18.VmFifo', WHERE WHAT IT READS IS OF BULK AT MOST 1048576: true; the input reads as it did. -/
def vmFifoUptoRow : OpenClaim := { program := "ytmpljhfinmfnbaadoor", sum := "1adc7c41161ce55a1f02dcdc9ca410652f9f6a5861edda877d016aa4577e2f49", func := "stile/stilelaw18.VmFifo", spec := "vmFifo", unfollowed := true, recurses := true, named := ["stile/lexer.languageWords", "stile/target.forms", "stile/words.levels"], apart := false, laid := [("stile/words.levels", laid_stile_words_levels), ("stile/lexer.languageWords", laid_stile_lexer_languageWords), ("stile/target.forms", laid_stile_target_forms)], narrowed := true }
def VmFifoUptoSaid : Prop := vmFifoUptoRow.holds Tryd.pinned (OpenSpec.upto vmFifoSpec)

/-- 'stilelaw18.VmOrder', WHERE WHAT IT READS IS OF BULK AT MOST 1048576: true; the input reads as it did. -/
def vmOrderUptoRow : OpenClaim := { program := "ytmpljhfinmfnbaadoor", sum := "1adc7c41161ce55a1f02dcdc9ca410652f9f6a5861edda877d016aa4577e2f49", func := "stile/stilelaw18.VmOrder", spec := "vmOrder", unfollowed := true, recurses := true, named := ["stile/lexer.languageWords", "stile/target.forms", "stile/words.levels"], apart := false, laid := [("stile/words.levels", laid_stile_words_levels), ("stile/lexer.languageWords", laid_stile_lexer_languageWords), ("stile/target.forms", laid_stile_target_forms)], narrowed := true }
def VmOrderUptoSaid : Prop := vmOrderUptoRow.holds Tryd.pinned (OpenSpec.upto vmOrderSpec)

/-- 'stilelaw18.VmAtOnce', WHERE WHAT IT READS IS OF BULK AT MOST 1048576: true; the input reads as it did. -/
def vmAtOnceUptoRow : OpenClaim := { program := "ytmpljhfinmfnbaadoor", sum := "1adc7c41161ce55a1f02dcdc9ca410652f9f6a5861edda877d016aa4577e2f49", func := "stile/stilelaw18.VmAtOnce", spec := "vmAtOnce", unfollowed := true, recurses := true, named := ["stile/lexer.languageWords", "stile/target.forms", "stile/words.levels"], apart := false, laid := [("stile/words.levels", laid_stile_words_levels), ("stile/lexer.languageWords", laid_stile_lexer_languageWords), ("stile/target.forms", laid_stile_target_forms)], narrowed := true }
def VmAtOnceUptoSaid : Prop := vmAtOnceUptoRow.holds Tryd.pinned (OpenSpec.upto vmAtOnceSpec)

/-- 'stilelaw18.VmTotal', WHERE WHAT IT READS IS OF BULK AT MOST 1048576: true; the input reads as it did. -/
def vmTotalUptoRow : OpenClaim := { program := "ytmpljhfinmfnbaadoor", sum := "1adc7c41161ce55a1f02dcdc9ca410652f9f6a5861edda877d016aa4577e2f49", func := "stile/stilelaw18.VmTotal", spec := "vmTotal", unfollowed := true, recurses := true, named := ["stile/lexer.languageWords", "stile/target.forms", "stile/words.levels"], apart := false, laid := [("stile/words.levels", laid_stile_words_levels), ("stile/lexer.languageWords", laid_stile_lexer_languageWords), ("stile/target.forms", laid_stile_target_forms)], narrowed := true }
def VmTotalUptoSaid : Prop := vmTotalUptoRow.holds Tryd.pinned (OpenSpec.upto vmTotalSpec)

/-- 'stilelaw18.VmOwn', WHERE WHAT IT READS IS OF BULK AT MOST 1048576: true; the input reads as it did. -/
def vmOwnUptoRow : OpenClaim := { program := "ytmpljhfinmfnbaadoor", sum := "1adc7c41161ce55a1f02dcdc9ca410652f9f6a5861edda877d016aa4577e2f49", func := "stile/stilelaw18.VmOwn", spec := "vmOwn", unfollowed := true, recurses := true, named := ["stile/lexer.languageWords", "stile/target.forms", "stile/words.levels"], apart := false, laid := [("stile/words.levels", laid_stile_words_levels), ("stile/lexer.languageWords", laid_stile_lexer_languageWords), ("stile/target.forms", laid_stile_target_forms)], narrowed := true }
def VmOwnUptoSaid : Prop := vmOwnUptoRow.holds Tryd.pinned (OpenSpec.upto vmOwnSpec)

end Rows
end Go.Proofs.YtmpljhfinmfnbaaDoor
