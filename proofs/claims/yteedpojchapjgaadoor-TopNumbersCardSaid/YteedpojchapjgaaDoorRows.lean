/-
  NARROWER THAN 'FOR EVERY INPUT', by the rows' own cells (each row's printed sentence says how): LexerKinds: laid · LexerScans: laid · LexerEach: laid · LexerPrints: laid · LexerPlaces: laid · LexerBack: laid · LexerBlanks: laid · LexerStands: laid · LexerFaults: laid · LexerPlaced: laid · LexerOwn: laid · TopNumbers: laid.
  DERIVED. THE GIVEN ROWS OF THIS SEAT. 12 by the template 'for every input the law returns true; each argument reads behind the call as it read before'; 0 by the template 'total and deterministic' (their statements: YteedpojchapjgaaDoorTotals.lean).
  GIVEN WITH THE SEED: the statements are not yours to turn. If you find one false, say at which input.
  Laid BY PROGRAM, IN A SANDBOX (cutbox-rows.mjs): the forced cells as the released guide's own fill.sh prints them over the translation 97b1b519919cb995… (all of the seat's roots in one cut). By AI agents, Wed Nov 11 2026. No macro, syntax, notation, axiom, sorry.
-/
import Derived.Test.YteedpojchapjgaaDoorChecked
import GoSem.Claim
import GoSem.ClaimJoined
import GoSem.ClaimMapViews
import Derived.JoinedTies
import Derived.KernelRfl
namespace Go.Proofs.YteedpojchapjgaaDoor
/- THE CELL 'sum', in the pinned program and in every row, IS THE sha256 OF THE DUMP (.gsa) THAT YteedpojchapjgaaDoorProg.lean LOADS. Nothing in Lean hashes anything: it is a label: what it is worth is what the hold of that sum in a sandbox is worth. -/
noncomputable def Tryd.pinned : Pinned := { name := "yteedpojchapjgaadoor", sum := "97b1b519919cb995345acbf84103b377966f168790b0221d6e4f7a3a47ef96d2", checked := Tryd.checked }
namespace Rows
def none {H : Type} : Left H := { results := [], args := [] }

/- WHAT THE LISTED PACKAGE-LEVEL VARIABLES READ AS WHEN THE CALL BEGINS. Each datum BY PROGRAM (the guide's laid-datum.mjs) off the statement by which the dump's own 'gosem.cut.vars' lays the variable. In a bare row this is a premise. The card (YteedpojchapjgaaDoorCards.lean) ties it to the program's text. -/
def laid_stile_lexer_languageWords {H : Type} : DataW H := .agg [.lit (.string [115, 104, 97, 114, 101, 100]), .lit (.string [108, 111, 99, 107]), .lit (.string [116, 104, 114, 101, 97, 100]), .lit (.string [108, 111, 99, 97, 108]), .lit (.string [105, 102]), .lit (.string [101, 108, 115, 101]), .lit (.string [119, 104, 105, 108, 101]), .lit (.string [112, 114, 105, 110, 116]), .lit (.string [115, 107, 105, 112]), .lit (.string [115, 119, 97, 112])]
def laid_stile_lexer_longSigns {H : Type} : DataW H := .agg [.lit (.string [61, 61]), .lit (.string [33, 61]), .lit (.string [60, 61]), .lit (.string [62, 61]), .lit (.string [60, 60]), .lit (.string [62, 62])]
def laid_math_bits_deBruijn32tab {H : Type} : DataW H := .agg [.lit (.int .u8 0), .lit (.int .u8 1), .lit (.int .u8 28), .lit (.int .u8 2), .lit (.int .u8 29), .lit (.int .u8 14), .lit (.int .u8 24), .lit (.int .u8 3), .lit (.int .u8 30), .lit (.int .u8 22), .lit (.int .u8 20), .lit (.int .u8 15), .lit (.int .u8 25), .lit (.int .u8 17), .lit (.int .u8 4), .lit (.int .u8 8), .lit (.int .u8 31), .lit (.int .u8 27), .lit (.int .u8 13), .lit (.int .u8 23), .lit (.int .u8 21), .lit (.int .u8 19), .lit (.int .u8 16), .lit (.int .u8 7), .lit (.int .u8 26), .lit (.int .u8 12), .lit (.int .u8 18), .lit (.int .u8 6), .lit (.int .u8 11), .lit (.int .u8 5), .lit (.int .u8 10), .lit (.int .u8 9)]
def laid_math_bits_deBruijn64tab {H : Type} : DataW H := .agg [.lit (.int .u8 0), .lit (.int .u8 1), .lit (.int .u8 56), .lit (.int .u8 2), .lit (.int .u8 57), .lit (.int .u8 49), .lit (.int .u8 28), .lit (.int .u8 3), .lit (.int .u8 61), .lit (.int .u8 58), .lit (.int .u8 42), .lit (.int .u8 50), .lit (.int .u8 38), .lit (.int .u8 29), .lit (.int .u8 17), .lit (.int .u8 4), .lit (.int .u8 62), .lit (.int .u8 47), .lit (.int .u8 59), .lit (.int .u8 36), .lit (.int .u8 45), .lit (.int .u8 43), .lit (.int .u8 51), .lit (.int .u8 22), .lit (.int .u8 53), .lit (.int .u8 39), .lit (.int .u8 33), .lit (.int .u8 30), .lit (.int .u8 24), .lit (.int .u8 18), .lit (.int .u8 12), .lit (.int .u8 5), .lit (.int .u8 63), .lit (.int .u8 55), .lit (.int .u8 48), .lit (.int .u8 27), .lit (.int .u8 60), .lit (.int .u8 41), .lit (.int .u8 37), .lit (.int .u8 16), .lit (.int .u8 46), .lit (.int .u8 35), .lit (.int .u8 44), .lit (.int .u8 21), .lit (.int .u8 52), .lit (.int .u8 32), .lit (.int .u8 23), .lit (.int .u8 11), .lit (.int .u8 54), .lit (.int .u8 26), .lit (.int .u8 40), .lit (.int .u8 15), .lit (.int .u8 34), .lit (.int .u8 20), .lit (.int .u8 31), .lit (.int .u8 10), .lit (.int .u8 25), .lit (.int .u8 14), .lit (.int .u8 19), .lit (.int .u8 9), .lit (.int .u8 13), .lit (.int .u8 8), .lit (.int .u8 7), .lit (.int .u8 6)]
def laid_internal_strconv_uint64pow10 {H : Type} : DataW H := .agg [.lit (.int .u64 1), .lit (.int .u64 10), .lit (.int .u64 100), .lit (.int .u64 1000), .lit (.int .u64 10000), .lit (.int .u64 100000), .lit (.int .u64 1000000), .lit (.int .u64 10000000), .lit (.int .u64 100000000), .lit (.int .u64 1000000000), .lit (.int .u64 10000000000), .lit (.int .u64 100000000000), .lit (.int .u64 1000000000000), .lit (.int .u64 10000000000000), .lit (.int .u64 100000000000000), .lit (.int .u64 1000000000000000), .lit (.int .u64 10000000000000000), .lit (.int .u64 100000000000000000), .lit (.int .u64 1000000000000000000), .lit (.int .u64 10000000000000000000)]
def laid_stile_words_levels {H : Type} : DataW H := .agg [.lit (.int .i64 0), .lit (.int .i64 7), .lit (.int .i64 7), .lit (.int .i64 8), .lit (.int .i64 8), .lit (.int .i64 8), .lit (.int .i64 3), .lit (.int .i64 1), .lit (.int .i64 2), .lit (.int .i64 6), .lit (.int .i64 6), .lit (.int .i64 4), .lit (.int .i64 4), .lit (.int .i64 5), .lit (.int .i64 5), .lit (.int .i64 5), .lit (.int .i64 5), .lit (.int .i64 9), .lit (.int .i64 9)]
def laid_stile_words_signs {H : Type} : DataW H := .agg [.lit (.string []), .lit (.string [43]), .lit (.string [45]), .lit (.string [42]), .lit (.string [47]), .lit (.string [37]), .lit (.string [38]), .lit (.string [124]), .lit (.string [94]), .lit (.string [60, 60]), .lit (.string [62, 62]), .lit (.string [61, 61]), .lit (.string [33, 61]), .lit (.string [60]), .lit (.string [60, 61]), .lit (.string [62]), .lit (.string [62, 61]), .lit (.string [45]), .lit (.string [33])]

/-- 'stilelaw02.LexerKinds': WHATEVER THE INPUT: true; the input reads as it did. -/
def lexerKindsSpec : ChangeSpec := { name := "lexerKinds", fn := fun _ => fun
  | [d] => { results := [.lit (.bool true)], args := [d] }
  | _ => none }
def lexerKindsRow : OpenClaim := { program := "yteedpojchapjgaadoor", sum := "97b1b519919cb995345acbf84103b377966f168790b0221d6e4f7a3a47ef96d2", func := "stile/stilelaw02.LexerKinds", spec := "lexerKinds", inPlace := ["internal/bytealg.IndexByteString"], unfollowed := true, recurses := true, named := ["stile/lexer.languageWords", "stile/lexer.longSigns"], apart := false, laid := [("stile/lexer.languageWords", laid_stile_lexer_languageWords), ("stile/lexer.longSigns", laid_stile_lexer_longSigns)] }
def LexerKindsSaid : Prop := lexerKindsRow.holds Tryd.pinned (OpenSpec.ofChange lexerKindsSpec)

/-- ITS FALSE NEIGHBOUR: 'it returns false'. Refute it at one input. -/
def lexerKindsWrong : ChangeSpec := { name := "lexerKinds", fn := fun _ => fun
  | [d] => { results := [.lit (.bool false)], args := [d] }
  | _ => none }
def LexerKindsWrongFalsely : Prop := lexerKindsRow.holds Tryd.pinned (OpenSpec.ofChange lexerKindsWrong)

/-- 'stilelaw02.LexerScans': WHATEVER THE INPUT: true; the input reads as it did. -/
def lexerScansSpec : ChangeSpec := { name := "lexerScans", fn := fun _ => fun
  | [d] => { results := [.lit (.bool true)], args := [d] }
  | _ => none }
def lexerScansRow : OpenClaim := { program := "yteedpojchapjgaadoor", sum := "97b1b519919cb995345acbf84103b377966f168790b0221d6e4f7a3a47ef96d2", func := "stile/stilelaw02.LexerScans", spec := "lexerScans", inPlace := ["internal/bytealg.IndexByteString"], unfollowed := true, recurses := true, named := ["stile/lexer.languageWords", "stile/lexer.longSigns"], apart := false, laid := [("stile/lexer.languageWords", laid_stile_lexer_languageWords), ("stile/lexer.longSigns", laid_stile_lexer_longSigns)] }
def LexerScansSaid : Prop := lexerScansRow.holds Tryd.pinned (OpenSpec.ofChange lexerScansSpec)

/-- ITS FALSE NEIGHBOUR: 'it returns false'. Refute it at one input. -/
def lexerScansWrong : ChangeSpec := { name := "lexerScans", fn := fun _ => fun
  | [d] => { results := [.lit (.bool false)], args := [d] }
  | _ => none }
def LexerScansWrongFalsely : Prop := lexerScansRow.holds Tryd.pinned (OpenSpec.ofChange lexerScansWrong)

/-- 'stilelaw02.LexerEach': WHATEVER THE INPUT: true; the input reads as it did. -/
def lexerEachSpec : ChangeSpec := { name := "lexerEach", fn := fun _ => fun
  | [d1, d2] => { results := [.lit (.bool true)], args := [d1, d2] }
  | _ => none }
def lexerEachRow : OpenClaim := { program := "yteedpojchapjgaadoor", sum := "97b1b519919cb995345acbf84103b377966f168790b0221d6e4f7a3a47ef96d2", func := "stile/stilelaw02.LexerEach", spec := "lexerEach", inPlace := ["internal/bytealg.IndexByteString"], unfollowed := true, recurses := true, named := ["stile/lexer.languageWords", "stile/lexer.longSigns"], apart := false, laid := [("stile/lexer.languageWords", laid_stile_lexer_languageWords), ("stile/lexer.longSigns", laid_stile_lexer_longSigns)] }
def LexerEachSaid : Prop := lexerEachRow.holds Tryd.pinned (OpenSpec.ofChange lexerEachSpec)

/-- ITS FALSE NEIGHBOUR: 'it returns false'. Refute it at one input. -/
def lexerEachWrong : ChangeSpec := { name := "lexerEach", fn := fun _ => fun
  | [d1, d2] => { results := [.lit (.bool false)], args := [d1, d2] }
  | _ => none }
def LexerEachWrongFalsely : Prop := lexerEachRow.holds Tryd.pinned (OpenSpec.ofChange lexerEachWrong)

/-- 'stilelaw02.LexerPrints': WHATEVER THE INPUT: true; the input reads as it did. -/
def lexerPrintsSpec : ChangeSpec := { name := "lexerPrints", fn := fun _ => fun
  | [d] => { results := [.lit (.bool true)], args := [d] }
  | _ => none }
def lexerPrintsRow : OpenClaim := { program := "yteedpojchapjgaadoor", sum := "97b1b519919cb995345acbf84103b377966f168790b0221d6e4f7a3a47ef96d2", func := "stile/stilelaw02.LexerPrints", spec := "lexerPrints", inPlace := ["internal/bytealg.IndexByteString", "internal/abi.NoEscape"], unfollowed := true, recurses := true, named := ["stile/lexer.languageWords", "stile/lexer.longSigns"], apart := false, laid := [("stile/lexer.languageWords", laid_stile_lexer_languageWords), ("stile/lexer.longSigns", laid_stile_lexer_longSigns)] }
def LexerPrintsSaid : Prop := lexerPrintsRow.holds Tryd.pinned (OpenSpec.ofChange lexerPrintsSpec)

/-- ITS FALSE NEIGHBOUR: 'it returns false'. Refute it at one input. -/
def lexerPrintsWrong : ChangeSpec := { name := "lexerPrints", fn := fun _ => fun
  | [d] => { results := [.lit (.bool false)], args := [d] }
  | _ => none }
def LexerPrintsWrongFalsely : Prop := lexerPrintsRow.holds Tryd.pinned (OpenSpec.ofChange lexerPrintsWrong)

/-- 'stilelaw02.LexerPlaces': WHATEVER THE INPUT: true; the input reads as it did. -/
def lexerPlacesSpec : ChangeSpec := { name := "lexerPlaces", fn := fun _ => fun
  | [d1, d2] => { results := [.lit (.bool true)], args := [d1, d2] }
  | _ => none }
def lexerPlacesRow : OpenClaim := { program := "yteedpojchapjgaadoor", sum := "97b1b519919cb995345acbf84103b377966f168790b0221d6e4f7a3a47ef96d2", func := "stile/stilelaw02.LexerPlaces", spec := "lexerPlaces", inPlace := ["internal/bytealg.CountString", "internal/bytealg.IndexByteString", "internal/bytealg.IndexString"], unfollowed := true, recurses := true, named := ["internal/bytealg.MaxLen", "stile/lexer.languageWords", "stile/lexer.longSigns"], apart := false, laid := [("stile/lexer.languageWords", laid_stile_lexer_languageWords), ("stile/lexer.longSigns", laid_stile_lexer_longSigns)] }
def LexerPlacesSaid : Prop := lexerPlacesRow.holds Tryd.pinned (OpenSpec.ofChange lexerPlacesSpec)

/-- ITS FALSE NEIGHBOUR: 'it returns false'. Refute it at one input. -/
def lexerPlacesWrong : ChangeSpec := { name := "lexerPlaces", fn := fun _ => fun
  | [d1, d2] => { results := [.lit (.bool false)], args := [d1, d2] }
  | _ => none }
def LexerPlacesWrongFalsely : Prop := lexerPlacesRow.holds Tryd.pinned (OpenSpec.ofChange lexerPlacesWrong)

/-- 'stilelaw02.LexerBack': WHATEVER THE INPUT: true; the input reads as it did. -/
def lexerBackSpec : ChangeSpec := { name := "lexerBack", fn := fun _ => fun
  | [d1, d2] => { results := [.lit (.bool true)], args := [d1, d2] }
  | _ => none }
def lexerBackRow : OpenClaim := { program := "yteedpojchapjgaadoor", sum := "97b1b519919cb995345acbf84103b377966f168790b0221d6e4f7a3a47ef96d2", func := "stile/stilelaw02.LexerBack", spec := "lexerBack", inPlace := ["internal/bytealg.IndexByteString", "internal/abi.NoEscape"], unfollowed := true, recurses := true, named := ["stile/lexer.languageWords", "stile/lexer.longSigns"], apart := false, laid := [("stile/lexer.languageWords", laid_stile_lexer_languageWords), ("stile/lexer.longSigns", laid_stile_lexer_longSigns)] }
def LexerBackSaid : Prop := lexerBackRow.holds Tryd.pinned (OpenSpec.ofChange lexerBackSpec)

/-- ITS FALSE NEIGHBOUR: 'it returns false'. Refute it at one input. -/
def lexerBackWrong : ChangeSpec := { name := "lexerBack", fn := fun _ => fun
  | [d1, d2] => { results := [.lit (.bool false)], args := [d1, d2] }
  | _ => none }
def LexerBackWrongFalsely : Prop := lexerBackRow.holds Tryd.pinned (OpenSpec.ofChange lexerBackWrong)

/-- 'stilelaw02.LexerBlanks': WHATEVER THE INPUT: true; the input reads as it did. -/
def lexerBlanksSpec : ChangeSpec := { name := "lexerBlanks", fn := fun _ => fun
  | [d1, d2, d3] => { results := [.lit (.bool true)], args := [d1, d2, d3] }
  | _ => none }
def lexerBlanksRow : OpenClaim := { program := "yteedpojchapjgaadoor", sum := "97b1b519919cb995345acbf84103b377966f168790b0221d6e4f7a3a47ef96d2", func := "stile/stilelaw02.LexerBlanks", spec := "lexerBlanks", inPlace := ["internal/bytealg.IndexByteString"], unfollowed := true, recurses := true, named := ["stile/lexer.languageWords", "stile/lexer.longSigns"], apart := false, laid := [("stile/lexer.languageWords", laid_stile_lexer_languageWords), ("stile/lexer.longSigns", laid_stile_lexer_longSigns)] }
def LexerBlanksSaid : Prop := lexerBlanksRow.holds Tryd.pinned (OpenSpec.ofChange lexerBlanksSpec)

/-- ITS FALSE NEIGHBOUR: 'it returns false'. Refute it at one input. -/
def lexerBlanksWrong : ChangeSpec := { name := "lexerBlanks", fn := fun _ => fun
  | [d1, d2, d3] => { results := [.lit (.bool false)], args := [d1, d2, d3] }
  | _ => none }
def LexerBlanksWrongFalsely : Prop := lexerBlanksRow.holds Tryd.pinned (OpenSpec.ofChange lexerBlanksWrong)

/-- 'stilelaw02.LexerStands': WHATEVER THE INPUT: true; the input reads as it did. -/
def lexerStandsSpec : ChangeSpec := { name := "lexerStands", fn := fun _ => fun
  | [d] => { results := [.lit (.bool true)], args := [d] }
  | _ => none }
def lexerStandsRow : OpenClaim := { program := "yteedpojchapjgaadoor", sum := "97b1b519919cb995345acbf84103b377966f168790b0221d6e4f7a3a47ef96d2", func := "stile/stilelaw02.LexerStands", spec := "lexerStands", inPlace := ["internal/bytealg.IndexByteString"], unfollowed := true, recurses := true, named := ["stile/lexer.languageWords", "stile/lexer.longSigns"], apart := false, laid := [("stile/lexer.languageWords", laid_stile_lexer_languageWords), ("stile/lexer.longSigns", laid_stile_lexer_longSigns)] }
def LexerStandsSaid : Prop := lexerStandsRow.holds Tryd.pinned (OpenSpec.ofChange lexerStandsSpec)

/-- ITS FALSE NEIGHBOUR: 'it returns false'. Refute it at one input. -/
def lexerStandsWrong : ChangeSpec := { name := "lexerStands", fn := fun _ => fun
  | [d] => { results := [.lit (.bool false)], args := [d] }
  | _ => none }
def LexerStandsWrongFalsely : Prop := lexerStandsRow.holds Tryd.pinned (OpenSpec.ofChange lexerStandsWrong)

/-- 'stilelaw02.LexerFaults': WHATEVER THE INPUT: true; the input reads as it did. -/
def lexerFaultsSpec : ChangeSpec := { name := "lexerFaults", fn := fun _ => fun
  | [d1, d2] => { results := [.lit (.bool true)], args := [d1, d2] }
  | _ => none }
def lexerFaultsRow : OpenClaim := { program := "yteedpojchapjgaadoor", sum := "97b1b519919cb995345acbf84103b377966f168790b0221d6e4f7a3a47ef96d2", func := "stile/stilelaw02.LexerFaults", spec := "lexerFaults", inPlace := ["internal/bytealg.IndexByteString"], unfollowed := true, recurses := true, named := ["stile/lexer.languageWords", "stile/lexer.longSigns"], apart := false, laid := [("stile/lexer.languageWords", laid_stile_lexer_languageWords), ("stile/lexer.longSigns", laid_stile_lexer_longSigns)] }
def LexerFaultsSaid : Prop := lexerFaultsRow.holds Tryd.pinned (OpenSpec.ofChange lexerFaultsSpec)

/-- ITS FALSE NEIGHBOUR: 'it returns false'. Refute it at one input. -/
def lexerFaultsWrong : ChangeSpec := { name := "lexerFaults", fn := fun _ => fun
  | [d1, d2] => { results := [.lit (.bool false)], args := [d1, d2] }
  | _ => none }
def LexerFaultsWrongFalsely : Prop := lexerFaultsRow.holds Tryd.pinned (OpenSpec.ofChange lexerFaultsWrong)

/-- 'stilelaw02.LexerPlaced': WHATEVER THE INPUT: true; the input reads as it did. -/
def lexerPlacedSpec : ChangeSpec := { name := "lexerPlaced", fn := fun _ => fun
  | [d1, d2] => { results := [.lit (.bool true)], args := [d1, d2] }
  | _ => none }
def lexerPlacedRow : OpenClaim := { program := "yteedpojchapjgaadoor", sum := "97b1b519919cb995345acbf84103b377966f168790b0221d6e4f7a3a47ef96d2", func := "stile/stilelaw02.LexerPlaced", spec := "lexerPlaced", inPlace := ["internal/bytealg.IndexByteString", "internal/bytealg.CountString", "internal/bytealg.IndexString"], unfollowed := true, recurses := true, named := ["stile/lexer.languageWords", "stile/lexer.longSigns", "internal/bytealg.MaxLen"], apart := false, laid := [("stile/lexer.languageWords", laid_stile_lexer_languageWords), ("stile/lexer.longSigns", laid_stile_lexer_longSigns)] }
def LexerPlacedSaid : Prop := lexerPlacedRow.holds Tryd.pinned (OpenSpec.ofChange lexerPlacedSpec)

/-- ITS FALSE NEIGHBOUR: 'it returns false'. Refute it at one input. -/
def lexerPlacedWrong : ChangeSpec := { name := "lexerPlaced", fn := fun _ => fun
  | [d1, d2] => { results := [.lit (.bool false)], args := [d1, d2] }
  | _ => none }
def LexerPlacedWrongFalsely : Prop := lexerPlacedRow.holds Tryd.pinned (OpenSpec.ofChange lexerPlacedWrong)

/-- 'stilelaw02.LexerOwn': WHATEVER THE INPUT: true; the input reads as it did. -/
def lexerOwnSpec : ChangeSpec := { name := "lexerOwn", fn := fun _ => fun
  | [d] => { results := [.lit (.bool true)], args := [d] }
  | _ => none }
def lexerOwnRow : OpenClaim := { program := "yteedpojchapjgaadoor", sum := "97b1b519919cb995345acbf84103b377966f168790b0221d6e4f7a3a47ef96d2", func := "stile/stilelaw02.LexerOwn", spec := "lexerOwn", inPlace := ["internal/bytealg.IndexByteString"], unfollowed := true, recurses := true, named := ["stile/lexer.languageWords", "stile/lexer.longSigns"], apart := false, laid := [("stile/lexer.languageWords", laid_stile_lexer_languageWords), ("stile/lexer.longSigns", laid_stile_lexer_longSigns)] }
def LexerOwnSaid : Prop := lexerOwnRow.holds Tryd.pinned (OpenSpec.ofChange lexerOwnSpec)

/-- ITS FALSE NEIGHBOUR: 'it returns false'. Refute it at one input. -/
def lexerOwnWrong : ChangeSpec := { name := "lexerOwn", fn := fun _ => fun
  | [d] => { results := [.lit (.bool false)], args := [d] }
  | _ => none }
def LexerOwnWrongFalsely : Prop := lexerOwnRow.holds Tryd.pinned (OpenSpec.ofChange lexerOwnWrong)

/-- 'stiletop.TopNumbers': WHATEVER THE INPUT: true; the input reads as it did. -/
def topNumbersSpec : ChangeSpec := { name := "topNumbers", fn := fun _ => fun
  | [d1, d2, d3] => { results := [.lit (.bool true)], args := [d1, d2, d3] }
  | _ => none }
def topNumbersRow : OpenClaim := { program := "yteedpojchapjgaadoor", sum := "97b1b519919cb995345acbf84103b377966f168790b0221d6e4f7a3a47ef96d2", func := "stile/stiletop.TopNumbers", spec := "topNumbers", inPlace := ["internal/bytealg.IndexByteString"], unfollowed := true, recurses := true, named := ["stile/words.levels", "stile/lexer.languageWords", "stile/lexer.longSigns", "internal/strconv.uint64pow10", "math/bits.deBruijn32tab", "math/bits.deBruijn64tab", "stile/words.signs"], apart := false, laid := [("math/bits.deBruijn32tab", laid_math_bits_deBruijn32tab), ("math/bits.deBruijn64tab", laid_math_bits_deBruijn64tab), ("internal/strconv.uint64pow10", laid_internal_strconv_uint64pow10), ("stile/words.levels", laid_stile_words_levels), ("stile/words.signs", laid_stile_words_signs), ("stile/lexer.languageWords", laid_stile_lexer_languageWords), ("stile/lexer.longSigns", laid_stile_lexer_longSigns)] }
def TopNumbersSaid : Prop := topNumbersRow.holds Tryd.pinned (OpenSpec.ofChange topNumbersSpec)

/-- ITS FALSE NEIGHBOUR: 'it returns false'. Refute it at one input. -/
def topNumbersWrong : ChangeSpec := { name := "topNumbers", fn := fun _ => fun
  | [d1, d2, d3] => { results := [.lit (.bool false)], args := [d1, d2, d3] }
  | _ => none }
def TopNumbersWrongFalsely : Prop := topNumbersRow.holds Tryd.pinned (OpenSpec.ofChange topNumbersWrong)

/- THE SECOND FORM. 'bulk': how many values and letters a reading holds, each counted each time it is reached (what is shared counts as often as it is met; a slice's spare places count too). A statement '..UptoSaid' is the law's where the arguments, and the package variables that the reading takes, are together of bulk at most 1048576: NARROWER than '..Said'. Prove '..Said' where nothing that the law and all that it calls make is longer than what came in: it says more and counts as full. Else prove '..UptoSaid'. A law counts once. -/
mutual
def uptoBulk {H : Type} : DataW H → Nat
  | .lit (.string bytes) => bytes.length + 1
  | .lit _ => 1
  | .nil => 1
  | .ptr d => uptoBulk d + 1
  | .slice elems spare => uptoBulkAll elems + uptoBulkAll spare + 1
  | .agg parts => uptoBulkAll parts + 1
  | .iface _ d => uptoBulk d + 1
  | .map entries => uptoBulkEntries entries + 1
  | .held _ => 1
def uptoBulkAll {H : Type} : List (DataW H) → Nat
  | [] => 0
  | d :: r => uptoBulk d + uptoBulkAll r
def uptoBulkEntries {H : Type} : List (Lit × DataW H) → Nat
  | [] => 0
  | x :: r => uptoBulkEntry x + uptoBulkEntries r
def uptoBulkEntry {H : Type} : Lit × DataW H → Nat
  | (.string bytes, d) => bytes.length + uptoBulk d + 1
  | (_, d) => uptoBulk d + 1
 end
def uptoSmall : (H : Type) → List (DataW H) → Bool := fun _ ds => decide (uptoBulkAll ds ≤ 1048576)
def OpenSpec.upto (s : _root_.Go.ChangeSpec) : _root_.Go.OpenSpec := { _root_.Go.OpenSpec.ofChange s with cond := some uptoSmall }

/-- 'stilelaw02.LexerKinds', WHERE WHAT IT READS IS OF BULK AT MOST 1048576: true; the input reads as it did. -/
def lexerKindsUptoRow : OpenClaim := { program := "yteedpojchapjgaadoor", sum := "97b1b519919cb995345acbf84103b377966f168790b0221d6e4f7a3a47ef96d2", func := "stile/stilelaw02.LexerKinds", spec := "lexerKinds", inPlace := ["internal/bytealg.IndexByteString"], unfollowed := true, recurses := true, named := ["stile/lexer.languageWords", "stile/lexer.longSigns"], apart := false, laid := [("stile/lexer.languageWords", laid_stile_lexer_languageWords), ("stile/lexer.longSigns", laid_stile_lexer_longSigns)], narrowed := true }
def LexerKindsUptoSaid : Prop := lexerKindsUptoRow.holds Tryd.pinned (OpenSpec.upto lexerKindsSpec)

/-- 'stilelaw02.LexerScans', WHERE WHAT IT READS IS OF BULK AT MOST 1048576: true; the input reads as it did. -/
def lexerScansUptoRow : OpenClaim := { program := "yteedpojchapjgaadoor", sum := "97b1b519919cb995345acbf84103b377966f168790b0221d6e4f7a3a47ef96d2", func := "stile/stilelaw02.LexerScans", spec := "lexerScans", inPlace := ["internal/bytealg.IndexByteString"], unfollowed := true, recurses := true, named := ["stile/lexer.languageWords", "stile/lexer.longSigns"], apart := false, laid := [("stile/lexer.languageWords", laid_stile_lexer_languageWords), ("stile/lexer.longSigns", laid_stile_lexer_longSigns)], narrowed := true }
def LexerScansUptoSaid : Prop := lexerScansUptoRow.holds Tryd.pinned (OpenSpec.upto lexerScansSpec)

/-- 'stilelaw02.LexerEach', WHERE WHAT IT READS IS OF BULK AT MOST 1048576: true; the input reads as it did. -/
def lexerEachUptoRow : OpenClaim := { program := "yteedpojchapjgaadoor", sum := "97b1b519919cb995345acbf84103b377966f168790b0221d6e4f7a3a47ef96d2", func := "stile/stilelaw02.LexerEach", spec := "lexerEach", inPlace := ["internal/bytealg.IndexByteString"], unfollowed := true, recurses := true, named := ["stile/lexer.languageWords", "stile/lexer.longSigns"], apart := false, laid := [("stile/lexer.languageWords", laid_stile_lexer_languageWords), ("stile/lexer.longSigns", laid_stile_lexer_longSigns)], narrowed := true }
def LexerEachUptoSaid : Prop := lexerEachUptoRow.holds Tryd.pinned (OpenSpec.upto lexerEachSpec)

/-- 'stilelaw02.LexerPrints', WHERE WHAT IT READS IS OF BULK AT MOST 1048576: true; the input reads as it did. -/
def lexerPrintsUptoRow : OpenClaim := { program := "yteedpojchapjgaadoor", sum := "97b1b519919cb995345acbf84103b377966f168790b0221d6e4f7a3a47ef96d2", func := "stile/stilelaw02.LexerPrints", spec := "lexerPrints", inPlace := ["internal/bytealg.IndexByteString", "internal/abi.NoEscape"], unfollowed := true, recurses := true, named := ["stile/lexer.languageWords", "stile/lexer.longSigns"], apart := false, laid := [("stile/lexer.languageWords", laid_stile_lexer_languageWords), ("stile/lexer.longSigns", laid_stile_lexer_longSigns)], narrowed := true }
def LexerPrintsUptoSaid : Prop := lexerPrintsUptoRow.holds Tryd.pinned (OpenSpec.upto lexerPrintsSpec)

/-- 'stilelaw02.LexerPlaces', WHERE WHAT IT READS IS OF BULK AT MOST 1048576: true; the input reads as it did. -/
def lexerPlacesUptoRow : OpenClaim := { program := "yteedpojchapjgaadoor", sum := "97b1b519919cb995345acbf84103b377966f168790b0221d6e4f7a3a47ef96d2", func := "stile/stilelaw02.LexerPlaces", spec := "lexerPlaces", inPlace := ["internal/bytealg.CountString", "internal/bytealg.IndexByteString", "internal/bytealg.IndexString"], unfollowed := true, recurses := true, named := ["internal/bytealg.MaxLen", "stile/lexer.languageWords", "stile/lexer.longSigns"], apart := false, laid := [("stile/lexer.languageWords", laid_stile_lexer_languageWords), ("stile/lexer.longSigns", laid_stile_lexer_longSigns)], narrowed := true }
def LexerPlacesUptoSaid : Prop := lexerPlacesUptoRow.holds Tryd.pinned (OpenSpec.upto lexerPlacesSpec)

/-- 'stilelaw02.LexerBack', WHERE WHAT IT READS IS OF BULK AT MOST 1048576: true; the input reads as it did. -/
def lexerBackUptoRow : OpenClaim := { program := "yteedpojchapjgaadoor", sum := "97b1b519919cb995345acbf84103b377966f168790b0221d6e4f7a3a47ef96d2", func := "stile/stilelaw02.LexerBack", spec := "lexerBack", inPlace := ["internal/bytealg.IndexByteString", "internal/abi.NoEscape"], unfollowed := true, recurses := true, named := ["stile/lexer.languageWords", "stile/lexer.longSigns"], apart := false, laid := [("stile/lexer.languageWords", laid_stile_lexer_languageWords), ("stile/lexer.longSigns", laid_stile_lexer_longSigns)], narrowed := true }
def LexerBackUptoSaid : Prop := lexerBackUptoRow.holds Tryd.pinned (OpenSpec.upto lexerBackSpec)

/-- 'stilelaw02.LexerBlanks', WHERE WHAT IT READS IS OF BULK AT MOST 1048576: true; the input reads as it did. -/
def lexerBlanksUptoRow : OpenClaim := { program := "yteedpojchapjgaadoor", sum := "97b1b519919cb995345acbf84103b377966f168790b0221d6e4f7a3a47ef96d2", func := "stile/stilelaw02.LexerBlanks", spec := "lexerBlanks", inPlace := ["internal/bytealg.IndexByteString"], unfollowed := true, recurses := true, named := ["stile/lexer.languageWords", "stile/lexer.longSigns"], apart := false, laid := [("stile/lexer.languageWords", laid_stile_lexer_languageWords), ("stile/lexer.longSigns", laid_stile_lexer_longSigns)], narrowed := true }
def LexerBlanksUptoSaid : Prop := lexerBlanksUptoRow.holds Tryd.pinned (OpenSpec.upto lexerBlanksSpec)

/-- 'stilelaw02.LexerStands', WHERE WHAT IT READS IS OF BULK AT MOST 1048576: true; the input reads as it did. -/
def lexerStandsUptoRow : OpenClaim := { program := "yteedpojchapjgaadoor", sum := "97b1b519919cb995345acbf84103b377966f168790b0221d6e4f7a3a47ef96d2", func := "stile/stilelaw02.LexerStands", spec := "lexerStands", inPlace := ["internal/bytealg.IndexByteString"], unfollowed := true, recurses := true, named := ["stile/lexer.languageWords", "stile/lexer.longSigns"], apart := false, laid := [("stile/lexer.languageWords", laid_stile_lexer_languageWords), ("stile/lexer.longSigns", laid_stile_lexer_longSigns)], narrowed := true }
def LexerStandsUptoSaid : Prop := lexerStandsUptoRow.holds Tryd.pinned (OpenSpec.upto lexerStandsSpec)

/-- 'stilelaw02.LexerFaults', WHERE WHAT IT READS IS OF BULK AT MOST 1048576: true; the input reads as it did. -/
def lexerFaultsUptoRow : OpenClaim := { program := "yteedpojchapjgaadoor", sum := "97b1b519919cb995345acbf84103b377966f168790b0221d6e4f7a3a47ef96d2", func := "stile/stilelaw02.LexerFaults", spec := "lexerFaults", inPlace := ["internal/bytealg.IndexByteString"], unfollowed := true, recurses := true, named := ["stile/lexer.languageWords", "stile/lexer.longSigns"], apart := false, laid := [("stile/lexer.languageWords", laid_stile_lexer_languageWords), ("stile/lexer.longSigns", laid_stile_lexer_longSigns)], narrowed := true }
def LexerFaultsUptoSaid : Prop := lexerFaultsUptoRow.holds Tryd.pinned (OpenSpec.upto lexerFaultsSpec)

/-- 'stilelaw02.LexerPlaced', WHERE WHAT IT READS IS OF BULK AT MOST 1048576: true; the input reads as it did. -/
def lexerPlacedUptoRow : OpenClaim := { program := "yteedpojchapjgaadoor", sum := "97b1b519919cb995345acbf84103b377966f168790b0221d6e4f7a3a47ef96d2", func := "stile/stilelaw02.LexerPlaced", spec := "lexerPlaced", inPlace := ["internal/bytealg.IndexByteString", "internal/bytealg.CountString", "internal/bytealg.IndexString"], unfollowed := true, recurses := true, named := ["stile/lexer.languageWords", "stile/lexer.longSigns", "internal/bytealg.MaxLen"], apart := false, laid := [("stile/lexer.languageWords", laid_stile_lexer_languageWords), ("stile/lexer.longSigns", laid_stile_lexer_longSigns)], narrowed := true }
def LexerPlacedUptoSaid : Prop := lexerPlacedUptoRow.holds Tryd.pinned (OpenSpec.upto lexerPlacedSpec)

/-- 'stilelaw02.LexerOwn', WHERE WHAT IT READS IS OF BULK AT MOST 1048576: true; the input reads as it did. -/
def lexerOwnUptoRow : OpenClaim := { program := "yteedpojchapjgaadoor", sum := "97b1b519919cb995345acbf84103b377966f168790b0221d6e4f7a3a47ef96d2", func := "stile/stilelaw02.LexerOwn", spec := "lexerOwn", inPlace := ["internal/bytealg.IndexByteString"], unfollowed := true, recurses := true, named := ["stile/lexer.languageWords", "stile/lexer.longSigns"], apart := false, laid := [("stile/lexer.languageWords", laid_stile_lexer_languageWords), ("stile/lexer.longSigns", laid_stile_lexer_longSigns)], narrowed := true }
def LexerOwnUptoSaid : Prop := lexerOwnUptoRow.holds Tryd.pinned (OpenSpec.upto lexerOwnSpec)

/-- 'stiletop.TopNumbers', WHERE WHAT IT READS IS OF BULK AT MOST 1048576: true; the input reads as it did. -/
def topNumbersUptoRow : OpenClaim := { program := "yteedpojchapjgaadoor", sum := "97b1b519919cb995345acbf84103b377966f168790b0221d6e4f7a3a47ef96d2", func := "stile/stiletop.TopNumbers", spec := "topNumbers", inPlace := ["internal/bytealg.IndexByteString"], unfollowed := true, recurses := true, named := ["stile/words.levels", "stile/lexer.languageWords", "stile/lexer.longSigns", "internal/strconv.uint64pow10", "math/bits.deBruijn32tab", "math/bits.deBruijn64tab", "stile/words.signs"], apart := false, laid := [("math/bits.deBruijn32tab", laid_math_bits_deBruijn32tab), ("math/bits.deBruijn64tab", laid_math_bits_deBruijn64tab), ("internal/strconv.uint64pow10", laid_internal_strconv_uint64pow10), ("stile/words.levels", laid_stile_words_levels), ("stile/words.signs", laid_stile_words_signs), ("stile/lexer.languageWords", laid_stile_lexer_languageWords), ("stile/lexer.longSigns", laid_stile_lexer_longSigns)], narrowed := true }
def TopNumbersUptoSaid : Prop := topNumbersUptoRow.holds Tryd.pinned (OpenSpec.upto topNumbersSpec)

end Rows
end Go.Proofs.YteedpojchapjgaaDoor
