/-
  DERIVED. GIVEN WITH THE SEED: THE PROGRAM's TIES (one call each: nine closed facts by the kernel) AND EACH ROW's TIE, after the 31st guide's Derived/Test/Toyas{Tie, Card}.lean. No idea stands in it: it is a product of the set-up. Laid BY PROGRAM, IN A SANDBOX (cutbox-door.mjs). By AI agents, Wed Nov 11 2026. No macro, syntax, notation, axiom, sorry.
-/
import Derived.Test.YtieeaehabjjaoaaGreatDoorRows
import Derived.LaidByTextLater
import Derived.SevenTiedAt
import Derived.LaidSub
import Derived.LaidOnce
namespace Go.Proofs.YtieeaehabjjaoaaGreatDoor
open Go
set_option maxRecDepth 100000
theorem seatTie1 : Tryz.prog.laidByTextLater [("math/bits.deBruijn32tab", Rows.laid_math_bits_deBruijn32tab), ("math/bits.deBruijn64tab", Rows.laid_math_bits_deBruijn64tab), ("internal/strconv.uint64pow10", Rows.laid_internal_strconv_uint64pow10), ("stile/words.levels", Rows.laid_stile_words_levels), ("stile/words.signs", Rows.laid_stile_words_signs), ("stile/lexer.languageWords", Rows.laid_stile_lexer_languageWords), ("stile/lexer.longSigns", Rows.laid_stile_lexer_longSigns), ("stile/pretty.shapes", Rows.laid_stile_pretty_shapes)] [.data, .data, .data, .data, .data, .data, .data, .data] true :=
  Program.laidByTextLater_by_one 56 8 65 (by kernel_rfl) (by kernel_rfl) (by kernel_rfl) (by kernel_rfl) (by kernel_rfl) (by kernel_rfl) (fun _ _ => by kernel_rfl)
theorem noOwnUnsafe : Tryz.pinned.checked.prog.headLifts.contains "ownunsafe" = false := by kernel_rfl
theorem tie : Tryz.prog.laidByTextLater [("math/bits.deBruijn32tab", Rows.laid_math_bits_deBruijn32tab), ("math/bits.deBruijn64tab", Rows.laid_math_bits_deBruijn64tab), ("internal/strconv.uint64pow10", Rows.laid_internal_strconv_uint64pow10), ("stile/words.levels", Rows.laid_stile_words_levels), ("stile/words.signs", Rows.laid_stile_words_signs), ("stile/lexer.languageWords", Rows.laid_stile_lexer_languageWords), ("stile/pretty.shapes", Rows.laid_stile_pretty_shapes)] [.data, .data, .data, .data, .data, .data, .data] true :=
  Program.laidByTextLater.sub seatTie1 ["math/bits.deBruijn32tab", "math/bits.deBruijn64tab", "internal/strconv.uint64pow10", "stile/words.levels", "stile/words.signs", "stile/lexer.languageWords", "stile/pretty.shapes"] (by kernel_rfl) (by kernel_rfl)
theorem prettyPrints_row_tie : Rows.prettyPrintsRow.laidByTextAt .later Tryz.pinned [.data, .data, .data, .data, .data, .data, .data] true :=
  OpenClaim.laidByTextAt_later rfl rfl tie noOwnUnsafe
theorem tie2 : Tryz.prog.laidByTextLater [("math/bits.deBruijn32tab", Rows.laid_math_bits_deBruijn32tab), ("math/bits.deBruijn64tab", Rows.laid_math_bits_deBruijn64tab), ("internal/strconv.uint64pow10", Rows.laid_internal_strconv_uint64pow10), ("stile/words.levels", Rows.laid_stile_words_levels), ("stile/words.signs", Rows.laid_stile_words_signs), ("stile/lexer.languageWords", Rows.laid_stile_lexer_languageWords), ("stile/lexer.longSigns", Rows.laid_stile_lexer_longSigns), ("stile/pretty.shapes", Rows.laid_stile_pretty_shapes)] [.data, .data, .data, .data, .data, .data, .data, .data] true :=
  Program.laidByTextLater.sub seatTie1 ["math/bits.deBruijn32tab", "math/bits.deBruijn64tab", "internal/strconv.uint64pow10", "stile/words.levels", "stile/words.signs", "stile/lexer.languageWords", "stile/lexer.longSigns", "stile/pretty.shapes"] (by kernel_rfl) (by kernel_rfl)
theorem prettyLaid_row_tie : Rows.prettyLaidRow.laidByTextAt .later Tryz.pinned [.data, .data, .data, .data, .data, .data, .data, .data] true :=
  OpenClaim.laidByTextAt_later rfl rfl tie2 noOwnUnsafe
theorem prettyPrintsUpto_row_tie : Rows.prettyPrintsUptoRow.laidByTextAt .later Tryz.pinned [.data, .data, .data, .data, .data, .data, .data] true :=
  OpenClaim.laidByTextAt_later rfl rfl tie noOwnUnsafe
theorem prettyLaidUpto_row_tie : Rows.prettyLaidUptoRow.laidByTextAt .later Tryz.pinned [.data, .data, .data, .data, .data, .data, .data, .data] true :=
  OpenClaim.laidByTextAt_later rfl rfl tie2 noOwnUnsafe
end Go.Proofs.YtieeaehabjjaoaaGreatDoor
