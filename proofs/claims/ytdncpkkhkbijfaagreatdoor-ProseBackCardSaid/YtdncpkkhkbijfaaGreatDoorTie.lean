/-
  DERIVED. GIVEN WITH THE SEED: THE PROGRAM's TIES (one call each: nine closed facts by the kernel) AND EACH ROW's TIE, after the 31st guide's Derived/Test/Toyas{Tie, Card}.lean. No idea stands in it: it is a product of the set-up. Laid BY PROGRAM, IN A SANDBOX (cutbox-door.mjs). By AI agents, Wed Nov 11 2026. No macro, syntax, notation, axiom, sorry.
-/
import Derived.Test.YtdncpkkhkbijfaaGreatDoorRows
import Derived.LaidByTextLater
import Derived.SevenTiedAt
import Derived.LaidSub
import Derived.LaidOnce
namespace Go.Proofs.YtdncpkkhkbijfaaGreatDoor
open Go
set_option maxRecDepth 100000
theorem seatTie1 : Tryz.prog.laidByTextLater [("math/bits.deBruijn32tab", Rows.laid_math_bits_deBruijn32tab), ("math/bits.deBruijn64tab", Rows.laid_math_bits_deBruijn64tab), ("internal/strconv.uint64pow10", Rows.laid_internal_strconv_uint64pow10), ("balustrade/lex.keyWords", Rows.laid_balustrade_lex_keyWords), ("balustrade/expr.signs", Rows.laid_balustrade_expr_signs), ("balustrade/expr.strengths", Rows.laid_balustrade_expr_strengths), ("balustrade/expr.fronts", Rows.laid_balustrade_expr_fronts), ("balustrade/parse.kindWords", Rows.laid_balustrade_parse_kindWords), ("balustrade/tree.rows", Rows.laid_balustrade_tree_rows), ("balustrade/tree.limits", Rows.laid_balustrade_tree_limits), ("balustrade/tree.makings", Rows.laid_balustrade_tree_makings), ("balustrade/tree.signs", Rows.laid_balustrade_tree_signs), ("balustrade/tree.kindWords", Rows.laid_balustrade_tree_kindWords), ("balustrade/tree.keyWords", Rows.laid_balustrade_tree_keyWords), ("balustrade/prose.strengths", Rows.laid_balustrade_prose_strengths), ("balustrade/prose.heads", Rows.laid_balustrade_prose_heads)] [.data, .data, .data, .data, .data, .data, .data, .data, .data, .data, .data, .data, .data, .data, .data, .data] true :=
  Program.laidByTextLater_by_one 166 8 136 (by kernel_rfl) (by kernel_rfl) (by kernel_rfl) (by kernel_rfl) (by kernel_rfl) (by kernel_rfl) (fun _ _ => by kernel_rfl)
theorem noOwnUnsafe : Tryz.pinned.checked.prog.headLifts.contains "ownunsafe" = false := by kernel_rfl
theorem tie : Tryz.prog.laidByTextLater [("math/bits.deBruijn32tab", Rows.laid_math_bits_deBruijn32tab), ("math/bits.deBruijn64tab", Rows.laid_math_bits_deBruijn64tab), ("internal/strconv.uint64pow10", Rows.laid_internal_strconv_uint64pow10), ("balustrade/lex.keyWords", Rows.laid_balustrade_lex_keyWords), ("balustrade/expr.signs", Rows.laid_balustrade_expr_signs), ("balustrade/expr.strengths", Rows.laid_balustrade_expr_strengths), ("balustrade/expr.fronts", Rows.laid_balustrade_expr_fronts), ("balustrade/parse.kindWords", Rows.laid_balustrade_parse_kindWords), ("balustrade/tree.rows", Rows.laid_balustrade_tree_rows), ("balustrade/tree.limits", Rows.laid_balustrade_tree_limits), ("balustrade/tree.makings", Rows.laid_balustrade_tree_makings), ("balustrade/tree.signs", Rows.laid_balustrade_tree_signs), ("balustrade/tree.kindWords", Rows.laid_balustrade_tree_kindWords), ("balustrade/tree.keyWords", Rows.laid_balustrade_tree_keyWords), ("balustrade/prose.strengths", Rows.laid_balustrade_prose_strengths), ("balustrade/prose.heads", Rows.laid_balustrade_prose_heads)] [.data, .data, .data, .data, .data, .data, .data, .data, .data, .data, .data, .data, .data, .data, .data, .data] true :=
  Program.laidByTextLater.sub seatTie1 ["math/bits.deBruijn32tab", "math/bits.deBruijn64tab", "internal/strconv.uint64pow10", "balustrade/lex.keyWords", "balustrade/expr.signs", "balustrade/expr.strengths", "balustrade/expr.fronts", "balustrade/parse.kindWords", "balustrade/tree.rows", "balustrade/tree.limits", "balustrade/tree.makings", "balustrade/tree.signs", "balustrade/tree.kindWords", "balustrade/tree.keyWords", "balustrade/prose.strengths", "balustrade/prose.heads"] (by kernel_rfl) (by kernel_rfl)
theorem proseBack_row_tie : Rows.proseBackRow.laidByTextAt .later Tryz.pinned [.data, .data, .data, .data, .data, .data, .data, .data, .data, .data, .data, .data, .data, .data, .data, .data] true :=
  OpenClaim.laidByTextAt_later rfl rfl tie noOwnUnsafe
theorem proseAgain_row_tie : Rows.proseAgainRow.laidByTextAt .later Tryz.pinned [.data, .data, .data, .data, .data, .data, .data, .data, .data, .data, .data, .data, .data, .data, .data, .data] true :=
  OpenClaim.laidByTextAt_later rfl rfl tie noOwnUnsafe
theorem proseBackUpto_row_tie : Rows.proseBackUptoRow.laidByTextAt .later Tryz.pinned [.data, .data, .data, .data, .data, .data, .data, .data, .data, .data, .data, .data, .data, .data, .data, .data] true :=
  OpenClaim.laidByTextAt_later rfl rfl tie noOwnUnsafe
theorem proseAgainUpto_row_tie : Rows.proseAgainUptoRow.laidByTextAt .later Tryz.pinned [.data, .data, .data, .data, .data, .data, .data, .data, .data, .data, .data, .data, .data, .data, .data, .data] true :=
  OpenClaim.laidByTextAt_later rfl rfl tie noOwnUnsafe
end Go.Proofs.YtdncpkkhkbijfaaGreatDoor
