/-
  DERIVED. GIVEN WITH THE SEED: THE PROGRAM's TIES (one call each: nine closed facts by the kernel) AND EACH ROW's TIE, after the 31st guide's Derived/Test/Toyas{Tie, Card}.lean. No idea stands in it: it is a product of the set-up. Laid BY PROGRAM, IN A SANDBOX (cutbox-door.mjs). By AI agents, Wed Nov 11 2026. No macro, syntax, notation, axiom, sorry.
-/
import Derived.Test.YtagacfcpepoaoaaDoorRows
import Derived.LaidByTextLater
import Derived.SevenTiedAt
import Derived.LaidSub
import Derived.LaidOnce
namespace Go.Proofs.YtagacfcpepoaoaaDoor
open Go
set_option maxRecDepth 100000
theorem seatTie1 : Tryd.prog.laidByTextLater [("balustrade/lex.keyWords", Rows.laid_balustrade_lex_keyWords), ("balustrade/expr.signs", Rows.laid_balustrade_expr_signs), ("balustrade/expr.strengths", Rows.laid_balustrade_expr_strengths), ("balustrade/expr.fronts", Rows.laid_balustrade_expr_fronts), ("balustrade/parse.kindWords", Rows.laid_balustrade_parse_kindWords)] [.data, .data, .data, .data, .data] true :=
  Program.laidByTextLater_by_one 41 8 19 (by kernel_rfl) (by kernel_rfl) (by kernel_rfl) (by kernel_rfl) (by kernel_rfl) (by kernel_rfl) (fun _ _ => by kernel_rfl)
theorem noOwnUnsafe : Tryd.pinned.checked.prog.headLifts.contains "ownunsafe" = false := by kernel_rfl
theorem tie : Tryd.prog.laidByTextLater [("balustrade/lex.keyWords", Rows.laid_balustrade_lex_keyWords), ("balustrade/expr.signs", Rows.laid_balustrade_expr_signs), ("balustrade/expr.strengths", Rows.laid_balustrade_expr_strengths), ("balustrade/expr.fronts", Rows.laid_balustrade_expr_fronts), ("balustrade/parse.kindWords", Rows.laid_balustrade_parse_kindWords)] [.data, .data, .data, .data, .data] true :=
  Program.laidByTextLater.sub seatTie1 ["balustrade/lex.keyWords", "balustrade/expr.signs", "balustrade/expr.strengths", "balustrade/expr.fronts", "balustrade/parse.kindWords"] (by kernel_rfl) (by kernel_rfl)
theorem parseStands_row_tie : Rows.parseStandsRow.laidByTextAt .later Tryd.pinned [.data, .data, .data, .data, .data] true :=
  OpenClaim.laidByTextAt_later rfl rfl tie noOwnUnsafe
theorem parseTokens_row_tie : Rows.parseTokensRow.laidByTextAt .later Tryd.pinned [.data, .data, .data, .data, .data] true :=
  OpenClaim.laidByTextAt_later rfl rfl tie noOwnUnsafe
theorem parseDeep_row_tie : Rows.parseDeepRow.laidByTextAt .later Tryd.pinned [.data, .data, .data, .data, .data] true :=
  OpenClaim.laidByTextAt_later rfl rfl tie noOwnUnsafe
theorem parseStandsUpto_row_tie : Rows.parseStandsUptoRow.laidByTextAt .later Tryd.pinned [.data, .data, .data, .data, .data] true :=
  OpenClaim.laidByTextAt_later rfl rfl tie noOwnUnsafe
theorem parseTokensUpto_row_tie : Rows.parseTokensUptoRow.laidByTextAt .later Tryd.pinned [.data, .data, .data, .data, .data] true :=
  OpenClaim.laidByTextAt_later rfl rfl tie noOwnUnsafe
theorem parseDeepUpto_row_tie : Rows.parseDeepUptoRow.laidByTextAt .later Tryd.pinned [.data, .data, .data, .data, .data] true :=
  OpenClaim.laidByTextAt_later rfl rfl tie noOwnUnsafe
end Go.Proofs.YtagacfcpepoaoaaDoor
