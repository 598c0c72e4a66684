/-
  DERIVED. GIVEN WITH THE SEED: THE PROGRAM's TIES (one call each: nine closed facts by the kernel) AND EACH ROW's TIE, after the 31st guide's Derived/Test/Toyas{Tie, Card}.lean. No idea stands in it: it is a product of the set-up. Laid BY PROGRAM, IN A SANDBOX (cutbox-door.mjs). By AI agents, Wed Nov 11 2026. No macro, syntax, notation, axiom, sorry.
-/
import Derived.Test.YtagacfcpepoaoaaGreatDoorRows
import Derived.LaidByTextLater
import Derived.SevenTiedAt
import Derived.LaidSub
import Derived.LaidOnce
namespace Go.Proofs.YtagacfcpepoaoaaGreatDoor
open Go
set_option maxRecDepth 100000
theorem seatTie1 : Tryz.prog.laidByTextLater [("balustrade/lex.keyWords", Rows.laid_balustrade_lex_keyWords), ("balustrade/expr.signs", Rows.laid_balustrade_expr_signs), ("balustrade/expr.strengths", Rows.laid_balustrade_expr_strengths), ("balustrade/expr.fronts", Rows.laid_balustrade_expr_fronts), ("balustrade/parse.kindWords", Rows.laid_balustrade_parse_kindWords)] [.data, .data, .data, .data, .data] true :=
  Program.laidByTextLater_by_one 41 8 19 (by kernel_rfl) (by kernel_rfl) (by kernel_rfl) (by kernel_rfl) (by kernel_rfl) (by kernel_rfl) (fun _ _ => by kernel_rfl)
theorem noOwnUnsafe : Tryz.pinned.checked.prog.headLifts.contains "ownunsafe" = false := by kernel_rfl
theorem tie : Tryz.prog.laidByTextLater [("balustrade/lex.keyWords", Rows.laid_balustrade_lex_keyWords), ("balustrade/expr.signs", Rows.laid_balustrade_expr_signs), ("balustrade/expr.strengths", Rows.laid_balustrade_expr_strengths), ("balustrade/expr.fronts", Rows.laid_balustrade_expr_fronts), ("balustrade/parse.kindWords", Rows.laid_balustrade_parse_kindWords)] [.data, .data, .data, .data, .data] true :=
  Program.laidByTextLater.sub seatTie1 ["balustrade/lex.keyWords", "balustrade/expr.signs", "balustrade/expr.strengths", "balustrade/expr.fronts", "balustrade/parse.kindWords"] (by kernel_rfl) (by kernel_rfl)
theorem parseReads_row_tie : Rows.parseReadsRow.laidByTextAt .later Tryz.pinned [.data, .data, .data, .data, .data] true :=
  OpenClaim.laidByTextAt_later rfl rfl tie noOwnUnsafe
theorem parseReadsUpto_row_tie : Rows.parseReadsUptoRow.laidByTextAt .later Tryz.pinned [.data, .data, .data, .data, .data] true :=
  OpenClaim.laidByTextAt_later rfl rfl tie noOwnUnsafe
end Go.Proofs.YtagacfcpepoaoaaGreatDoor
