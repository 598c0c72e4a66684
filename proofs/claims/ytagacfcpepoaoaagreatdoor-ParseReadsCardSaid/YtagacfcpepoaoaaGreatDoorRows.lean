/-
  NARROWER THAN 'FOR EVERY INPUT', by the rows' own cells (each row's printed sentence says how): ParseReads: laid.
  DERIVED. THE GIVEN ROWS OF THIS SEAT. 1 by the template 'for every input the law returns true; each argument reads behind the call as it read before'; 0 by the template 'total and deterministic' (their statements: YtagacfcpepoaoaaGreatDoorTotals.lean).
  GIVEN WITH THE SEED: the statements are not yours to turn. If you find one false, say at which input.
  Laid BY PROGRAM, IN A SANDBOX (cutbox-rows.mjs): the forced cells as the released guide's own fill.sh prints them over the translation 02024296dbfb8570… (all of the seat's roots in one cut). By AI agents, Wed Nov 11 2026. No macro, syntax, notation, axiom, sorry.
-/
import Derived.Test.YtagacfcpepoaoaaGreatDoorChecked
import GoSem.Claim
import GoSem.ClaimJoined
import GoSem.ClaimMapViews
import Derived.JoinedTies
import Derived.KernelRfl
namespace Go.Proofs.YtagacfcpepoaoaaGreatDoor
/- THE CELL 'sum', in the pinned program and in every row, IS THE sha256 OF THE DUMP (.gsa) THAT YtagacfcpepoaoaaGreatDoorProg.lean LOADS. Nothing in Lean hashes anything: it is a label: what it is worth is what the hold of that sum in a sandbox is worth. -/
noncomputable def Tryz.pinned : Pinned := { name := "ytagacfcpepoaoaagreatdoor", sum := "02024296dbfb8570d7a574a9f3b48e1df0d5f45b3abc42e56baf732c9e0fc91e", checked := Tryz.checked }
namespace Rows
def none {H : Type} : Left H := { results := [], args := [] }

/- WHAT THE LISTED PACKAGE-LEVEL VARIABLES READ AS WHEN THE CALL BEGINS. Each datum BY PROGRAM (the guide's laid-datum.mjs) off the statement by which the dump's own 'gosem.cut.vars' lays the variable. In a bare row this is a premise. The card (YtagacfcpepoaoaaGreatDoorCards.lean) ties it to the program's text. -/
def laid_balustrade_lex_keyWords {H : Type} : DataW H := .agg [.lit (.string [102, 110]), .lit (.string [118, 97, 114]), .lit (.string [105, 102]), .lit (.string [101, 108, 115, 101]), .lit (.string [119, 104, 105, 108, 101]), .lit (.string [102, 111, 114]), .lit (.string [98, 114, 101, 97, 107]), .lit (.string [99, 111, 110, 116, 105, 110, 117, 101]), .lit (.string [114, 101, 116, 117, 114, 110]), .lit (.string [112, 114, 105, 110, 116]), .lit (.string [108, 101, 110]), .lit (.string [110, 101, 119]), .lit (.string [116, 114, 117, 101]), .lit (.string [102, 97, 108, 115, 101]), .lit (.string [110, 105, 108]), .lit (.string [105, 110, 116]), .lit (.string [98, 111, 111, 108]), .lit (.string [97, 114, 114])]
def laid_balustrade_expr_signs {H : Type} : DataW H := .agg [.lit (.string []), .lit (.string [124, 124]), .lit (.string [38, 38]), .lit (.string [61, 61]), .lit (.string [33, 61]), .lit (.string [60]), .lit (.string [60, 61]), .lit (.string [62]), .lit (.string [62, 61]), .lit (.string [43]), .lit (.string [45]), .lit (.string [43, 37]), .lit (.string [45, 37]), .lit (.string [42]), .lit (.string [47]), .lit (.string [37]), .lit (.string [42, 37])]
def laid_balustrade_expr_strengths {H : Type} : DataW H := .agg [.agg [.lit (.int .i64 1), .lit (.int .i64 1), .lit (.bool false)], .agg [.lit (.int .i64 2), .lit (.int .i64 2), .lit (.bool false)], .agg [.lit (.int .i64 3), .lit (.int .i64 8), .lit (.bool true)], .agg [.lit (.int .i64 9), .lit (.int .i64 12), .lit (.bool false)], .agg [.lit (.int .i64 13), .lit (.int .i64 16), .lit (.bool false)]]
def laid_balustrade_expr_fronts {H : Type} : DataW H := .agg [.agg [.lit (.string [45]), .lit (.int .i64 6)], .agg [.lit (.string [33]), .lit (.int .i64 7)]]
def laid_balustrade_parse_kindWords {H : Type} : DataW H := .agg [.lit (.string []), .lit (.string [105, 110, 116]), .lit (.string [98, 111, 111, 108]), .lit (.string [97, 114, 114])]

/-- 'balustradelaw08.ParseReads': WHATEVER THE INPUT: true; the input reads as it did. -/
def parseReadsSpec : ChangeSpec := { name := "parseReads", fn := fun _ => fun
  | [d] => { results := [.lit (.bool true)], args := [d] }
  | _ => none }
def parseReadsRow : OpenClaim := { program := "ytagacfcpepoaoaagreatdoor", sum := "02024296dbfb8570d7a574a9f3b48e1df0d5f45b3abc42e56baf732c9e0fc91e", func := "balustrade/balustradelaw08.ParseReads", spec := "parseReads", unfollowed := true, recurses := true, named := ["balustrade/lex.keyWords", "balustrade/expr.strengths", "balustrade/expr.signs", "balustrade/expr.fronts", "balustrade/parse.kindWords"], apart := false, laid := [("balustrade/lex.keyWords", laid_balustrade_lex_keyWords), ("balustrade/expr.signs", laid_balustrade_expr_signs), ("balustrade/expr.strengths", laid_balustrade_expr_strengths), ("balustrade/expr.fronts", laid_balustrade_expr_fronts), ("balustrade/parse.kindWords", laid_balustrade_parse_kindWords)] }
def ParseReadsSaid : Prop := parseReadsRow.holds Tryz.pinned (OpenSpec.ofChange parseReadsSpec)

/-- ITS FALSE NEIGHBOUR: 'it returns false'. Refute it at one input. -/
def parseReadsWrong : ChangeSpec := { name := "parseReads", fn := fun _ => fun
  | [d] => { results := [.lit (.bool false)], args := [d] }
  | _ => none }
def ParseReadsWrongFalsely : Prop := parseReadsRow.holds Tryz.pinned (OpenSpec.ofChange parseReadsWrong)

/- THE SECOND FORM. 'bulk': how many values and letters a reading holds, each counted each time it is reached (what is shared counts as often as it is met; a slice's spare places count too). A statement '..UptoSaid' is the law's where the arguments, and the package variables that the reading takes, are together of bulk at most 1048576: NARROWER than '..Said'. Prove '..Said' where nothing that the law and all that it calls make is longer than what came in: it says more and counts as full. Else prove '..UptoSaid'. A law counts once. -/
mutual
def uptoBulk {H : Type} : DataW H → Nat
  | .lit (.string bytes) => bytes.length + 1
  | .lit _ => 1
  | .nil => 1
  | .ptr d => uptoBulk d + 1
  | .slice elems spare => uptoBulkAll elems + uptoBulkAll spare + 1
  | .agg parts => uptoBulkAll parts + 1
  | .iface _ d => uptoBulk d + 1
  | .map entries => uptoBulkEntries entries + 1
  | .held _ => 1
def uptoBulkAll {H : Type} : List (DataW H) → Nat
  | [] => 0
  | d :: r => uptoBulk d + uptoBulkAll r
def uptoBulkEntries {H : Type} : List (Lit × DataW H) → Nat
  | [] => 0
  | x :: r => uptoBulkEntry x + uptoBulkEntries r
def uptoBulkEntry {H : Type} : Lit × DataW H → Nat
  | (.string bytes, d) => bytes.length + uptoBulk d + 1
  | (_, d) => uptoBulk d + 1
 end
def uptoSmall : (H : Type) → List (DataW H) → Bool := fun _ ds => decide (uptoBulkAll ds ≤ 1048576)
def OpenSpec.upto (s : _root_.Go.ChangeSpec) : _root_.Go.OpenSpec := { _root_.Go.OpenSpec.ofChange s with cond := some uptoSmall }

/-- 'balustradelaw08.ParseReads', WHERE WHAT IT READS IS OF BULK AT MOST 1048576: true; the input reads as it did. -/
def parseReadsUptoRow : OpenClaim := { program := "ytagacfcpepoaoaagreatdoor", sum := "02024296dbfb8570d7a574a9f3b48e1df0d5f45b3abc42e56baf732c9e0fc91e", func := "balustrade/balustradelaw08.ParseReads", spec := "parseReads", unfollowed := true, recurses := true, named := ["balustrade/lex.keyWords", "balustrade/expr.strengths", "balustrade/expr.signs", "balustrade/expr.fronts", "balustrade/parse.kindWords"], apart := false, laid := [("balustrade/lex.keyWords", laid_balustrade_lex_keyWords), ("balustrade/expr.signs", laid_balustrade_expr_signs), ("balustrade/expr.strengths", laid_balustrade_expr_strengths), ("balustrade/expr.fronts", laid_balustrade_expr_fronts), ("balustrade/parse.kindWords", laid_balustrade_parse_kindWords)], narrowed := true }
def ParseReadsUptoSaid : Prop := parseReadsUptoRow.holds Tryz.pinned (OpenSpec.upto parseReadsSpec)

end Rows
end Go.Proofs.YtagacfcpepoaoaaGreatDoor
