/-
  NARROWER THAN 'FOR EVERY INPUT', by the rows' own cells (each row's printed sentence says how): ExprStands: laid · ExprBrackets: laid · ExprDeep: laid.
  DERIVED. THE GIVEN ROWS OF THIS SEAT. 3 by the template 'for every input the law returns true; each argument reads behind the call as it read before'; 0 by the template 'total and deterministic' (their statements: YtnmeijcaaohnpaaDoorTotals.lean).
  GIVEN WITH THE SEED: the statements are not yours to turn. If you find one false, say at which input.
  Laid BY PROGRAM, IN A SANDBOX (cutbox-rows.mjs): the forced cells as the released guide's own fill.sh prints them over the translation b0c2b757dd3b4f63… (all of the seat's roots in one cut). By AI agents, Wed Nov 11 2026. No macro, syntax, notation, axiom, sorry.
-/
import Derived.Test.YtnmeijcaaohnpaaDoorChecked
import GoSem.Claim
import GoSem.ClaimJoined
import GoSem.ClaimMapViews
import Derived.JoinedTies
import Derived.KernelRfl
namespace Go.Proofs.YtnmeijcaaohnpaaDoor
/- THE CELL 'sum', in the pinned program and in every row, IS THE sha256 OF THE DUMP (.gsa) THAT YtnmeijcaaohnpaaDoorProg.lean LOADS. Nothing in Lean hashes anything: it is a label: what it is worth is what the hold of that sum in a sandbox is worth. -/
noncomputable def Tryd.pinned : Pinned := { name := "ytnmeijcaaohnpaadoor", sum := "b0c2b757dd3b4f6329ff0ee7b27ce38a2780e1f17ce4790286945ac3512f1270", checked := Tryd.checked }
namespace Rows
def none {H : Type} : Left H := { results := [], args := [] }

/- WHAT THE LISTED PACKAGE-LEVEL VARIABLES READ AS WHEN THE CALL BEGINS. Each datum BY PROGRAM (the guide's laid-datum.mjs) off the statement by which the dump's own 'gosem.cut.vars' lays the variable. In a bare row this is a premise. The card (YtnmeijcaaohnpaaDoorCards.lean) ties it to the program's text. -/
def laid_balustrade_expr_signs {H : Type} : DataW H := .agg [.lit (.string []), .lit (.string [124, 124]), .lit (.string [38, 38]), .lit (.string [61, 61]), .lit (.string [33, 61]), .lit (.string [60]), .lit (.string [60, 61]), .lit (.string [62]), .lit (.string [62, 61]), .lit (.string [43]), .lit (.string [45]), .lit (.string [43, 37]), .lit (.string [45, 37]), .lit (.string [42]), .lit (.string [47]), .lit (.string [37]), .lit (.string [42, 37])]
def laid_balustrade_expr_strengths {H : Type} : DataW H := .agg [.agg [.lit (.int .i64 1), .lit (.int .i64 1), .lit (.bool false)], .agg [.lit (.int .i64 2), .lit (.int .i64 2), .lit (.bool false)], .agg [.lit (.int .i64 3), .lit (.int .i64 8), .lit (.bool true)], .agg [.lit (.int .i64 9), .lit (.int .i64 12), .lit (.bool false)], .agg [.lit (.int .i64 13), .lit (.int .i64 16), .lit (.bool false)]]
def laid_balustrade_expr_fronts {H : Type} : DataW H := .agg [.agg [.lit (.string [45]), .lit (.int .i64 6)], .agg [.lit (.string [33]), .lit (.int .i64 7)]]

/-- 'balustradelaw07.ExprStands': WHATEVER THE INPUT: true; the input reads as it did. -/
def exprStandsSpec : ChangeSpec := { name := "exprStands", fn := fun _ => fun
  | [d] => { results := [.lit (.bool true)], args := [d] }
  | _ => none }
def exprStandsRow : OpenClaim := { program := "ytnmeijcaaohnpaadoor", sum := "b0c2b757dd3b4f6329ff0ee7b27ce38a2780e1f17ce4790286945ac3512f1270", func := "balustrade/balustradelaw07.ExprStands", spec := "exprStands", recurses := true, named := ["balustrade/expr.strengths", "balustrade/expr.signs", "balustrade/expr.fronts"], apart := false, laid := [("balustrade/expr.signs", laid_balustrade_expr_signs), ("balustrade/expr.strengths", laid_balustrade_expr_strengths), ("balustrade/expr.fronts", laid_balustrade_expr_fronts)] }
def ExprStandsSaid : Prop := exprStandsRow.holds Tryd.pinned (OpenSpec.ofChange exprStandsSpec)

/-- ITS FALSE NEIGHBOUR: 'it returns false'. Refute it at one input. -/
def exprStandsWrong : ChangeSpec := { name := "exprStands", fn := fun _ => fun
  | [d] => { results := [.lit (.bool false)], args := [d] }
  | _ => none }
def ExprStandsWrongFalsely : Prop := exprStandsRow.holds Tryd.pinned (OpenSpec.ofChange exprStandsWrong)

/-- 'balustradelaw07.ExprBrackets': WHATEVER THE INPUT: true; the input reads as it did. -/
def exprBracketsSpec : ChangeSpec := { name := "exprBrackets", fn := fun _ => fun
  | [d1, d2] => { results := [.lit (.bool true)], args := [d1, d2] }
  | _ => none }
def exprBracketsRow : OpenClaim := { program := "ytnmeijcaaohnpaadoor", sum := "b0c2b757dd3b4f6329ff0ee7b27ce38a2780e1f17ce4790286945ac3512f1270", func := "balustrade/balustradelaw07.ExprBrackets", spec := "exprBrackets", recurses := true, named := ["balustrade/expr.strengths", "balustrade/expr.signs", "balustrade/expr.fronts"], apart := false, laid := [("balustrade/expr.signs", laid_balustrade_expr_signs), ("balustrade/expr.strengths", laid_balustrade_expr_strengths), ("balustrade/expr.fronts", laid_balustrade_expr_fronts)] }
def ExprBracketsSaid : Prop := exprBracketsRow.holds Tryd.pinned (OpenSpec.ofChange exprBracketsSpec)

/-- ITS FALSE NEIGHBOUR: 'it returns false'. Refute it at one input. -/
def exprBracketsWrong : ChangeSpec := { name := "exprBrackets", fn := fun _ => fun
  | [d1, d2] => { results := [.lit (.bool false)], args := [d1, d2] }
  | _ => none }
def ExprBracketsWrongFalsely : Prop := exprBracketsRow.holds Tryd.pinned (OpenSpec.ofChange exprBracketsWrong)

/-- 'balustradelaw07.ExprDeep': WHATEVER THE INPUT: true; the input reads as it did. -/
def exprDeepSpec : ChangeSpec := { name := "exprDeep", fn := fun _ => fun
  | [d1, d2] => { results := [.lit (.bool true)], args := [d1, d2] }
  | _ => none }
def exprDeepRow : OpenClaim := { program := "ytnmeijcaaohnpaadoor", sum := "b0c2b757dd3b4f6329ff0ee7b27ce38a2780e1f17ce4790286945ac3512f1270", func := "balustrade/balustradelaw07.ExprDeep", spec := "exprDeep", recurses := true, named := ["balustrade/expr.strengths", "balustrade/expr.signs", "balustrade/expr.fronts"], apart := false, laid := [("balustrade/expr.signs", laid_balustrade_expr_signs), ("balustrade/expr.strengths", laid_balustrade_expr_strengths), ("balustrade/expr.fronts", laid_balustrade_expr_fronts)] }
def ExprDeepSaid : Prop := exprDeepRow.holds Tryd.pinned (OpenSpec.ofChange exprDeepSpec)

/-- ITS FALSE NEIGHBOUR: 'it returns false'. Refute it at one input. -/
def exprDeepWrong : ChangeSpec := { name := "exprDeep", fn := fun _ => fun
  | [d1, d2] => { results := [.lit (.bool false)], args := [d1, d2] }
  | _ => none }
def ExprDeepWrongFalsely : Prop := exprDeepRow.holds Tryd.pinned (OpenSpec.ofChange exprDeepWrong)

/- THE SECOND FORM. 'bulk': how many values and letters a reading holds, each counted each time it is reached (what is shared counts as often as it is met; a slice's spare places count too). A statement '..UptoSaid' is the law's where the arguments, and the package variables that the reading takes, are together of bulk at most 1048576: NARROWER than '..Said'. Prove '..Said' where nothing that the law and all that it calls make is longer than what came in: it says more and counts as full. Else prove '..UptoSaid'. A law counts once. -/
mutual
def uptoBulk {H : Type} : DataW H → Nat
  | .lit (.string bytes) => bytes.length + 1
  | .lit _ => 1
  | .nil => 1
  | .ptr d => uptoBulk d + 1
  | .slice elems spare => uptoBulkAll elems + uptoBulkAll spare + 1
  | .agg parts => uptoBulkAll parts + 1
  | .iface _ d => uptoBulk d + 1
  | .map entries => uptoBulkEntries entries + 1
  | .held _ => 1
def uptoBulkAll {H : Type} : List (DataW H) → Nat
  | [] => 0
  | d :: r => uptoBulk d + uptoBulkAll r
def uptoBulkEntries {H : Type} : List (Lit × DataW H) → Nat
  | [] => 0
  | x :: r => uptoBulkEntry x + uptoBulkEntries r
def uptoBulkEntry {H : Type} : Lit × DataW H → Nat
  | (.string bytes, d) => bytes.length + uptoBulk d + 1
  | (_, d) => uptoBulk d + 1
 end
def uptoSmall : (H : Type) → List (DataW H) → Bool := fun _ ds => decide (uptoBulkAll ds ≤ 1048576)
def OpenSpec.upto (s : _root_.Go.ChangeSpec) : _root_.Go.OpenSpec := { _root_.Go.OpenSpec.ofChange s with cond := some uptoSmall }

/-- 'balustradelaw07.ExprStands', WHERE WHAT IT READS IS OF BULK AT MOST 1048576: true; the input reads as it did. -/
def exprStandsUptoRow : OpenClaim := { program := "ytnmeijcaaohnpaadoor", sum := "b0c2b757dd3b4f6329ff0ee7b27ce38a2780e1f17ce4790286945ac3512f1270", func := "balustrade/balustradelaw07.ExprStands", spec := "exprStands", recurses := true, named := ["balustrade/expr.strengths", "balustrade/expr.signs", "balustrade/expr.fronts"], apart := false, laid := [("balustrade/expr.signs", laid_balustrade_expr_signs), ("balustrade/expr.strengths", laid_balustrade_expr_strengths), ("balustrade/expr.fronts", laid_balustrade_expr_fronts)], narrowed := true }
def ExprStandsUptoSaid : Prop := exprStandsUptoRow.holds Tryd.pinned (OpenSpec.upto exprStandsSpec)

/-- 'balustradelaw07.ExprBrackets', WHERE WHAT IT READS IS OF BULK AT MOST 1048576: true; the input reads as it did. -/
def exprBracketsUptoRow : OpenClaim := { program := "ytnmeijcaaohnpaadoor", sum := "b0c2b757dd3b4f6329ff0ee7b27ce38a2780e1f17ce4790286945ac3512f1270", func := "balustrade/balustradelaw07.ExprBrackets", spec := "exprBrackets", recurses := true, named := ["balustrade/expr.strengths", "balustrade/expr.signs", "balustrade/expr.fronts"], apart := false, laid := [("balustrade/expr.signs", laid_balustrade_expr_signs), ("balustrade/expr.strengths", laid_balustrade_expr_strengths), ("balustrade/expr.fronts", laid_balustrade_expr_fronts)], narrowed := true }
def ExprBracketsUptoSaid : Prop := exprBracketsUptoRow.holds Tryd.pinned (OpenSpec.upto exprBracketsSpec)

/-- 'balustradelaw07.ExprDeep', WHERE WHAT IT READS IS OF BULK AT MOST 1048576: true; the input reads as it did. -/
def exprDeepUptoRow : OpenClaim := { program := "ytnmeijcaaohnpaadoor", sum := "b0c2b757dd3b4f6329ff0ee7b27ce38a2780e1f17ce4790286945ac3512f1270", func := "balustrade/balustradelaw07.ExprDeep", spec := "exprDeep", recurses := true, named := ["balustrade/expr.strengths", "balustrade/expr.signs", "balustrade/expr.fronts"], apart := false, laid := [("balustrade/expr.signs", laid_balustrade_expr_signs), ("balustrade/expr.strengths", laid_balustrade_expr_strengths), ("balustrade/expr.fronts", laid_balustrade_expr_fronts)], narrowed := true }
def ExprDeepUptoSaid : Prop := exprDeepUptoRow.holds Tryd.pinned (OpenSpec.upto exprDeepSpec)

end Rows
end Go.Proofs.YtnmeijcaaohnpaaDoor
