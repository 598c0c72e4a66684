/-
  DERIVED. GIVEN WITH THE SEED: THE CARDS: each row of YtnmeijcaaohnpaaDoorRows.lean that lists a variable, with what it lists TIED to the program's text (the seventh form; the later family's looks); each row that meets fmt, with fmt's text TOLD by the authors' own Lean function (tested against real Go, not proved from fmt's source: count such statements apart). THE CARD IS WHAT COUNTS. Prove the row's statement (the work); the ties are given (YtnmeijcaaohnpaaDoorTie.lean); close each card by the builder's one call (the guide's Derived/Test/ToyasCard.lean, 'card_holds'). Laid BY PROGRAM, IN A SANDBOX (cutbox-door.mjs). By AI agents, Wed Nov 11 2026. No macro, syntax, notation, axiom, sorry.
-/
import Derived.Test.YtnmeijcaaohnpaaDoorRows
import GoSem.ClaimSeven
namespace Go.Proofs.YtnmeijcaaohnpaaDoor
namespace Rows

/-- THE TIED CARD OF 'balustradelaw07.ExprStands'. -/
def exprStandsCard : Claim7 := { stood := { row := exprStandsRow, standIns := [], harness := (true, "8171496cbf4748cbcf78e7ea5450f6ff5502a2ff2ee2c60824b229209d29bebb"), looks := false }, kinds := [], alts := [], laidByText := true, laidKinds := [.data, .data, .data], laidTests := true, laidLooks := .later }
def ExprStandsCardSaid : Prop := Claim7.holds Tryd.pinned (.plain (OpenSpec.ofChange exprStandsSpec)) exprStandsCard

/-- THE TIED CARD OF 'balustradelaw07.ExprBrackets'. -/
def exprBracketsCard : Claim7 := { stood := { row := exprBracketsRow, standIns := [], harness := (true, "8171496cbf4748cbcf78e7ea5450f6ff5502a2ff2ee2c60824b229209d29bebb"), looks := false }, kinds := [], alts := [], laidByText := true, laidKinds := [.data, .data, .data], laidTests := true, laidLooks := .later }
def ExprBracketsCardSaid : Prop := Claim7.holds Tryd.pinned (.plain (OpenSpec.ofChange exprBracketsSpec)) exprBracketsCard

/-- THE TIED CARD OF 'balustradelaw07.ExprDeep'. -/
def exprDeepCard : Claim7 := { stood := { row := exprDeepRow, standIns := [], harness := (true, "8171496cbf4748cbcf78e7ea5450f6ff5502a2ff2ee2c60824b229209d29bebb"), looks := false }, kinds := [], alts := [], laidByText := true, laidKinds := [.data, .data, .data], laidTests := true, laidLooks := .later }
def ExprDeepCardSaid : Prop := Claim7.holds Tryd.pinned (.plain (OpenSpec.ofChange exprDeepSpec)) exprDeepCard

/-- THE SECOND FORM's CARD OF 'balustradelaw07.ExprStands'. -/
def exprStandsUptoCard : Claim7 := { stood := { row := exprStandsUptoRow, standIns := [], harness := (true, "8171496cbf4748cbcf78e7ea5450f6ff5502a2ff2ee2c60824b229209d29bebb"), looks := false }, kinds := [], alts := [], laidByText := true, laidKinds := [.data, .data, .data], laidTests := true, laidLooks := .later }
def ExprStandsUptoCardSaid : Prop := Claim7.holds Tryd.pinned (.plain (OpenSpec.upto exprStandsSpec)) exprStandsUptoCard

/-- THE SECOND FORM's CARD OF 'balustradelaw07.ExprBrackets'. -/
def exprBracketsUptoCard : Claim7 := { stood := { row := exprBracketsUptoRow, standIns := [], harness := (true, "8171496cbf4748cbcf78e7ea5450f6ff5502a2ff2ee2c60824b229209d29bebb"), looks := false }, kinds := [], alts := [], laidByText := true, laidKinds := [.data, .data, .data], laidTests := true, laidLooks := .later }
def ExprBracketsUptoCardSaid : Prop := Claim7.holds Tryd.pinned (.plain (OpenSpec.upto exprBracketsSpec)) exprBracketsUptoCard

/-- THE SECOND FORM's CARD OF 'balustradelaw07.ExprDeep'. -/
def exprDeepUptoCard : Claim7 := { stood := { row := exprDeepUptoRow, standIns := [], harness := (true, "8171496cbf4748cbcf78e7ea5450f6ff5502a2ff2ee2c60824b229209d29bebb"), looks := false }, kinds := [], alts := [], laidByText := true, laidKinds := [.data, .data, .data], laidTests := true, laidLooks := .later }
def ExprDeepUptoCardSaid : Prop := Claim7.holds Tryd.pinned (.plain (OpenSpec.upto exprDeepSpec)) exprDeepUptoCard
end Rows
end Go.Proofs.YtnmeijcaaohnpaaDoor
