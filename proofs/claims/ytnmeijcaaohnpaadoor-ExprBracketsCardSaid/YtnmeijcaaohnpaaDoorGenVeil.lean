/- A code that is kept out of the walk's sight. No program. -/
import Derived.WalkKit
namespace Go.Proofs.YtnmeijcaaohnpaaDoor
set_option linter.unusedVariables false

/-- a code that the walk does not open -/
def Veil (c : Code) : Code := c
theorem veil (id : Nat) (ops : Array Oper) : Code.region id ops false = Veil (Code.region id ops false) := rfl
theorem wp_veil {P : Program} {c : Code} {Q : Exit → Act → World → Prop} {a : Act} {w : World} (h : c.wp P Q a w) : (Veil c).wp P Q a w := h
end Go.Proofs.YtnmeijcaaohnpaaDoor
