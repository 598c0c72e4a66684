/-
  DERIVED. GIVEN WITH THE SEED: THE CARDS: each row of YtdncpkkhkbijfaaDoorRows.lean that lists a variable, with what it lists TIED to the program's text (the seventh form; the later family's looks); each row that meets fmt, with fmt's text TOLD by the authors' own Lean function (tested against real Go, not proved from fmt's source: count such statements apart). THE CARD IS WHAT COUNTS. Prove the row's statement (the work); the ties are given (YtdncpkkhkbijfaaDoorTie.lean); close each card by the builder's one call (the guide's Derived/Test/ToyasCard.lean, 'card_holds'). Laid BY PROGRAM, IN A SANDBOX (cutbox-door.mjs). By AI agents, Wed Nov 11 2026. No macro, syntax, notation, axiom, sorry.
-/
import Derived.Test.YtdncpkkhkbijfaaDoorRows
import GoSem.ClaimSeven
namespace Go.Proofs.YtdncpkkhkbijfaaDoor
namespace Rows

/-- THE TIED CARD OF 'balustradelaw09.ProseTells'. -/
def proseTellsCard : Claim7 := { stood := { row := proseTellsRow, standIns := [], harness := (true, "5bc9d79dee5a40d5aada4d22c51b1e9e011ce374bdca19ee9febca94412d468e"), looks := false }, kinds := [], alts := [], laidByText := true, laidKinds := [.data, .data, .data, .data, .data, .data, .data, .data, .data, .data, .data], laidTests := true, laidLooks := .later }
def ProseTellsCardSaid : Prop := Claim7.holds Tryd.pinned (.plain (OpenSpec.ofChange proseTellsSpec)) proseTellsCard

/-- THE SECOND FORM's CARD OF 'balustradelaw09.ProseTells'. -/
def proseTellsUptoCard : Claim7 := { stood := { row := proseTellsUptoRow, standIns := [], harness := (true, "5bc9d79dee5a40d5aada4d22c51b1e9e011ce374bdca19ee9febca94412d468e"), looks := false }, kinds := [], alts := [], laidByText := true, laidKinds := [.data, .data, .data, .data, .data, .data, .data, .data, .data, .data, .data], laidTests := true, laidLooks := .later }
def ProseTellsUptoCardSaid : Prop := Claim7.holds Tryd.pinned (.plain (OpenSpec.upto proseTellsSpec)) proseTellsUptoCard
end Rows
end Go.Proofs.YtdncpkkhkbijfaaDoor
