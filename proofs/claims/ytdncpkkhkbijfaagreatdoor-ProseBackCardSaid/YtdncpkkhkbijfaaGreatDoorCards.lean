/-
  DERIVED. GIVEN WITH THE SEED: THE CARDS: each row of YtdncpkkhkbijfaaGreatDoorRows.lean that lists a variable, with what it lists TIED to the program's text (the seventh form; the later family's looks); each row that meets fmt, with fmt's text TOLD by the authors' own Lean function (tested against real Go, not proved from fmt's source: count such statements apart). THE CARD IS WHAT COUNTS. Prove the row's statement (the work); the ties are given (YtdncpkkhkbijfaaGreatDoorTie.lean); close each card by the builder's one call (the guide's Derived/Test/ToyasCard.lean, 'card_holds'). Laid BY PROGRAM, IN A SANDBOX (cutbox-door.mjs). By AI agents, Wed Nov 11 2026. No macro, syntax, notation, axiom, sorry.
-/
import Derived.Test.YtdncpkkhkbijfaaGreatDoorRows
import GoSem.ClaimSeven
namespace Go.Proofs.YtdncpkkhkbijfaaGreatDoor
namespace Rows

/-- THE TIED CARD OF 'balustradelaw09.ProseBack'. -/
def proseBackCard : Claim7 := { stood := { row := proseBackRow, standIns := [], harness := (true, "d729b14acdc8a3491fa2ebd776f3daad5c23091cddb5b7109d9540971d9ce6c6"), looks := false }, kinds := [], alts := [], laidByText := true, laidKinds := [.data, .data, .data, .data, .data, .data, .data, .data, .data, .data, .data, .data, .data, .data, .data, .data], laidTests := true, laidLooks := .later }
def ProseBackCardSaid : Prop := Claim7.holds Tryz.pinned (.plain (OpenSpec.ofChange proseBackSpec)) proseBackCard

/-- THE TIED CARD OF 'balustradelaw09.ProseAgain'. -/
def proseAgainCard : Claim7 := { stood := { row := proseAgainRow, standIns := [], harness := (true, "d729b14acdc8a3491fa2ebd776f3daad5c23091cddb5b7109d9540971d9ce6c6"), looks := false }, kinds := [], alts := [], laidByText := true, laidKinds := [.data, .data, .data, .data, .data, .data, .data, .data, .data, .data, .data, .data, .data, .data, .data, .data], laidTests := true, laidLooks := .later }
def ProseAgainCardSaid : Prop := Claim7.holds Tryz.pinned (.plain (OpenSpec.ofChange proseAgainSpec)) proseAgainCard

/-- THE SECOND FORM's CARD OF 'balustradelaw09.ProseBack'. -/
def proseBackUptoCard : Claim7 := { stood := { row := proseBackUptoRow, standIns := [], harness := (true, "d729b14acdc8a3491fa2ebd776f3daad5c23091cddb5b7109d9540971d9ce6c6"), looks := false }, kinds := [], alts := [], laidByText := true, laidKinds := [.data, .data, .data, .data, .data, .data, .data, .data, .data, .data, .data, .data, .data, .data, .data, .data], laidTests := true, laidLooks := .later }
def ProseBackUptoCardSaid : Prop := Claim7.holds Tryz.pinned (.plain (OpenSpec.upto proseBackSpec)) proseBackUptoCard

/-- THE SECOND FORM's CARD OF 'balustradelaw09.ProseAgain'. -/
def proseAgainUptoCard : Claim7 := { stood := { row := proseAgainUptoRow, standIns := [], harness := (true, "d729b14acdc8a3491fa2ebd776f3daad5c23091cddb5b7109d9540971d9ce6c6"), looks := false }, kinds := [], alts := [], laidByText := true, laidKinds := [.data, .data, .data, .data, .data, .data, .data, .data, .data, .data, .data, .data, .data, .data, .data, .data], laidTests := true, laidLooks := .later }
def ProseAgainUptoCardSaid : Prop := Claim7.holds Tryz.pinned (.plain (OpenSpec.upto proseAgainSpec)) proseAgainUptoCard
end Rows
end Go.Proofs.YtdncpkkhkbijfaaGreatDoor
