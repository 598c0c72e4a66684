/- Slices of pairs of ints (structs of two ints) that come in. Of the program only its table of types. -/
import Derived.Test.YtingebjeefncaaaGenIn
import Derived.Test.YtingebjeefncaaaRows
import Derived.Deep.SlicePairs
import Derived.WalkKit
namespace Go.Proofs.Ytingebjeefncaaa
open Go.ChangeShapes Go.WideShapes Go.ChangeAt Go.RowKit
set_option linter.unusedVariables false

/-- what is told of a slice of pairs of ints that came in -/
def Pairs (w : World) (a : Option Addr) (len : Nat) (f g : Nat → Int) : Prop :=
  0 < len → ∃ b off, a = some ⟨b, off, none⟩ ∧ b < w.heap.size ∧ ∀ j, j < len → w.cell? ⟨b, off + j * 2, none⟩ = some (.int .i64 (f j)) ∧ w.cell? ⟨b, off + j * 2 + 1, none⟩ = some (.int .i64 (g j))
/-- what came in as a slice of pairs of ints -/
def IsPairs (w : World) (a : Option Addr) (len cap : Nat) (f g : Nat → Int) : Prop := len ≤ 9223372036854775807 ∧ Pairs w a len f g
theorem pairs_in {H : Type} {enc : TypeId × Value → H} {w : World} {base : Nat} {spare : Nat → Bool} {held : Bool} {t e : TypeId} {f0 f1 : Field} {fuel len cap : Nat} {a : Option Addr} {x : DataW H × List MemPlace}
    (ht : Try.prog.underlying t = some (.slice e)) (he : Try.prog.underlying e = some (.struct #[f0, f1]))
    (ce : Try.prog.cellsOf e = 2) (o0 : f0.offset = 0) (o1 : f1.offset = 1) (c0 : f0.type = 3) (c1 : f1.type = 3)
    (h : DataW.trod enc Try.prog w base spare held fuel t (Value.slice a len cap).cells.toList = some x) : ∃ f g, IsPairs w a len cap f g := by
  have ci : Try.prog.cellsOf 3 = 1 := by kernel_rfl
  rcases Go.Deep.open_slice_pairs ht he ce o0 o1 (by rw [c0]; exact ci) (by rw [c1]; exact ci) h with ⟨hcs, _⟩ | ⟨ad, l, cp, m, n, V0, V1, D0, D1, P0, P1, hcs, _, hl, hm, hmm, _, hx⟩
  · simp [Value.cells] at hcs
    obtain ⟨rfl, rfl, rfl⟩ := hcs
    exact ⟨fun _ => 0, fun _ => 0, by omega, fun h => by omega⟩
  · simp [Value.cells] at hcs
    obtain ⟨rfl, rfl, rfl⟩ := hcs
    have hlm : len ≤ m := by rw [hmm]; split <;> omega
    refine ⟨fun j => intOf (V0 j), fun j => intOf (V1 j), by unfold maxLen at hm; omega, fun hp => ?_⟩
    obtain ⟨b, off, spot⟩ := ad
    have h0 := (hx 0 (by omega)).1
    have hspot : spot = none := by simpa [Addr.add] using World.cell?_spot h0
    subst hspot
    refine ⟨b, off, rfl, ?_, fun j hj => ?_⟩
    · have := cell_lt h0
      simpa [Addr.add] using this
    · obtain ⟨hc0, hc1, ht0, ht1⟩ := hx j (by omega)
      rw [c0] at ht0
      rw [c1] at ht1
      obtain ⟨n0, e0, _, _⟩ := DataW.trod_int Try.underlying3 ht0
      obtain ⟨n1, e1, _, _⟩ := DataW.trod_int Try.underlying3 ht1
      simp only [List.cons.injEq, and_true] at e0 e1
      rw [Go.WideShapes.add_plain] at hc0 hc1
      refine ⟨?_, ?_⟩
      · rw [hc0, e0]
        show _ = some (Value.int .i64 (intOf (V0 j)))
        rw [e0]
        rfl
      · rw [Nat.add_assoc, hc1, e1]
        show _ = some (Value.int .i64 (intOf (V1 j)))
        rw [e1]
        rfl

end Go.Proofs.Ytingebjeefncaaa
