/- Slices of numbers that come in. No program. -/
import Derived.Test.YtncbkedfodaabaaGenRow
import Derived.OpenShut
import Derived.ProofKit
namespace Go.Proofs.Ytncbkedfodaabaa
open Go.ChangeShapes Go.WideShapes Go.ChangeAt Go.RowKit
set_option linter.unusedVariables false

/-- what is told of a slice of integers that came in -/
def IsRow (k : IntKind) (w : World) (a : Option Addr) (len cap : Nat) (zs : List Int) : Prop :=
  (a = none ∧ len = 0 ∧ cap = 0 ∧ zs = []) ∨
  ∃ x, a = some x ∧ len ≤ cap ∧ cap ≤ maxLen ∧ zs.length = cap ∧ (∀ i, i < zs.length → w.cell? (x.add i) = some (.int k (zs.getD i 0))) ∧ ∀ n ∈ zs, (Lit.int k n).wf = true
theorem IsRow.none {k : IntKind} {w : World} {a : Option Addr} {len cap : Nat} {zs : List Int} (h : IsRow k w a len cap zs) : a = none → len = 0 ∧ cap = 0 := by
  intro ha
  rcases h with ⟨_, h1, h2, _⟩ | ⟨x, h1, _⟩
  · exact ⟨h1, h2⟩
  · rw [ha] at h1; cases h1
theorem IsRow.len {k : IntKind} {w : World} {a : Option Addr} {len cap : Nat} {zs : List Int} (h : IsRow k w a len cap zs) : len ≤ zs.length ∧ len ≤ 9223372036854775807 := by
  rcases h with ⟨_, h1, h2, rfl⟩ | ⟨x, h1, h2, h3, h4, _⟩
  · subst h1; exact ⟨by simp, by omega⟩
  · unfold maxLen at h3; exact ⟨by omega, by omega⟩
theorem cell_lt {w : World} {p : Addr} {v : Value} (h : w.cell? p = some v) : p.block < w.heap.size := by
  apply Nat.lt_of_not_le
  intro hle
  have e : w.heap[p.block]? = none := Array.getElem?_eq_none hle
  simp [World.cell?, e] at h
theorem IsRow.rows {k : IntKind} {w : World} {a : Option Addr} {len cap : Nat} {zs : List Int} (h : IsRow k w a len cap zs) : Rows' k w a len (fun j => zs.getD j 0) := by
  intro hpos
  rcases h with ⟨_, h1, _, _⟩ | ⟨x, rfl, hl, hm, hz, hcell, hwz⟩
  · omega
  · obtain ⟨b, off, rfl, hc⟩ := ints_at hcell (by omega)
    refine ⟨b, off, rfl, ?_, fun j hj => hc j (by omega)⟩
    have := hc 0 (by omega)
    exact cell_lt this
theorem IsRow.fits {k : IntKind} {w : World} {a : Option Addr} {len cap : Nat} {zs : List Int} (h : IsRow k w a len cap zs) (j : Nat) (hj : j < zs.length) : (Lit.int k (zs.getD j 0)).wf = true := by
  rcases h with ⟨_, _, _, rfl⟩ | ⟨x, _, _, _, _, _, hwz⟩
  · simp at hj
  · rw [List.getD_eq_getElem?_getD, List.getElem?_eq_getElem hj]
    exact hwz _ (List.getElem_mem hj)
theorem wf_u64 {n : Int} (h : (Lit.int .u64 n).wf = true) : 0 ≤ n ∧ n < 18446744073709551616 := by
  have h1 : IntKind.u64.min = 0 := by decide
  have h2 : IntKind.u64.max = 18446744073709551615 := by decide
  simp [Lit.wf, h1, h2] at h
  omega
/-- the words that came in -/
def wordsIn (zs : List Int) : Nat → Nat := fun j => (zs.getD j 0).toNat
theorem wordsIn_lt {w : World} {a : Option Addr} {len cap : Nat} {zs : List Int} (h : IsRow .u64 w a len cap zs) (j : Nat) : wordsIn zs j < 18446744073709551616 := by
  unfold wordsIn
  rcases Nat.lt_or_ge j zs.length with hj | hj
  · have := wf_u64 (h.fits j hj); omega
  · rw [List.getD_eq_getElem?_getD, List.getElem?_eq_none hj]; simp
theorem IsRow.words {w : World} {a : Option Addr} {len cap : Nat} {zs : List Int} (h : IsRow .u64 w a len cap zs) : Rows' .u64 w a len (fun j => (wordsIn zs j : Int)) := by
  refine h.rows.congr fun j hj => ?_
  have := wf_u64 (h.fits j (Nat.lt_of_lt_of_le hj h.len.1))
  unfold wordsIn
  omega

end Go.Proofs.Ytncbkedfodaabaa
