/- The bytes of a text, as a slice, and back. -/
import Derived.Test.YtjmhmoigheomdaaDoorRows
import Derived.Test.YtjmhmoigheomdaaDoorGenText
import Derived.Laws.IdiomStrings
import Derived.WalkKit
namespace Go.Proofs.YtjmhmoigheomdaaDoor
set_option linter.unusedVariables false

/-- []byte(S), and back -/
theorem bytes_back (W : World) (S : ByteArray) (c : Nat) : (convert 41 9 (.slice (some ⟨W.heap.size, 0, none⟩) S.size c)).run Tryd.prog (W.drew.alloc (.cells (bytesRow S c) 5 ((bytesRow S c).size, (bytesRow S c).size + 1))) =
    .ok (.string S) (W.drew.alloc (.cells (bytesRow S c) 5 ((bytesRow S c).size, (bytesRow S c).size + 1))) := by
  have h := run_convert_bytes_back (P := Tryd.prog) (W.drew.alloc (.cells (bytesRow S c) 5 ((bytesRow S c).size, (bytesRow S c).size + 1))) 41 9 5 ⟨W.heap.size, 0, none⟩ c S.data.toList Tryd.underlying41 Tryd.underlying5 Tryd.underlying9 ?_
  · rw [length_of] at h
    exact h
  · intro j hj
    rw [length_of] at hj
    have he : (⟨W.heap.size, 0, none⟩ : Addr).add j = ⟨W.heap.size, j, none⟩ := by
      simp only [Addr.add]
      split
      · rename_i h0; rw [h0]
      · rw [Nat.zero_add]
    rw [he]
    refine (World.cell?_alloc_mark W.drew (bytesRow S c) 5 _ j).trans ?_
    rw [bytesRow_at S c j hj]
    rfl
theorem bytes_there (W : World) (S : ByteArray) (m : Nat) (hm : S.size = m) : ∃ (cap : Nat) (C : Array Value) (fr : Nat × Nat),
    (convert 9 41 (.string S)).run Tryd.prog W = .ok (.slice (some ⟨W.heap.size, 0, none⟩) m cap) (W.alloc (.cells C 5 fr)).drew ∧
    (convert 41 9 (.slice (some ⟨W.heap.size, 0, none⟩) m cap)).run Tryd.prog (W.alloc (.cells C 5 fr)).drew = .ok (.string S) (W.alloc (.cells C 5 fr)).drew := by
  subst hm
  exact ⟨_, _, _, run_bytes_of_string (P := Tryd.prog) W 9 41 5 S Tryd.underlying9 Tryd.underlying41 Tryd.underlying5, bytes_back W S _⟩
end Go.Proofs.YtjmhmoigheomdaaDoor
