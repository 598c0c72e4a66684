/- The bytes of a text, as a slice, and back. -/
import Derived.Test.YtncbkedfodaabaaRows
import Derived.Test.YtncbkedfodaabaaGenText
import Derived.Laws.IdiomStrings
import Derived.WalkKit
namespace Go.Proofs.Ytncbkedfodaabaa
set_option linter.unusedVariables false

/-- []byte(S), and back -/
theorem bytes_back (W : World) (S : ByteArray) (c : Nat) : (convert 59 9 (.slice (some ⟨W.heap.size, 0, none⟩) S.size c)).run Try.prog (W.drew.alloc (.cells (bytesRow S c) 5 ((bytesRow S c).size, (bytesRow S c).size + 1))) =
    .ok (.string S) (W.drew.alloc (.cells (bytesRow S c) 5 ((bytesRow S c).size, (bytesRow S c).size + 1))) := by
  have h := run_convert_bytes_back (P := Try.prog) (W.drew.alloc (.cells (bytesRow S c) 5 ((bytesRow S c).size, (bytesRow S c).size + 1))) 59 9 5 ⟨W.heap.size, 0, none⟩ c S.data.toList Try.underlying59 Try.underlying5 Try.underlying9 ?_
  · rw [length_of] at h
    exact h
  · intro j hj
    rw [length_of] at hj
    have he : (⟨W.heap.size, 0, none⟩ : Addr).add j = ⟨W.heap.size, j, none⟩ := by
      simp only [Addr.add]
      split
      · rename_i h0; rw [h0]
      · rw [Nat.zero_add]
    rw [he]
    refine (World.cell?_alloc_mark W.drew (bytesRow S c) 5 _ j).trans ?_
    rw [bytesRow_at S c j hj]
    rfl
theorem bytes_there (W : World) (S : ByteArray) (m : Nat) (hm : S.size = m) : ∃ (cap : Nat) (C : Array Value) (fr : Nat × Nat),
    (convert 9 59 (.string S)).run Try.prog W = .ok (.slice (some ⟨W.heap.size, 0, none⟩) m cap) (W.alloc (.cells C 5 fr)).drew ∧
    (convert 59 9 (.slice (some ⟨W.heap.size, 0, none⟩) m cap)).run Try.prog (W.alloc (.cells C 5 fr)).drew = .ok (.string S) (W.alloc (.cells C 5 fr)).drew := by
  subst hm
  exact ⟨_, _, _, run_bytes_of_string (P := Try.prog) W 9 59 5 S Try.underlying9 Try.underlying59 Try.underlying5, bytes_back W S _⟩
end Go.Proofs.Ytncbkedfodaabaa
