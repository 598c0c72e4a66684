/- Lists of numbers that wait: who came first, a queue that goes round. No program. -/
import Derived.Test.YtingebjeefncaaaGenList
namespace Go.Proofs.Ytingebjeefncaaa
open Go.RowKit
set_option linter.unusedVariables false

/-- of f 0 .. the numbers below k, each where it came first -/
def firsts (k : Nat) (f : Nat → Int) : Nat → List Int
  | 0 => []
  | j + 1 => if (0 ≤ f j ∧ f j < (k : Int)) ∧ ¬ f j ∈ firsts k f j then firsts k f j ++ [f j] else firsts k f j
theorem firsts_length (k : Nat) (f : Nat → Int) : ∀ j, (firsts k f j).length ≤ j
  | 0 => Nat.le_refl _
  | j + 1 => by
    have := firsts_length k f j
    unfold firsts
    split
    · simp; omega
    · omega
theorem mem_firsts {k : Nat} {f : Nat → Int} {x : Int} (h0 : 0 ≤ x) (hk : x < (k : Int)) : ∀ j i, i < j → f i = x → x ∈ firsts k f j
  | 0, i, h, _ => by omega
  | j + 1, i, h, e => by
    unfold firsts
    rcases Nat.lt_or_ge i j with hij | hij
    · have := mem_firsts h0 hk j i hij e
      split
      · exact List.mem_append.2 (.inl this)
      · exact this
    · have : i = j := by omega
      subst this
      subst e
      split
      · exact List.mem_append.2 (.inr (by simp))
      · rename_i hn
        apply Classical.byContradiction
        intro hh
        exact hn ⟨⟨h0, hk⟩, hh⟩
/-- a queue of which the first j were taken and put again -/
def rot (F : List Int) (j : Nat) : List Int := F.drop j ++ F.take j
theorem rot_zero (F : List Int) : rot F 0 = F := by simp [rot]
theorem rot_all (F : List Int) : rot F F.length = F := by simp [rot]
theorem rot_cons {F : List Int} {j : Nat} (h : j < F.length) : rot F j = F.getD j 0 :: (F.drop (j + 1) ++ F.take j) := by
  unfold rot
  rw [List.drop_eq_getElem_cons h, List.getD_eq_getElem?_getD, List.getElem?_eq_getElem h]
  rfl
theorem rot_next {F : List Int} {j : Nat} (h : j < F.length) : (F.drop (j + 1) ++ F.take j) ++ [F.getD j 0] = rot F (j + 1) := by
  unfold rot
  rw [take_getD F j h, List.append_assoc]
theorem srt_full (xs : List Int) (h : xs.Nodup) : ∀ j, j ≤ xs.length → (srt (fun i => xs.getD i 0) j).length = j
  | 0, _ => rfl
  | j + 1, hj => by
    have ih := srt_full xs h j (by omega)
    unfold srt
    rw [if_neg, ins_length, ih]
    intro hm
    obtain ⟨i, hi, he⟩ := (mem_srt j).1 hm
    have hp := List.pairwise_iff_getElem.1 h i j (by omega) (by omega) hi
    apply hp
    rw [List.getD_eq_getElem?_getD, List.getD_eq_getElem?_getD, List.getElem?_eq_getElem (by omega), List.getElem?_eq_getElem (by omega)] at he
    exact he

end Go.Proofs.Ytingebjeefncaaa
