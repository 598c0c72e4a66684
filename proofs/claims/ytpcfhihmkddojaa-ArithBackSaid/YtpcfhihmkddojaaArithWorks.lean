/- The walk through the chapter's examples. -/
import Derived.Test.YtpcfhihmkddojaaRows
import Derived.Test.YtpcfhihmkddojaaArithSum
import Derived.WalkKit
import Derived.ProofKit
namespace Go.Proofs.Ytpcfhihmkddojaa
open Go.RowKit
set_option linter.unusedVariables false

theorem works_add (w : World) :
    Calls Try.prog 6 #[.int .i64 9223372036854775807, .int .i64 1] w fun e w' => e = .returned (.tuple #[.int .i64 0, .bool false]) ∧ w' = w := by
  have h := add_any 9223372036854775807 1 w (by omega) (by omega) (by omega) (by omega)
  rw [valS_out (by unfold inI; omega), okS_out (by unfold inI; omega)] at h
  exact h
theorem works_div (w : World) :
    Calls Try.prog 14 #[.int .i64 (-7), .int .i64 2] w fun e w' => e = .returned (.tuple #[.int .i64 (-3), .bool true]) ∧ w' = w := by
  have h := div_any (-7) 2 w (by omega) (by omega) (by omega) (by omega)
  rw [show valD (-7) 2 = -3 from by decide, show okD (-7) 2 = true from by decide] at h
  exact h
theorem works_mod (w : World) :
    Calls Try.prog 16 #[.int .i64 (-7), .int .i64 2] w fun e w' => e = .returned (.tuple #[.int .i64 (-1), .bool true]) ∧ w' = w := by
  have h := mod_any (-7) 2 w (by omega) (by omega) (by omega) (by omega)
  rw [show valM (-7) 2 = -1 from by decide, show okD (-7) 2 = true from by decide] at h
  exact h

/-- the list of the example -/
def worksL : List Int := [9223372036854775807, 1, -1]
theorem worksL_in (j : Nat) : -9223372036854775808 ≤ worksL[j]?.getD 0 ∧ worksL[j]?.getD 0 ≤ 9223372036854775807 := by
  rcases j with _ | _ | _ | j <;> simp [worksL]
theorem worksL_cells (w : World) (t : TypeId) (j : Nat) (hj : j < 3) :
    (w.alloc (.cells #[.int .i64 9223372036854775807, .int .i64 1, .int .i64 (-1)] t)).cell? ⟨w.heap.size, 0 + j, none⟩ = some (.int .i64 (worksL[j]?.getD 0)) := by
  rw [World.cell?_alloc_at _ _ _ _ rfl]
  rcases j with _ | _ | _ | j
  · simp [worksL]
  · simp [worksL]
  · simp [worksL]
  · omega
theorem works_sum (w : World) (t : TypeId) :
    Calls Try.prog 19 #[.slice (some ⟨w.heap.size, 0, none⟩) 3 3] (w.alloc (.cells #[.int .i64 9223372036854775807, .int .i64 1, .int .i64 (-1)] t))
      fun e w' => e = .returned (.tuple #[.int .i64 9223372036854775807, .bool true]) ∧ w' = w.alloc (.cells #[.int .i64 9223372036854775807, .int .i64 1, .int .i64 (-1)] t) := by
  have h := sum_some w.heap.size 0 3 3 worksL (w.alloc (.cells #[.int .i64 9223372036854775807, .int .i64 1, .int .i64 (-1)] t)) (by simp [worksL]) (by omega) worksL_in (worksL_cells w t)
  have e : tot worksL 3 = 9223372036854775807 := by simp [tot, worksL]
  rw [e, valS_in (by unfold inI; omega), okS_in (by unfold inI; omega)] at h
  exact h

/-- the block that the examples lay -/
def worksO : Obj := .cells #[.int .i64 9223372036854775807, .int .i64 1, .int .i64 (-1)] 3
theorem works_is (w : World) :
    Calls Try.prog 18 #[] w fun e w' => e = .returned (.bool true) ∧ w' = w.alloc worksO := by
  go_enter Try.func18, Try.ntmps18
  go_wp2_with fail
  refine (works_add _).mono ?_
  rintro e w' ⟨rfl, rfl⟩
  go_wp2_with fail
  refine (works_div _).mono ?_
  rintro e w' ⟨rfl, rfl⟩
  go_wp2_with fail
  refine (works_mod _).mono ?_
  rintro e w' ⟨rfl, rfl⟩
  go_wp2_with fail
  refine (works_sum _ _).mono ?_
  rintro e w1 ⟨rfl, rfl⟩
  go_wp2
  go_ret
  exact ⟨rfl, rfl⟩
theorem works_any (w : World) :
    Calls Try.prog 18 #[] w fun e w' => e = .returned (.bool true) ∧ Grown w w' := by
  refine (works_is w).mono ?_
  rintro e w' ⟨rfl, rfl⟩
  exact ⟨rfl, (Grown.refl w).alloc _ _⟩
theorem works_below (w : World) :
    Calls Try.prog 18 #[] w fun e w' => e = .returned (.bool true) ∧ Below w.heap.size w w' := by
  refine (works_is w).mono ?_
  rintro e w' ⟨rfl, rfl⟩
  exact ⟨rfl, (Below.refl w.heap.size w).alloc (Nat.le_refl _) _⟩

end Go.Proofs.Ytpcfhihmkddojaa
