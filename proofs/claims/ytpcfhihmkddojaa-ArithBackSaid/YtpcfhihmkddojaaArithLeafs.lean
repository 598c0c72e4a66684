/- The walks through Mul, Div, Mod and what they call. -/
import Derived.Test.YtpcfhihmkddojaaRows
import Derived.Test.YtpcfhihmkddojaaArithLeaf
import Derived.WalkKit
namespace Go.Proofs.Ytpcfhihmkddojaa
open Go.RowKit
set_option linter.unusedVariables false

theorem mul_any (a b : Int) (w : World) (ha1 : -9223372036854775808 ≤ a) (ha2 : a ≤ 9223372036854775807) (hb1 : -9223372036854775808 ≤ b) (hb2 : b ≤ 9223372036854775807) :
    Calls Try.prog 10 #[.int .i64 a, .int .i64 b] w fun e w' => e = .returned (.tuple #[.int .i64 (valS (a * b)), .bool (okS (a * b))]) ∧ w' = w := by
  by_cases h0 : a = 0
  · subst h0
    go_enter Try.func10, Try.ntmps10
    go_wp2
    go_ret2
    exact ⟨told_in (by omega) rfl (by unfold inI; omega), rfl⟩
  by_cases h1 : a = -1
  · subst h1
    clear h0
    by_cases h2 : b = -9223372036854775808
    · subst h2
      go_enter Try.func10, Try.ntmps10
      go_wp2
      go_ret2
      exact ⟨told_out rfl rfl (by unfold inI; omega), rfl⟩
    · have hb3 : -9223372036854775808 < b := by omega
      clear h2
      go_enter Try.func10, Try.ntmps10
      go_wp2
      go_ret2
      exact ⟨told_in (by omega) rfl (by unfold inI; omega), rfl⟩
  have e0 : (a == 0) = false := by simpa using h0
  have e1 : (a == -1) = false := by simpa using h1
  by_cases hi : inI (a * b)
  · have ht : (wrap64 ((wrap64 (a * b)).tdiv a) != b) = false := by
      rw [mul_back ⟨ha1, ha2⟩ ⟨hb1, hb2⟩ h0 hi]; simp
    have hw : Hid (wrap64 (a * b) = a * b) := wrap64_inI hi
    go_enter Try.func10, Try.ntmps10
    go_wp2
    all_goals first
      | (exfalso; omega)
      | (go_ret2; exact ⟨told_in hw.out rfl hi, rfl⟩)
  · have ht : (wrap64 ((wrap64 (a * b)).tdiv a) != b) = true := by
      have h2 : ¬ wrap64 ((wrap64 (a * b)).tdiv a) = b := fun h => hi (mul_yes ⟨ha1, ha2⟩ ⟨hb1, hb2⟩ h0 (by omega) h)
      simpa using h2
    go_enter Try.func10, Try.ntmps10
    go_wp2
    all_goals first
      | (exfalso; omega)
      | (go_ret2; exact ⟨told_out rfl rfl hi, rfl⟩)

theorem told_pair {v x : Int} {f g : Bool} (hv : v = x) (hf : f = g) :
    Ending.returned (.tuple #[.int .i64 v, .bool f]) = .returned (.tuple #[.int .i64 x, .bool g]) := by rw [hv, hf]
theorem told_bool {f g : Bool} (h : f = g) : Ending.returned (.bool f) = .returned (.bool g) := by rw [h]

theorem divides_any (a b : Int) (w : World) (ha1 : -9223372036854775808 ≤ a) (ha2 : a ≤ 9223372036854775807) (hb1 : -9223372036854775808 ≤ b) (hb2 : b ≤ 9223372036854775807) :
    Calls Try.prog 21 #[.int .i64 a, .int .i64 b] w fun e w' => e = .returned (.bool (okD a b)) ∧ w' = w := by
  go_enter Try.func21, Try.ntmps21
  go_wp2
  all_goals go_ret
  all_goals exact ⟨told_bool (by rw [Bool.eq_iff_iff]; simp [okD]; omega), rfl⟩

theorem rfits_any (a b : Int) (w : World) (ha1 : -9223372036854775808 ≤ a) (ha2 : a ≤ 9223372036854775807) (hb1 : -9223372036854775808 ≤ b) (hb2 : b ≤ 9223372036854775807) :
    Calls Try.prog 22 #[.int .i64 a, .int .i64 b] w fun e w' => e = .returned (.bool (okD a b)) ∧ w' = w := by
  go_enter Try.func22, Try.ntmps22
  go_wp2
  all_goals go_ret
  all_goals exact ⟨told_bool (by rw [Bool.eq_iff_iff]; simp [okD]; omega), rfl⟩

theorem sign_any (a : Int) (w : World) :
    Calls Try.prog 23 #[.int .i64 a] w fun e w' => e = .returned (.int .i64 (if a < 0 then -1 else 1)) ∧ w' = w := by
  by_cases h : a < 0
  · rw [if_pos h]
    go_enter Try.func23, Try.ntmps23
    go_wp2
    go_ret
    exact ⟨rfl, rfl⟩
  · rw [if_neg h]
    go_enter Try.func23, Try.ntmps23
    go_wp2
    go_ret
    exact ⟨rfl, rfl⟩

theorem div_any (a b : Int) (w : World) (ha1 : -9223372036854775808 ≤ a) (ha2 : a ≤ 9223372036854775807) (hb1 : -9223372036854775808 ≤ b) (hb2 : b ≤ 9223372036854775807) :
    Calls Try.prog 14 #[.int .i64 a, .int .i64 b] w fun e w' => e = .returned (.tuple #[.int .i64 (valD a b), .bool (okD a b)]) ∧ w' = w := by
  rcases hk : okD a b with _ | _
  · have ev : valD a b = 0 := by simp [valD, hk]
    rw [ev]; clear ev
    go_enter Try.func14, Try.ntmps14
    go_wp2_with (go_at_call 21; refine (divides_any a b _ ha1 ha2 hb1 hb2).mono ?_)
    rintro e w' ⟨rfl, rfl⟩
    go_wp2
    go_ret2
    exact ⟨rfl, rfl⟩
  · have ev : valD a b = a.tdiv b := by simp [valD, hk]
    have hb0 : ¬ b = 0 := (okD_true hk).1
    rw [ev]; clear ev
    have hi : Hid (wrap64 (a.tdiv b) = a.tdiv b) := wrap64_inI (tdiv_inI ⟨ha1, ha2⟩ hk)
    go_enter Try.func14, Try.ntmps14
    go_wp2_with (go_at_call 21; refine (divides_any a b _ ha1 ha2 hb1 hb2).mono ?_)
    rintro e w' ⟨rfl, rfl⟩
    go_wp2
    all_goals first
      | (exfalso; omega)
      | (go_ret2; exact ⟨told_pair hi.out rfl, rfl⟩)
      | (go_ret2; exact ⟨rfl, rfl⟩)

theorem mod_any (a b : Int) (w : World) (ha1 : -9223372036854775808 ≤ a) (ha2 : a ≤ 9223372036854775807) (hb1 : -9223372036854775808 ≤ b) (hb2 : b ≤ 9223372036854775807) :
    Calls Try.prog 16 #[.int .i64 a, .int .i64 b] w fun e w' => e = .returned (.tuple #[.int .i64 (valM a b), .bool (okD a b)]) ∧ w' = w := by
  rcases hk : okD a b with _ | _
  · have ev : valM a b = 0 := by simp [valM, hk]
    rw [ev]; clear ev
    go_enter Try.func16, Try.ntmps16
    go_wp2_with (go_at_call 21; refine (divides_any a b _ ha1 ha2 hb1 hb2).mono ?_)
    rintro e w' ⟨rfl, rfl⟩
    go_wp2
    go_ret2
    exact ⟨rfl, rfl⟩
  · have ev : valM a b = a.tmod b := by simp [valM, hk]
    have hb0 : ¬ b = 0 := (okD_true hk).1
    rw [ev]; clear ev
    have hi : Hid (wrap64 (a.tmod b) = a.tmod b) := wrap64_inI (tmod_inI (b := b) ⟨ha1, ha2⟩)
    go_enter Try.func16, Try.ntmps16
    go_wp2_with (go_at_call 21; refine (divides_any a b _ ha1 ha2 hb1 hb2).mono ?_)
    rintro e w' ⟨rfl, rfl⟩
    go_wp2
    all_goals first
      | (exfalso; omega)
      | (go_ret2; exact ⟨told_pair hi.out rfl, rfl⟩)
      | (go_ret2; exact ⟨rfl, rfl⟩)

end Go.Proofs.Ytpcfhihmkddojaa
