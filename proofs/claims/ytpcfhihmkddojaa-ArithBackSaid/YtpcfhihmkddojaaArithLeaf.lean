/- The walks through Add, Sub, Neg and their answers by definition. -/
import Derived.Test.YtpcfhihmkddojaaRows
import Derived.Test.YtpcfhihmkddojaaArithSpec
import Derived.WalkKit
namespace Go.Proofs.Ytpcfhihmkddojaa
open Go.RowKit
set_option linter.unusedVariables false

theorem add_any (a b : Int) (w : World) (ha1 : -9223372036854775808 ≤ a) (ha2 : a ≤ 9223372036854775807) (hb1 : -9223372036854775808 ≤ b) (hb2 : b ≤ 9223372036854775807) :
    Calls Try.prog 6 #[.int .i64 a, .int .i64 b] w fun e w' => e = .returned (.tuple #[.int .i64 (valS (a + b)), .bool (okS (a + b))]) ∧ w' = w := by
  go_enter Try.func6, Try.ntmps6
  go_wp2
  · have h : (!decide (wrap64 (a + b) < a) == decide (b < 0)) = true := by assumption
    go_ret2
    exact ⟨told_out rfl rfl (add_no ⟨ha1, ha2⟩ ⟨hb1, hb2⟩ h), rfl⟩
  · have h : (!decide (wrap64 (a + b) < a) == decide (b < 0)) = false := by assumption
    go_ret2
    have hi := add_yes ⟨ha1, ha2⟩ ⟨hb1, hb2⟩ h
    exact ⟨told_in (wrap64_inI hi) rfl hi, rfl⟩

theorem radd_any (a b : Int) (w : World) (ha1 : -9223372036854775808 ≤ a) (ha2 : a ≤ 9223372036854775807) (hb1 : -9223372036854775808 ≤ b) (hb2 : b ≤ 9223372036854775807) :
    Calls Try.prog 7 #[.int .i64 a, .int .i64 b] w fun e w' => e = .returned (.tuple #[.int .i64 (valS (a + b)), .bool (okS (a + b))]) ∧ w' = w := by
  go_enter Try.func7, Try.ntmps7
  go_wp2
  all_goals go_ret2
  all_goals first
    | exact ⟨told_in rfl rfl (by unfold inI; omega), rfl⟩
    | exact ⟨told_out rfl rfl (by unfold inI; omega), rfl⟩

theorem sub_any (a b : Int) (w : World) (ha1 : -9223372036854775808 ≤ a) (ha2 : a ≤ 9223372036854775807) (hb1 : -9223372036854775808 ≤ b) (hb2 : b ≤ 9223372036854775807) :
    Calls Try.prog 8 #[.int .i64 a, .int .i64 b] w fun e w' => e = .returned (.tuple #[.int .i64 (valS (a - b)), .bool (okS (a - b))]) ∧ w' = w := by
  go_enter Try.func8, Try.ntmps8
  go_wp2
  · have h : (!decide (a < wrap64 (a - b)) == decide (b < 0)) = true := by assumption
    go_ret2
    exact ⟨told_out rfl rfl (sub_no ⟨ha1, ha2⟩ ⟨hb1, hb2⟩ h), rfl⟩
  · have h : (!decide (a < wrap64 (a - b)) == decide (b < 0)) = false := by assumption
    go_ret2
    have hi := sub_yes ⟨ha1, ha2⟩ ⟨hb1, hb2⟩ h
    exact ⟨told_in (wrap64_inI hi) rfl hi, rfl⟩

theorem rsub_any (a b : Int) (w : World) (ha1 : -9223372036854775808 ≤ a) (ha2 : a ≤ 9223372036854775807) (hb1 : -9223372036854775808 ≤ b) (hb2 : b ≤ 9223372036854775807) :
    Calls Try.prog 9 #[.int .i64 a, .int .i64 b] w fun e w' => e = .returned (.tuple #[.int .i64 (valS (a - b)), .bool (okS (a - b))]) ∧ w' = w := by
  by_cases hb : b = -9223372036854775808
  · subst hb
    go_enter Try.func9, Try.ntmps9
    go_wp2
    all_goals go_ret2
    all_goals first
      | exact ⟨told_out rfl rfl (by unfold inI; omega), rfl⟩
      | exact ⟨told_in (by omega) rfl (by unfold inI; omega), rfl⟩
  · have hb3 : -9223372036854775808 < b := by omega
    clear hb
    go_enter Try.func9, Try.ntmps9
    go_wp2_with (go_at_call 7; refine (radd_any a (-b) _ ha1 ha2 (by omega) (by omega)).mono ?_)
    rintro e w' ⟨rfl, rfl⟩
    go_wp2
    go_ret2
    exact ⟨told_same Int.sub_eq_add_neg.symm, rfl⟩

theorem neg_any (a : Int) (w : World) (ha1 : -9223372036854775808 ≤ a) (ha2 : a ≤ 9223372036854775807) :
    Calls Try.prog 12 #[.int .i64 a] w fun e w' => e = .returned (.tuple #[.int .i64 (valS (-a)), .bool (okS (-a))]) ∧ w' = w := by
  go_enter Try.func12, Try.ntmps12
  go_wp2_with (go_at_call 8; refine (sub_any 0 a _ (by omega) (by omega) ha1 ha2).mono ?_)
  rintro e w' ⟨rfl, rfl⟩
  go_wp2
  go_ret2
  exact ⟨rfl, rfl⟩

theorem rneg_any (a : Int) (w : World) (ha1 : -9223372036854775808 ≤ a) (ha2 : a ≤ 9223372036854775807) :
    Calls Try.prog 13 #[.int .i64 a] w fun e w' => e = .returned (.tuple #[.int .i64 (valS (-a)), .bool (okS (-a))]) ∧ w' = w := by
  by_cases ha : a = -9223372036854775808
  · subst ha
    go_enter Try.func13, Try.ntmps13
    go_wp2
    go_ret2
    exact ⟨told_out rfl rfl (by unfold inI; omega), rfl⟩
  · have ha3 : -9223372036854775808 < a := by omega
    clear ha
    go_enter Try.func13, Try.ntmps13
    go_wp2
    go_ret2
    exact ⟨told_in (by omega) rfl (by unfold inI; omega), rfl⟩

end Go.Proofs.Ytpcfhihmkddojaa
