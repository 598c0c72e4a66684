/- The walk through the product by definition, bit by bit. -/
import Derived.Test.YtpcfhihmkddojaaRows
import Derived.Test.YtpcfhihmkddojaaArithLeafs
import Derived.Test.YtpcfhihmkddojaaArithBits
import Derived.WalkKit
namespace Go.Proofs.Ytpcfhihmkddojaa
open Go.RowKit
set_option linter.unusedVariables false

set_option maxHeartbeats 400000 in
theorem rmul_pos (a b : Int) (w : World) (ha1 : -9223372036854775808 ≤ a) (ha2 : a ≤ 9223372036854775807) (hb1 : 1 ≤ b) (hb2 : b ≤ 9223372036854775807) (h0 : ¬ a = 0) :
    Calls Try.prog 11 #[.int .i64 a, .int .i64 b] w fun e w' => e = .returned (.tuple #[.int .i64 (valS (a * b)), .bool (okS (a * b))]) ∧ w' = w := by
  have e0 : (a == 0) = false := by simpa using h0
  have e1 : (b == 0) = false := by simp; omega
  have e2 : (b == -9223372036854775808) = false := by simp; omega
  go_enter Try.func11, Try.ntmps11
  go_wp2
  go_loop [6, 7, 8] (fun s o i => ∃ (k : Nat) (S : Int), k ≤ 63 ∧ i = .int .i64 ((k : Int) - 1) ∧ o = .bool true ∧ s = .int .i64 S ∧ Hid (S = a * (b / 2 ^ k)) ∧ -9223372036854775808 ≤ S ∧ S ≤ 9223372036854775807)
    (fun _ _ i => (intOf i + 1).toNat)
  case atStart =>
    exact ⟨63, 0, by omega, rfl, rfl, rfl, by show (0 : Int) = a * (b / 2 ^ 63); rw [show b / 2 ^ 63 = 0 from by omega]; simp, by omega, by omega⟩
  case round =>
    obtain ⟨k, S, hk, rfl, rfl, rfl, hS, hS1, hS2⟩ := hrel
    rcases k with _ | j
    · go_wp2_with fail
      go_ret2
      have h1 : S = a * b := by have h2 := hS.out; rw [h2]; simp
      exact ⟨told_in h1 rfl (by rw [← h1]; exact ⟨hS1, hS2⟩), rfl⟩
    · have ej : ((j + 1 : Nat) : Int) - 1 = (j : Int) := by omega
      rw [ej]; clear ej
      go_wp2_with fail
      refine (radd_any S S _ hS1 hS2 hS1 hS2).mono ?_
      rintro e w' ⟨rfl, rfl⟩
      by_cases hi : inI (S + S)
      · rw [valS_in hi, okS_in hi]
        go_wp2_with fail
        · have hbit : (bits .and .i64 (b / 2 ^ j) 1 == 1) = true := by assumption
          refine (radd_any (S + S) a _ hi.1 hi.2 ha1 ha2).mono ?_
          rintro e w' ⟨rfl, rfl⟩
          have h1 := mul_one hS.out hbit
          by_cases hj : inI (S + S + a)
          · rw [valS_in hj, okS_in hj]
            have H : Hid (S + S + a = a * (b / 2 ^ j)) := h1
            clear h1
            go_wp2_with fail
            go_round
            case rel => exact ⟨j, S + S + a, by omega, by go_num, rfl, rfl, H, hj.1, hj.2⟩
            case measure => simp [intOf]
          · rw [valS_out hj, okS_out hj]
            clear h1
            go_wp2_with fail
            go_ret2
            have h2 := mul_one hS.out hbit
            rw [h2] at hj
            have := quot_le (b := b) (by omega) j
            exact ⟨told_out rfl rfl (mul_out this.1 this.2 hj), rfl⟩
        · have hbit : (bits .and .i64 (b / 2 ^ j) 1 == 1) = false := by assumption
          have H : Hid (S + S = a * (b / 2 ^ j)) := mul_nil hS.out hbit
          go_round
          case rel => exact ⟨j, S + S, by omega, by go_num, rfl, rfl, H, hi.1, hi.2⟩
          case measure => simp [intOf]
      · rw [valS_out hi, okS_out hi]
        go_wp2_with fail
        go_ret2
        exact ⟨told_out rfl rfl (mul_dbl_out (by omega) hS.out hi), rfl⟩


set_option maxHeartbeats 400000 in
theorem rmul_neg (a b : Int) (w : World) (ha1 : -9223372036854775807 ≤ a) (ha2 : a ≤ 9223372036854775807) (hb1 : 1 ≤ b) (hb2 : b ≤ 9223372036854775807) (h0 : ¬ a = 0) :
    Calls Try.prog 11 #[.int .i64 (-a), .int .i64 (-b)] w fun e w' => e = .returned (.tuple #[.int .i64 (valS (a * b)), .bool (okS (a * b))]) ∧ w' = w := by
  have e0 : (-a == 0) = false := by simp; omega
  have e1 : (-b == 0) = false := by simp; omega
  have e2 : (-b == -9223372036854775808) = false := by simp; omega
  have e3 : (-a == -9223372036854775808) = false := by simp; omega
  have e4 : 0 < b := by omega
  go_enter Try.func11, Try.ntmps11
  go_wp2
  go_loop [6, 7, 8] (fun s o i => ∃ (k : Nat) (S : Int), k ≤ 63 ∧ i = .int .i64 ((k : Int) - 1) ∧ o = .bool true ∧ s = .int .i64 S ∧ Hid (S = a * (b / 2 ^ k)) ∧ -9223372036854775808 ≤ S ∧ S ≤ 9223372036854775807)
    (fun _ _ i => (intOf i + 1).toNat)
  case atStart =>
    exact ⟨63, 0, by omega, rfl, rfl, rfl, by show (0 : Int) = a * (b / 2 ^ 63); rw [show b / 2 ^ 63 = 0 from by omega]; simp, by omega, by omega⟩
  case round =>
    obtain ⟨k, S, hk, rfl, rfl, rfl, hS, hS1, hS2⟩ := hrel
    rcases k with _ | j
    · go_wp2_with fail
      go_ret2
      have h1 : S = a * b := by have h2 := hS.out; rw [h2]; simp
      exact ⟨told_in h1 rfl (by rw [← h1]; exact ⟨hS1, hS2⟩), rfl⟩
    · have ej : ((j + 1 : Nat) : Int) - 1 = (j : Int) := by omega
      rw [ej]; clear ej
      go_wp2_with fail
      refine (radd_any S S _ hS1 hS2 hS1 hS2).mono ?_
      rintro e w' ⟨rfl, rfl⟩
      by_cases hi : inI (S + S)
      · rw [valS_in hi, okS_in hi]
        go_wp2_with fail
        · have hbit : (bits .and .i64 (b / 2 ^ j) 1 == 1) = true := by assumption
          refine (radd_any (S + S) a _ hi.1 hi.2 (by omega) ha2).mono ?_
          rintro e w' ⟨rfl, rfl⟩
          have h1 := mul_one hS.out hbit
          by_cases hj : inI (S + S + a)
          · rw [valS_in hj, okS_in hj]
            have H : Hid (S + S + a = a * (b / 2 ^ j)) := h1
            clear h1
            go_wp2_with fail
            go_round
            case rel => exact ⟨j, S + S + a, by omega, by go_num, rfl, rfl, H, hj.1, hj.2⟩
            case measure => simp [intOf]
          · rw [valS_out hj, okS_out hj]
            clear h1
            go_wp2_with fail
            go_ret2
            have h2 := mul_one hS.out hbit
            rw [h2] at hj
            have := quot_le (b := b) (by omega) j
            exact ⟨told_out rfl rfl (mul_out this.1 this.2 hj), rfl⟩
        · have hbit : (bits .and .i64 (b / 2 ^ j) 1 == 1) = false := by assumption
          have H : Hid (S + S = a * (b / 2 ^ j)) := mul_nil hS.out hbit
          go_round
          case rel => exact ⟨j, S + S, by omega, by go_num, rfl, rfl, H, hi.1, hi.2⟩
          case measure => simp [intOf]
      · rw [valS_out hi, okS_out hi]
        go_wp2_with fail
        go_ret2
        exact ⟨told_out rfl rfl (mul_dbl_out (by omega) hS.out hi), rfl⟩


theorem rmul_any (a b : Int) (w : World) (ha1 : -9223372036854775808 ≤ a) (ha2 : a ≤ 9223372036854775807) (hb1 : -9223372036854775808 ≤ b) (hb2 : b ≤ 9223372036854775807) :
    Calls Try.prog 11 #[.int .i64 a, .int .i64 b] w fun e w' => e = .returned (.tuple #[.int .i64 (valS (a * b)), .bool (okS (a * b))]) ∧ w' = w := by
  by_cases h0 : a = 0
  · subst h0
    go_enter Try.func11, Try.ntmps11
    go_wp2
    go_ret2
    exact ⟨told_in (by omega) rfl (by unfold inI; omega), rfl⟩
  by_cases h1 : b = 0
  · subst h1
    have e0 : (a == 0) = false := by simpa using h0
    go_enter Try.func11, Try.ntmps11
    go_wp2
    go_ret2
    exact ⟨told_in (by omega) rfl (by unfold inI; omega), rfl⟩
  by_cases h2 : b = -9223372036854775808
  · subst h2
    have e0 : (a == 0) = false := by simpa using h0
    by_cases h3 : a = 1
    · subst h3
      go_enter Try.func11, Try.ntmps11
      go_wp2
      go_ret2
      exact ⟨told_in (by omega) rfl (by unfold inI; omega), rfl⟩
    · have e1 : (a == 1) = false := by simpa using h3
      go_enter Try.func11, Try.ntmps11
      go_wp2
      go_ret2
      exact ⟨told_out rfl rfl (by unfold inI; omega), rfl⟩
  by_cases h3 : 0 < b
  · exact rmul_pos a b w ha1 ha2 (by omega) hb2 h0
  by_cases h4 : a = -9223372036854775808
  · subst h4
    have e1 : (b == 0) = false := by simpa using h1
    have e2 : (b == -9223372036854775808) = false := by simpa using h2
    have hb3 : b < 0 := by omega
    clear h0 h1 h2 h3
    go_enter Try.func11, Try.ntmps11
    go_wp2
    go_ret2
    exact ⟨told_out rfl rfl (by unfold inI; omega), rfl⟩
  · have h := rmul_neg (-a) (-b) w (by omega) (by omega) (by omega) (by omega) (by omega)
    rw [Int.neg_neg, Int.neg_neg, Int.neg_mul_neg] at h
    exact h

end Go.Proofs.Ytpcfhihmkddojaa
