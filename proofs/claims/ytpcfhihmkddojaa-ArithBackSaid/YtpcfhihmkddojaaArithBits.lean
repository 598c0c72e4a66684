/- Facts of arithmetic for the reckonings bit by bit: masks, halves, products that are too great. Nothing here speaks of a program. -/
import Derived.Test.YtpcfhihmkddojaaArithSpec
import Derived.Laws.BitsLemmas
import Derived.WalkKit
namespace Go.Proofs.Ytpcfhihmkddojaa
open Go.RowKit
set_option linter.unusedVariables false

theorem i64_and1 (n : Int) : bits .and .i64 n 1 = n % 2 := by
  have h1 : (BitVec.ofInt 64 1).toNat = 2 ^ 1 - 1 := by decide
  have key : (BitVec.ofInt 64 n &&& BitVec.ofInt 64 1).toNat = (n % ((2 ^ 64 : Nat) : Int)).toNat % 2 ^ 1 := by
    rw [BitVec.toNat_and, BitVec.toNat_ofInt, h1, Nat.and_two_pow_sub_one_eq_mod]
  show IntKind.i64.wrap ((BitVec.ofInt 64 n &&& BitVec.ofInt 64 1).toNat : Nat) = n % 2
  rw [key, IntKind.wrap_i64]
  omega

theorem i64_and32 (n : Int) : bits .and .i64 n 4294967295 = n % 4294967296 := by
  have h1 : (BitVec.ofInt 64 4294967295).toNat = 2 ^ 32 - 1 := by decide
  have key : (BitVec.ofInt 64 n &&& BitVec.ofInt 64 4294967295).toNat = (n % ((2 ^ 64 : Nat) : Int)).toNat % 2 ^ 32 := by
    rw [BitVec.toNat_and, BitVec.toNat_ofInt, h1, Nat.and_two_pow_sub_one_eq_mod]
  show IntKind.i64.wrap ((BitVec.ofInt 64 n &&& BitVec.ofInt 64 4294967295).toNat : Nat) = n % 4294967296
  rw [key, IntKind.wrap_i64]
  omega

theorem mul_out {a b q : Int} (h0 : 0 ≤ q) (hq : q ≤ b) (h : ¬ inI (a * q)) : ¬ inI (a * b) := by
  intro hi
  apply h
  by_cases ha : 0 ≤ a
  · have h1 : a * q ≤ a * b := Int.mul_le_mul_of_nonneg_left hq ha
    have h2 : 0 ≤ a * q := Int.mul_nonneg ha h0
    unfold inI at *; omega
  · have h1 : (-a) * q ≤ (-a) * b := Int.mul_le_mul_of_nonneg_left hq (by omega)
    have h2 : 0 ≤ (-a) * q := Int.mul_nonneg (by omega) h0
    rw [Int.neg_mul] at h1 h2
    rw [Int.neg_mul] at h1
    unfold inI at *; omega

theorem half (b : Int) (j : Nat) : b / 2 ^ (j + 1) = b / 2 ^ j / 2 := by
  rw [Int.ediv_ediv_of_nonneg (by exact Int.pow_nonneg (by omega)), Int.pow_succ]

theorem quot_le {b : Int} (hb : 0 ≤ b) (j : Nat) : 0 ≤ b / 2 ^ j ∧ b / 2 ^ j ≤ b :=
  ⟨Int.ediv_nonneg hb (Int.pow_nonneg (by omega)), Int.ediv_le_self _ hb⟩

/-- a step of the product: the doubled sum, and the number once more -/
theorem mul_dbl {a b S : Int} {j : Nat} (hS : S = a * (b / 2 ^ (j + 1))) : S + S = a * (b / 2 ^ j - b / 2 ^ j % 2) := by
  rw [hS, half]
  have e : b / 2 ^ j - b / 2 ^ j % 2 = b / 2 ^ j / 2 + b / 2 ^ j / 2 := by omega
  rw [e, Int.mul_add]
theorem mul_one {a b S : Int} {j : Nat} (hS : S = a * (b / 2 ^ (j + 1))) (hb : (bits .and .i64 (b / 2 ^ j) 1 == 1) = true) : S + S + a = a * (b / 2 ^ j) := by
  rw [i64_and1] at hb
  have hb1 : b / 2 ^ j % 2 = 1 := by simpa using hb
  rw [mul_dbl hS, hb1, Int.mul_sub]; omega
theorem mul_nil {a b S : Int} {j : Nat} (hS : S = a * (b / 2 ^ (j + 1))) (hb : (bits .and .i64 (b / 2 ^ j) 1 == 1) = false) : S + S = a * (b / 2 ^ j) := by
  rw [i64_and1] at hb
  have hb1 : b / 2 ^ j % 2 = 0 := by simp at hb; omega
  rw [mul_dbl hS, hb1]; simp
theorem mul_dbl_out {a b S : Int} {j : Nat} (hb : 0 ≤ b) (hS : S = a * (b / 2 ^ (j + 1))) (h : ¬ inI (S + S)) : ¬ inI (a * b) := by
  rw [mul_dbl hS] at h
  have := quot_le hb j
  exact mul_out (by omega) (by omega) h

/-! the quotient by definition -/

theorem pow_le62 {j : Nat} (hj : j ≤ 62) : 1 ≤ (2 : Int) ^ j ∧ (2 : Int) ^ j ≤ 4611686018427387904 := by
  refine ⟨Int.pow_pos (by omega), ?_⟩
  have h : (2 : Nat) ^ j ≤ 2 ^ 62 := Nat.pow_le_pow_right (by omega) hj
  have h2 : ((2 ^ j : Nat) : Int) ≤ ((2 ^ 62 : Nat) : Int) := Int.ofNat_le.mpr h
  rw [Int.natCast_pow] at h2
  exact h2

theorem div_shift {y : Int} {j : Nat} (hj : j ≤ 62) (h : -9223372036854775807 / 2 ^ j ≤ y) : -9223372036854775808 ≤ y * 2 ^ j := by
  have hP : (0 : Int) < 2 ^ j := Int.pow_pos (by omega)
  have hR : (2 : Int) ^ (63 - j) * 2 ^ j = 9223372036854775808 := by
    rw [← Int.pow_add, show 63 - j + j = 63 from by omega]; decide
  have h1 : -(2 : Int) ^ (63 - j) ≤ -9223372036854775807 / 2 ^ j := by
    rw [Int.le_ediv_iff_mul_le hP, Int.neg_mul, hR]; omega
  have h2 : -(2 : Int) ^ (63 - j) * 2 ^ j ≤ y * 2 ^ j := Int.mul_le_mul_of_nonneg_right (by omega) (by omega)
  rw [Int.neg_mul, hR] at h2
  exact h2
theorem div_far {y : Int} {j : Nat} (h : ¬ -9223372036854775807 / 2 ^ j ≤ y) : y * 2 ^ j ≤ -9223372036854775808 := by
  have hP : (0 : Int) < 2 ^ j := Int.pow_pos (by omega)
  have h1 : y + 1 ≤ -9223372036854775807 / 2 ^ j := by omega
  rw [Int.le_ediv_iff_mul_le hP, Int.add_mul] at h1
  omega

theorem div_low {x0 y x q : Int} (h : x0 = x - y * q) (h0 : -9223372036854775808 ≤ x0) (hx : x ≤ 0) (hy : y < 0) (hq : q ≤ 0) : -9223372036854775808 ≤ q := by
  have h1 : 1 * (-q) ≤ (-y) * (-q) := Int.mul_le_mul_of_nonneg_right (by omega) (by omega)
  rw [Int.neg_mul_neg] at h1
  omega

/-- a step of the quotient -/
theorem div_core {x0 y x q P Z : Int} (hZ : Z = y * P) (hP1 : 1 ≤ P) (hP2 : P ≤ 4611686018427387904) (hs : -9223372036854775808 ≤ Z) (h : x0 = x - y * q) (h2 : Z + Z ≤ x) (h0 : -9223372036854775808 ≤ x0)
    (hx : x ≤ 0) (hxm : -9223372036854775808 ≤ x) (hy : y < 0) (hq : q ≤ 0) (hz : x ≤ wrap64 Z) :
    wrap64 (x - wrap64 Z) = x - Z ∧ wrap64 (q - wrap64 P) = q - P ∧ x0 = (x - Z) - y * (q - P) ∧
      Z ≤ x - Z ∧ x - Z ≤ 0 ∧ -9223372036854775808 ≤ x - Z ∧ q - P ≤ 0 ∧ -9223372036854775808 ≤ q - P := by
  have hneg : Z ≤ 0 := by
    have h3 : 0 ≤ (-y) * P := Int.mul_nonneg (by omega) (by omega)
    rw [Int.neg_mul] at h3; omega
  have e1 : wrap64 Z = Z := wrap64_inI ⟨hs, by omega⟩
  have e2 : wrap64 P = P := wrap64_inI ⟨by omega, by omega⟩
  rw [e1] at hz
  rw [e1, e2]
  have h4 : x0 = (x - Z) - y * (q - P) := by rw [Int.mul_sub]; omega
  have h5 := div_low h4 h0 (by omega) hy (by omega)
  have e5 : wrap64 (x - Z) = x - Z := wrap64_inI ⟨by omega, by omega⟩
  have e6 : wrap64 (q - P) = q - P := wrap64_inI ⟨h5, by omega⟩
  exact ⟨e5, e6, h4, by omega, by omega, by omega, by omega, h5⟩
theorem div_step {x0 y x q : Int} {j : Nat} (hj : j ≤ 62) (h : x0 = x - y * q) (h2 : y * 2 ^ (j + 1) ≤ x) (h0 : -9223372036854775808 ≤ x0)
    (hx : x ≤ 0) (hxm : -9223372036854775808 ≤ x) (hy : y < 0) (hq : q ≤ 0) (ht : -9223372036854775807 / 2 ^ j ≤ y) (hz : x ≤ wrap64 (y * 2 ^ j)) :
    wrap64 (x - wrap64 (y * 2 ^ j)) = x - y * 2 ^ j ∧ wrap64 (q - wrap64 (2 ^ j)) = q - 2 ^ j ∧ x0 = (x - y * 2 ^ j) - y * (q - 2 ^ j) ∧
      y * 2 ^ j ≤ x - y * 2 ^ j ∧ x - y * 2 ^ j ≤ 0 ∧ -9223372036854775808 ≤ x - y * 2 ^ j ∧ q - 2 ^ j ≤ 0 ∧ -9223372036854775808 ≤ q - 2 ^ j := by
  have hP := pow_le62 hj
  have hs := div_shift hj ht
  have e3 : y * 2 ^ (j + 1) = y * 2 ^ j + y * 2 ^ j := by
    rw [Int.pow_succ, ← Int.mul_assoc]; generalize y * 2 ^ j = Z; omega
  rw [e3] at h2
  exact div_core rfl hP.1 hP.2 hs h h2 h0 hx hxm hy hq hz
theorem div_stay {y x : Int} {j : Nat} (hj : j ≤ 62) (hy : y < 0) (ht : -9223372036854775807 / 2 ^ j ≤ y) (hz : wrap64 (y * 2 ^ j) < x) : y * 2 ^ j ≤ x := by
  have hs := div_shift hj ht
  have hneg : y * 2 ^ j ≤ 0 := by
    have h3 : 0 ≤ (-y) * 2 ^ j := Int.mul_nonneg (by omega) (by have := pow_le62 hj; omega)
    rw [Int.neg_mul] at h3; omega
  generalize y * 2 ^ j = Z at *
  rw [wrap64_inI ⟨hs, by omega⟩] at hz
  omega

/-- what the quotient comes to -/
def dq (x0 y : Int) : Int := (-x0) / (-y)
theorem div_end {x0 y x q : Int} (h : x0 = x - y * q) (hyx : y * 2 ^ 0 ≤ x) (hx : x ≤ 0) (hy : y < 0) :
    (x ≤ y → q - 1 = -dq x0 y) ∧ (y < x → q = -dq x0 y) := by
  have e : -x0 = -x + (-y) * (-q) := by rw [Int.neg_mul_neg]; omega
  have hyx2 : y ≤ x := by simpa using hyx
  unfold dq
  rw [e, Int.add_mul_ediv_left _ _ (by omega)]
  constructor
  · intro h1
    have : x = y := by omega
    rw [this, Int.ediv_self (by omega)]; omega
  · intro h1
    rw [Int.ediv_eq_zero_of_lt (by omega) (by omega)]; omega
theorem dq_le {x0 y : Int} (hx : x0 ≤ 0) (hy : y < 0) : 0 ≤ dq x0 y ∧ dq x0 y ≤ -x0 :=
  ⟨Int.ediv_nonneg (by omega) (by omega), Int.ediv_le_self _ (by omega)⟩
theorem dq_lt {x0 y : Int} (hx : x0 ≤ 0) (hm : -9223372036854775808 ≤ x0) (hy : y < 0) (hk : okD x0 y = true) : dq x0 y ≤ 9223372036854775807 := by
  have h := dq_le hx hy
  obtain ⟨h0, h1⟩ := okD_true hk
  by_cases e : y = -1
  · omega
  · have h2 : dq x0 y * (-y) ≤ -x0 := Int.ediv_mul_le _ (by omega)
    have h3 : dq x0 y * 2 ≤ dq x0 y * (-y) := Int.mul_le_mul_of_nonneg_left (by omega) h.1
    omega
theorem tdiv_dq {x0 y : Int} (hx : x0 ≤ 0) : x0.tdiv y = dq x0 y := by
  rw [← Int.neg_tdiv_neg, Int.tdiv_eq_ediv_of_nonneg (by omega)]; rfl
theorem valD_ok {a b : Int} (h : okD a b = true) : valD a b = a.tdiv b := by simp [valD, h]

theorem mod_end {a b : Int} (ha : inI a) (hk : okD a b = true) : wrap64 (a - wrap64 (b * valD a b)) = valM a b := by
  have hm : valM a b = a.tmod b := by simp [valM, hk]
  rw [valD_ok hk, hm]
  have hs := Int.mul_tdiv_add_tmod a b
  have h1 := tmod_inI (b := b) ha
  have h2 : a.tmod b = a - b * a.tdiv b := by omega
  have h3 : wrap64 (a - wrap64 (b * a.tdiv b)) = wrap64 (a.tmod b) := by
    rw [h2]; generalize b * a.tdiv b = z; unfold wrap64; omega
  rw [h3, wrap64_inI h1]

end Go.Proofs.Ytpcfhihmkddojaa
