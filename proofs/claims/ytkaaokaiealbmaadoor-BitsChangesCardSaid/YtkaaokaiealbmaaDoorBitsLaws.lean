/- Facts on sets of bits that the statements lean on. No program. -/
import Derived.Test.YtkaaokaiealbmaaDoorBitsWorks
namespace Go.Proofs.YtkaaokaiealbmaaDoor
open Go.RowKit
set_option linter.unusedVariables false

theorem not_bit (b i : Nat) (hb : b < 18446744073709551616) (hi : i < 64) : (18446744073709551615 - b).testBit i = !b.testBit i := by
  have h2 : 18446744073709551615 - b = 2 ^ 64 - (b + 1) := by omega
  rw [h2, Nat.testBit_two_pow_sub_succ hb]
  simp [hi]
theorem high_false {a i : Nat} (ha : a < 18446744073709551616) (hi : 64 ≤ i) : a.testBit i = false := by
  apply Nat.testBit_lt_two_pow
  have h1 : 2 ^ 64 ≤ 2 ^ i := Nat.pow_le_pow_right (by decide) hi
  exact Nat.lt_of_lt_of_le ha h1
theorem parts_or (a b : Nat) (ha : a < 18446744073709551616) (hb : b < 18446744073709551616) : (a &&& b) ||| (a &&& (18446744073709551615 - b)) = a := by
  apply Nat.eq_of_testBit_eq
  intro i
  rw [Nat.testBit_or, Nat.testBit_and, Nat.testBit_and]
  by_cases hi : i < 64
  · rw [not_bit b i hb hi]
    cases a.testBit i <;> cases b.testBit i <;> rfl
  · rw [high_false ha (by omega)]; rfl
theorem and_zero_nat (a : Nat) : a &&& 0 = 0 := by simp
theorem parts_tally (m : Nat) (A B : Nat → Nat) (hB : ∀ j, B j < 18446744073709551616) : ∀ n, tally n (fun j => A j &&& wd m B j) + tally n (fun j => A j &&& (18446744073709551615 - wd m B j)) = tally n A
  | 0 => rfl
  | n + 1 => by
    have ih := parts_tally m A B hB n
    have hc := cnt_parts (A n) (wd m B n) 64 (by omega)
    rw [Nat.mod_eq_of_lt (wd_lt hB n)] at hc
    show tally n (fun j => A j &&& wd m B j) + cnt 64 (A n &&& wd m B n) + (tally n (fun j => A j &&& (18446744073709551615 - wd m B j)) + cnt 64 (A n &&& (18446744073709551615 - wd m B n))) = tally n A + cnt 64 (A n)
    omega
theorem cnt_zero : ∀ n, cnt n 0 = 0
  | 0 => rfl
  | n + 1 => by show cnt n 0 + (if (0 : Nat).testBit n then 1 else 0) = 0; rw [cnt_zero n]; simp
theorem min_tally (m : Nat) (A B : Nat → Nat) : ∀ n, tally n (fun j => A j &&& wd m B j) = tally (min n m) (fun j => A j &&& B j)
  | 0 => by rw [show min 0 m = 0 by omega]; rfl
  | n + 1 => by
    have ih := min_tally m A B n
    show tally n (fun j => A j &&& wd m B j) + cnt 64 (A n &&& wd m B n) = _
    rw [ih]
    by_cases h : n < m
    · rw [show min (n + 1) m = n + 1 by omega, show min n m = n by omega, wd_in h]
      rfl
    · rw [show min (n + 1) m = m by omega, show min n m = m by omega, wd_out h, and_zero_nat, cnt_zero]
      rfl
theorem parts_count (n m : Nat) (A B : Nat → Nat) (hB : ∀ j, B j < 18446744073709551616) : tally (min n m) (fun j => A j &&& B j) + tally n (fun j => A j &&& (18446744073709551615 - wd m B j)) = tally n A := by
  rw [← min_tally, parts_tally m A B hB n]
theorem parts_same (n m : Nat) (A B : Nat → Nat) (hA : ∀ j, A j < 18446744073709551616) (hB : ∀ j, B j < 18446744073709551616) :
    sameW (max (min n m) n) (fun j => wd (min n m) (fun j => A j &&& B j) j ||| wd n (fun j => A j &&& (18446744073709551615 - wd m B j)) j) n A = true := by
  have e : max (min n m) n = n := by omega
  rw [e]
  unfold sameW
  refine allEq_true fun j hj => ?_
  have hjn : j < n := by omega
  show ((wd n _ j : Nat) : Int) = ((wd n A j : Nat) : Int)
  rw [wd_in hjn, wd_in hjn, wd_in hjn]
  by_cases h : j < m
  · rw [wd_in (show j < min n m by omega), wd_in h, parts_or _ _ (hA j) (hB j)]
  · rw [wd_out (show ¬ j < min n m by omega), wd_out h]
    have := parts_or (A j) 0 (hA j) (by omega)
    rw [and_zero_nat] at this
    rw [this]
theorem parts_has (n m : Nat) (A B : Nat → Nat) (hB : ∀ j, B j < 18446744073709551616) (i : Int) :
    hasB (min n m) (fun j => A j &&& B j) i = (hasB n A i && hasB m B i) ∧ hasB n (fun j => A j &&& (18446744073709551615 - wd m B j)) i = (hasB n A i && !hasB m B i) := by
  unfold hasB
  show (decide (0 ≤ i ∧ i < 64 * ((min n m : Nat) : Int)) && (A (i.toNat / 64) &&& B (i.toNat / 64)).testBit (i.toNat % 64)) = _ ∧ (decide (0 ≤ i ∧ i < 64 * (n : Int)) && (A (i.toNat / 64) &&& (18446744073709551615 - wd m B (i.toNat / 64))).testBit (i.toNat % 64)) = _
  have h64 : i.toNat % 64 < 64 := Nat.mod_lt _ (by omega)
  by_cases h0 : 0 ≤ i
  · by_cases hn : i < 64 * (n : Int)
    · by_cases hm : i < 64 * (m : Int)
      · have h1 : 0 ≤ i ∧ i < 64 * ((min n m : Nat) : Int) := ⟨h0, by omega⟩
        have h2 : i.toNat / 64 < m := by omega
        rw [wd_in h2, Nat.testBit_and, Nat.testBit_and, not_bit _ _ (hB _) h64, decide_eq_true h1, decide_eq_true (⟨h0, hn⟩ : 0 ≤ i ∧ i < 64 * (n : Int)), decide_eq_true (⟨h0, hm⟩ : 0 ≤ i ∧ i < 64 * (m : Int))]
        simp
      · have h1 : ¬ (0 ≤ i ∧ i < 64 * ((min n m : Nat) : Int)) := by omega
        have h2 : ¬ i.toNat / 64 < m := by omega
        have h3 : ¬ (0 ≤ i ∧ i < 64 * (m : Int)) := by omega
        rw [wd_out h2, Nat.testBit_and, Nat.testBit_and, not_bit 0 _ (by omega) h64, decide_eq_false h1, decide_eq_true (⟨h0, hn⟩ : 0 ≤ i ∧ i < 64 * (n : Int)), decide_eq_false h3]
        simp
    · have h1 : ¬ (0 ≤ i ∧ i < 64 * ((min n m : Nat) : Int)) := by omega
      have h3 : ¬ (0 ≤ i ∧ i < 64 * (n : Int)) := by omega
      rw [decide_eq_false h1, decide_eq_false h3]
      simp
  · have h1 : ¬ (0 ≤ i ∧ i < 64 * ((min n m : Nat) : Int)) := by omega
    have h3 : ¬ (0 ≤ i ∧ i < 64 * (n : Int)) := by omega
    rw [decide_eq_false h1, decide_eq_false h3]
    simp

end Go.Proofs.YtkaaokaiealbmaaDoor
