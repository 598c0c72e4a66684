/- What the functions of package arith tell, as plain functions on whole numbers, with the small facts of arithmetic that their walks use. Nothing here speaks of a program. -/
import Derived.WalkKit
namespace Go.Proofs.Ytpcfhihmkddojaa
open Go.RowKit
set_option linter.unusedVariables false

theorem hidden {p : Prop} (h : p) : Hid p := h

theorem beq_dec {p q : Prop} [Decidable p] [Decidable q] (h : (decide p == decide q) = true) : p ↔ q := by
  by_cases hp : p <;> by_cases hq : q <;> simp [hp, hq] at h <;> simp [hp, hq]
theorem beq_dec_not {p q : Prop} [Decidable p] [Decidable q] (h : (decide p == decide q) = false) : ¬ (p ↔ q) := by
  by_cases hp : p <;> by_cases hq : q <;> simp [hp, hq] at h <;> simp [hp, hq]

/-- the number is an int -/
def inI (x : Int) : Prop := -9223372036854775808 ≤ x ∧ x ≤ 9223372036854775807
instance (x : Int) : Decidable (inI x) := by unfold inI; exact inferInstance

/-- the number that is told, and whether there is one -/
def valS (x : Int) : Int := if inI x then x else 0
def okS (x : Int) : Bool := decide (inI x)

theorem valS_in {x : Int} (h : inI x) : valS x = x := by simp [valS, h]
theorem okS_in {x : Int} (h : inI x) : okS x = true := by simp [okS, h]
theorem valS_out {x : Int} (h : ¬ inI x) : valS x = 0 := by simp [valS, h]
theorem okS_out {x : Int} (h : ¬ inI x) : okS x = false := by simp [okS, h]
theorem inI_valS (x : Int) : inI (valS x) := by
  by_cases h : inI x
  · rw [valS_in h]; exact h
  · rw [valS_out h]; unfold inI; omega

/-- whether there is a quotient; the quotient, and what it leaves -/
def okD (a b : Int) : Bool := decide (b ≠ 0) && (decide (a ≠ -9223372036854775808) || decide (b ≠ -1))
def valD (a b : Int) : Int := if okD a b then a.tdiv b else 0
def valM (a b : Int) : Int := if okD a b then a.tmod b else 0

/-- a pair that is told -/
theorem told_in {x v : Int} {f : Bool} (hv : v = x) (hf : f = true) (h : inI x) :
    Ending.returned (.tuple #[.int .i64 v, .bool f]) = .returned (.tuple #[.int .i64 (valS x), .bool (okS x)]) := by
  rw [valS_in h, okS_in h, hv, hf]
theorem told_out {x v : Int} {f : Bool} (hv : v = 0) (hf : f = false) (h : ¬ inI x) :
    Ending.returned (.tuple #[.int .i64 v, .bool f]) = .returned (.tuple #[.int .i64 (valS x), .bool (okS x)]) := by
  rw [valS_out h, okS_out h, hv, hf]

theorem told_same {x y : Int} (h : y = x) :
    Ending.returned (.tuple #[.int .i64 (valS y), .bool (okS y)]) = .returned (.tuple #[.int .i64 (valS x), .bool (okS x)]) := by
  rw [h]

theorem wrap64_inI {x : Int} (h : inI x) : wrap64 x = x := by unfold inI at h; unfold wrap64; omega
theorem inI_wrap64 (x : Int) : inI (wrap64 x) := by unfold inI wrap64; omega

/-- a sum that went round lies on the wrong side -/
theorem add_no {a b : Int} (ha : inI a) (hb : inI b) (h : (!decide (wrap64 (a + b) < a) == decide (b < 0)) = true) : ¬ inI (a + b) := by
  intro hi
  rw [wrap64_inI hi] at h
  unfold inI at *
  by_cases h1 : a + b < a <;> by_cases h2 : b < 0 <;> simp [h1, h2] at h <;> omega
theorem add_yes {a b : Int} (ha : inI a) (hb : inI b) (h : (!decide (wrap64 (a + b) < a) == decide (b < 0)) = false) : inI (a + b) := by
  unfold inI at *
  unfold wrap64 at h
  by_cases h1 : (a + b + 9223372036854775808) % 18446744073709551616 - 9223372036854775808 < a <;> by_cases h2 : b < 0 <;> simp [h1, h2] at h <;> omega
theorem sub_no {a b : Int} (ha : inI a) (hb : inI b) (h : (!decide (a < wrap64 (a - b)) == decide (b < 0)) = true) : ¬ inI (a - b) := by
  intro hi
  rw [wrap64_inI hi] at h
  unfold inI at *
  by_cases h1 : a < a - b <;> by_cases h2 : b < 0 <;> simp [h1, h2] at h <;> omega
theorem sub_yes {a b : Int} (ha : inI a) (hb : inI b) (h : (!decide (a < wrap64 (a - b)) == decide (b < 0)) = false) : inI (a - b) := by
  unfold inI at *
  unfold wrap64 at h
  by_cases h1 : a < (a - b + 9223372036854775808) % 18446744073709551616 - 9223372036854775808 <;> by_cases h2 : b < 0 <;> simp [h1, h2] at h <;> omega

theorem natAbs_inI {x : Int} (h : inI x) : x.natAbs ≤ 9223372036854775808 := by unfold inI at h; omega

/-- a product that went round gives another quotient -/
theorem mul_back {a b : Int} (ha : inI a) (hb : inI b) (h0 : a ≠ 0) (h : inI (a * b)) : wrap64 ((wrap64 (a * b)).tdiv a) = b := by
  rw [wrap64_inI h, Int.mul_tdiv_cancel_left _ h0, wrap64_inI hb]
theorem mul_yes {a b : Int} (ha : inI a) (hb : inI b) (h0 : a ≠ 0) (h1 : ¬ (a = -1 ∧ b = -9223372036854775808))
    (h : wrap64 ((wrap64 (a * b)).tdiv a) = b) : inI (a * b) := by
  by_cases e1 : a = 1
  · subst e1; rw [Int.one_mul]; exact hb
  by_cases e2 : a = -1
  · subst e2; unfold inI at *; omega
  have hp := inI_wrap64 (a * b)
  have hk : ∃ k : Int, wrap64 (a * b) = a * b + 18446744073709551616 * k := ⟨-((a * b + 9223372036854775808) / 18446744073709551616), by unfold wrap64; omega⟩
  obtain ⟨k, hk⟩ := hk
  have hpa := natAbs_inI hp
  have haa := natAbs_inI ha
  have hq : ((wrap64 (a * b)).tdiv a).natAbs = (wrap64 (a * b)).natAbs / a.natAbs := Int.natAbs_tdiv (wrap64 (a * b)) a
  have hr := Int.natAbs_tmod (wrap64 (a * b)) a
  have hs := Int.mul_tdiv_add_tmod (wrap64 (a * b)) a
  generalize wrap64 (a * b) = p at *
  have ha2 : 2 ≤ a.natAbs := by omega
  have hq2 : p.natAbs / a.natAbs ≤ p.natAbs / 2 := Nat.div_le_div_left ha2 (by omega)
  have hr2 : p.natAbs % a.natAbs < a.natAbs := Nat.mod_lt _ (by omega)
  have hqi : inI (p.tdiv a) := by unfold inI; omega
  rw [wrap64_inI hqi] at h
  rw [h] at hs
  have : p = a * b := by omega
  rw [← this]; exact hp

theorem okD_true {a b : Int} (h : okD a b = true) : b ≠ 0 ∧ ¬ (a = -9223372036854775808 ∧ b = -1) := by
  simp [okD] at h; omega
theorem okD_false {a b : Int} (h : okD a b = false) : b = 0 ∨ (a = -9223372036854775808 ∧ b = -1) := by
  simp [okD] at h; omega

theorem tdiv_inI {a b : Int} (ha : inI a) (h : okD a b = true) : inI (a.tdiv b) := by
  obtain ⟨h0, h1⟩ := okD_true h
  have hq : (a.tdiv b).natAbs = a.natAbs / b.natAbs := Int.natAbs_tdiv a b
  have haa := natAbs_inI ha
  by_cases e1 : b = 1
  · subst e1; rw [Int.tdiv_one]; exact ha
  by_cases e2 : b = -1
  · subst e2; rw [Int.tdiv_neg, Int.tdiv_one]; unfold inI at *; omega
  have hb2 : 2 ≤ b.natAbs := by omega
  have hq2 : a.natAbs / b.natAbs ≤ a.natAbs / 2 := Nat.div_le_div_left hb2 (by omega)
  unfold inI; omega
theorem tmod_inI {a b : Int} (ha : inI a) : inI (a.tmod b) := by
  have hr := Int.natAbs_tmod a b
  have h2 : a.natAbs % b.natAbs ≤ a.natAbs := Nat.mod_le _ _
  by_cases h : 0 ≤ a
  · have := Int.tmod_nonneg b h; unfold inI at *; omega
  · have h3 := Int.tmod_nonneg b (by omega : 0 ≤ -a)
    rw [Int.neg_tmod] at h3
    unfold inI at *; omega

end Go.Proofs.Ytpcfhihmkddojaa
