/- The walks through the small functions of bits and of math/bits. -/
import Derived.Test.YtkaaokaiealbmaaDoorRows
import Derived.Test.YtkaaokaiealbmaaDoorBitsNat
import Derived.Test.YtkaaokaiealbmaaDoorBitsRow
import Derived.Laws.Bits128
import Derived.WalkKit
namespace Go.Proofs.YtkaaokaiealbmaaDoor
open Go.RowKit
set_option linter.unusedVariables false

def isW (x : Int) : Bool := decide (0 ≤ x ∧ x ≤ 65536)
theorem isW_in {x : Int} (h0 : 0 ≤ x) (h1 : x ≤ 65536) : isW x = true := by simp [isW, h0, h1]
theorem isW_low {x : Int} (h0 : x < 0) : isW x = false := by simp [isW]; omega
theorem isW_high {x : Int} (h1 : 65536 < x) : isW x = false := by simp [isW]; omega
theorem isWidth_any (x : Int) (w : World) :
    Calls Tryd.prog 34 #[.int .i64 x] w fun e w' => e = .returned (.bool (isW x)) ∧ w' = w := by
  go_enter Tryd.func34, Tryd.ntmps34
  go_wp2
  · have h0 : 0 ≤ x := by assumption
    go_ret
    refine ⟨?_, rfl⟩
    show Ending.returned (Value.bool (decide (x ≤ 65536))) = _
    simp [isW, h0]
  · have h0 : x < 0 := by assumption
    go_ret
    refine ⟨?_, rfl⟩
    show Ending.returned (Value.bool false) = _
    rw [isW_low h0]

theorem wordsFor_any (n : Nat) (w : World) (h : n ≤ 65536) :
    Calls Tryd.prog 35 #[.int .i64 n] w fun e w' => e = .returned (.int .i64 (((n + 63) / 64 : Nat) : Int)) ∧ w' = w := by
  go_enter Tryd.func35, Tryd.ntmps35
  go_wp2
  go_ret
  refine ⟨?_, rfl⟩
  show Ending.returned (Value.int .i64 (((n : Int) + 64 - 1) / 64)) = _
  rw [show ((n : Int) + 64 - 1) / 64 = (((n + 63) / 64 : Nat) : Int) by omega]

/-- the word j of the set of all numbers below n -/
def fullW (n j : Nat) : Nat := 2 ^ (min (n - 64 * j) 64) - 1
theorem fullW_lt (n j : Nat) : fullW n j < 18446744073709551616 := by
  unfold fullW
  have h : 2 ^ (min (n - 64 * j) 64) ≤ 2 ^ 64 := Nat.pow_le_pow_right (by omega) (by omega)
  have h2 : 0 < 2 ^ (min (n - 64 * j) 64) := Nat.two_pow_pos _
  omega
theorem wrap_pow {m : Nat} (h : m ≤ 64) : IntKind.u64.wrap (IntKind.u64.wrap (2 ^ m) - 1) = ((2 ^ m - 1 : Nat) : Int) := by
  rw [IntKind.wrap_u64, IntKind.wrap_u64]
  rcases Nat.lt_or_ge m 64 with h1 | h1
  · have e : 2 ^ m < 2 ^ 64 := Nat.pow_lt_pow_right (by omega) h1
    have e2 : 0 < 2 ^ m := Nat.two_pow_pos m
    have e3 : (2 : Int) ^ m = ((2 ^ m : Nat) : Int) := by simp
    rw [e3]
    omega
  · have : m = 64 := by omega
    subst this
    decide
theorem wordBelow_any (n j : Nat) (w : World) (h : n ≤ 65536) (hj : 64 * j < n) :
    Calls Tryd.prog 36 #[.int .i64 n, .int .i64 j] w fun e w' => e = .returned (.int .u64 (fullW n j : Int)) ∧ w' = w := by
  have H := hidden hj
  go_enter Tryd.func36, Tryd.ntmps36
  go_wp2
  · have h1 : (64 : Int) < (n : Int) - (j : Int) * 64 := by assumption
    go_ret
    refine ⟨?_, rfl⟩
    show Ending.returned (Value.int .u64 (IntKind.u64.wrap (IntKind.u64.wrap 18446744073709551616 - 1))) = _
    have e : fullW n j = 18446744073709551615 := by unfold fullW; rw [show min (n - 64 * j) 64 = 64 by omega]
    rw [e]
    rfl
  · have h1 : (n : Int) - (j : Int) * 64 ≤ 64 := by assumption
    go_ret
    refine ⟨?_, rfl⟩
    show Ending.returned (Value.int .u64 (IntKind.u64.wrap (IntKind.u64.wrap (2 ^ ((n : Int) - (j : Int) * 64).toNat) - 1))) = _
    rw [wrap_pow (by omega)]
    unfold fullW
    rw [show min (n - 64 * j) 64 = ((n : Int) - (j : Int) * 64).toNat by omega]

/-- the bit of i in its word -/
def pw (i : Nat) : Nat := 2 ^ (i % 64)
theorem pow_lt64 (i : Nat) : pw i < 18446744073709551616 := by
  have h : i % 64 < 64 := Nat.mod_lt _ (by omega)
  exact Nat.pow_lt_pow_right (by omega) h
theorem wrap_nat (a : Nat) (ha : a < 18446744073709551616) : IntKind.u64.wrap (a : Int) = (a : Int) := by rw [IntKind.wrap_u64]; omega
theorem bit_any (i : Nat) (w : World) (h : i ≤ 9223372036854775807) :
    Calls Tryd.prog 38 #[.int .i64 i] w fun e w' => e = .returned (.int .u64 (pw i : Int)) ∧ w' = w := by
  go_enter Tryd.func38, Tryd.ntmps38
  go_wp2
  go_ret
  refine ⟨?_, rfl⟩
  show Ending.returned (Value.int .u64 (IntKind.u64.wrap (2 ^ (i % 64)))) = _
  have e3 : (2 : Int) ^ (i % 64) = (pw i : Int) := by simp [pw]
  have e4 := pow_lt64 i
  rw [e3, wrap_nat _ e4]

theorem and_nat (a m : Nat) (ha : a < 18446744073709551616) (hm : m < 18446744073709551616) : bits .and .u64 (a : Int) (m : Int) = ((a &&& m : Nat) : Int) := u64_and_nat a m ha hm
theorem and55 (a : Nat) (ha : a < 18446744073709551616) : bits .and .u64 (a : Int) 6148914691236517205 = ((a &&& 6148914691236517205 : Nat) : Int) := u64_and_nat a 6148914691236517205 ha (by omega)
theorem and33 (a : Nat) (ha : a < 18446744073709551616) : bits .and .u64 (a : Int) 3689348814741910323 = ((a &&& 3689348814741910323 : Nat) : Int) := u64_and_nat a 3689348814741910323 ha (by omega)
theorem and0f (a : Nat) (ha : a < 18446744073709551616) : bits .and .u64 (a : Int) 1085102592571150095 = ((a &&& 1085102592571150095 : Nat) : Int) := u64_and_nat a 1085102592571150095 ha (by omega)
theorem mask55 : mask 8 85 = 6148914691236517205 := by decide
theorem mask33 : mask 8 51 = 3689348814741910323 := by decide
theorem mask0f : mask 8 15 = 1085102592571150095 := by decide
theorem and_le_mask (a m : Nat) : a &&& m ≤ m := Nat.and_le_right
set_option maxHeartbeats 1000000 in
theorem ones_core (x a b y y1 y2 y3 c : Nat) (w : World) (hx : x < 18446744073709551616) (hb0 : b < 18446744073709551616) (hy3 : y3 < 9223372036854775808)
    (hA : IntKind.u64.wrap (bits .and .u64 ((x : Int) / 2) 6148914691236517205 + bits .and .u64 (x : Int) 6148914691236517205) = (a : Int))
    (hB : IntKind.u64.wrap (bits .and .u64 ((a : Int) / 4) 3689348814741910323 + bits .and .u64 (a : Int) 3689348814741910323) = (b : Int))
    (hC : bits .and .u64 (IntKind.u64.wrap ((b : Int) / 16 + (b : Int))) 1085102592571150095 = (y : Int))
    (h1 : IntKind.u64.wrap ((y : Int) + (y : Int) / 256) = (y1 : Int))
    (h2 : IntKind.u64.wrap ((y1 : Int) + (y1 : Int) / 65536) = (y2 : Int))
    (h3 : IntKind.u64.wrap ((y2 : Int) + (y2 : Int) / 4294967296) = (y3 : Int))
    (h4 : bits .and .i64 (y3 : Int) 127 = (c : Int)) :
    Calls Tryd.prog 40 #[.int .u64 x] w fun e w' => e = .returned (.int .i64 (c : Int)) ∧ w' = w := by
  go_enter Tryd.func40, Tryd.ntmps40
  go_wp2
  go_ret
  exact ⟨rfl, rfl⟩
theorem s1_le (x : Nat) : s1 8 x < 18446744073709551616 := by
  unfold s1; rw [mask55]
  have := and_le_mask (x / 2) 6148914691236517205
  have := and_le_mask x 6148914691236517205
  omega
theorem s2_le (x : Nat) : s2 8 x ≤ 7378697629483820646 := by
  unfold s2; rw [mask33]
  have := and_le_mask (x / 4) 3689348814741910323
  have := and_le_mask x 3689348814741910323
  omega
theorem add_wrap (p q r : Nat) (h : r = p + q) (hr : r < 18446744073709551616) : IntKind.u64.wrap ((p : Int) + (q : Int)) = (r : Int) := by rw [IntKind.wrap_u64]; omega
theorem ones_any (x : Nat) (w : World) (h : x < 18446744073709551616) :
    Calls Tryd.prog 40 #[.int .u64 x] w fun e w' => e = .returned (.int .i64 (cnt 64 x : Int)) ∧ w' = w := by
  obtain ⟨y, y1, y2, y3, hy, ky, h1, k1, h2, k2, h3, k3, hc⟩ := swar64 x h
  have la := s1_le x
  have lb := s2_le (s1 8 x)
  have lb2 := s2_le (s1 8 x)
  refine ones_core x (s1 8 x) (s2 8 (s1 8 x)) y y1 y2 y3 (cnt 64 x) w h (by omega) k3 ?_ ?_ ?_ ?_ ?_ ?_ ?_
  · rw [show (x : Int) / 2 = ((x / 2 : Nat) : Int) by omega, and55 _ (by omega), and55 _ h]
    exact add_wrap _ _ _ (by unfold s1; rw [mask55]) la
  · rw [show ((s1 8 x : Nat) : Int) / 4 = ((s1 8 x / 4 : Nat) : Int) by omega, and33 _ (by omega), and33 _ la]
    exact add_wrap _ _ _ (by unfold s2; rw [mask33]) (by omega)
  · rw [show ((s2 8 (s1 8 x) : Nat) : Int) / 16 = ((s2 8 (s1 8 x) / 16 : Nat) : Int) by omega, add_wrap _ _ (s2 8 (s1 8 x) / 16 + s2 8 (s1 8 x)) rfl (by omega), and0f _ (by omega), hy]
    unfold s3; rw [mask0f]
  · rw [show (y : Int) / 256 = ((y / 256 : Nat) : Int) by omega]
    exact add_wrap _ _ _ h1 k1
  · rw [show (y1 : Int) / 65536 = ((y1 / 65536 : Nat) : Int) by omega]
    exact add_wrap _ _ _ h2 k2
  · rw [show (y2 : Int) / 4294967296 = ((y2 / 4294967296 : Nat) : Int) by omega]
    exact add_wrap _ _ _ h3 (by omega)
  · rw [i64_and127]; omega

/-- the table in its variable -/
def Tab (w : World) : Prop := ∀ j, j < 64 → w.cell? ⟨0, j, none⟩ = some (.int .u8 (Lib.deBruijn64tab.getD j 0))
theorem tz_core (x k idx : Nat) (w : World) (hx0 : ((x : Int) == 0) = false)
    (key : IntKind.u64.wrap (bits BinOp.and IntKind.u64 (x : Int) (IntKind.u64.wrap (-(x : Int))) * 285870213051353865) / 288230376151711744 = (idx : Int))
    (hi : idx < 64) (hk : k < 64) (hcell : w.cell? ⟨0, idx, none⟩ = some (.int .u8 k)) :
    Calls Tryd.prog 39 #[.int .u64 x] w fun e w' => e = .returned (.int .i64 k) ∧ w' = w := by
  go_enter Tryd.func39, Tryd.ntmps39
  go_wp2_with (simp only [key])
  go_ret
  exact ⟨rfl, rfl⟩
theorem tz_key (x a : Nat) (hx : x < 18446744073709551616) (hx0 : x ≠ 0) (hlow : x &&& (18446744073709551616 - x) = a) :
    IntKind.u64.wrap (bits BinOp.and IntKind.u64 (x : Int) (IntKind.u64.wrap (-(x : Int))) * 285870213051353865) / 288230376151711744 = ((a * 285870213051353865 % 18446744073709551616 / 288230376151711744 : Nat) : Int) := by
  have e1 : IntKind.u64.wrap (-(x : Int)) = ((18446744073709551616 - x : Nat) : Int) := by rw [IntKind.wrap_u64]; omega
  rw [e1, u64_and_nat x _ hx (by omega), hlow, IntKind.wrap_u64]
  omega
/-- of a number that is not 0: how many zeros stand behind its last 1 -/
theorem tz_any (k m : Nat) (w : World) (hT : Tab w) (h : 2 ^ k * (2 * m + 1) < 18446744073709551616) :
    Calls Tryd.prog 39 #[.int .u64 ((2 ^ k * (2 * m + 1) : Nat) : Int)] w fun e w' => e = .returned (.int .i64 (k : Int)) ∧ w' = w := by
  have hlow := Lib.and_neg 64 k m h
  have hp : 0 < 2 ^ k := Nat.two_pow_pos k
  have hx0 : 2 ^ k * (2 * m + 1) ≠ 0 := Nat.mul_ne_zero (by omega) (by omega)
  have hk : k < 64 := by
    apply Nat.lt_of_not_le
    intro hle
    have h1 : 2 ^ 64 ≤ 2 ^ k := Nat.pow_le_pow_right (by omega) hle
    have h2 : 2 ^ k ≤ 2 ^ k * (2 * m + 1) := Nat.le_mul_of_pos_right _ (by omega)
    omega
  obtain ⟨hi, htab⟩ := Lib.deBruijn64_at k hk
  have hcell := hT _ hi
  rw [htab] at hcell
  exact tz_core _ k _ w (by rw [beq_eq_false_iff_ne]; intro h0; exact hx0 (by exact_mod_cast h0)) (tz_key _ _ h hx0 hlow) hi hk hcell

end Go.Proofs.YtkaaokaiealbmaaDoor
