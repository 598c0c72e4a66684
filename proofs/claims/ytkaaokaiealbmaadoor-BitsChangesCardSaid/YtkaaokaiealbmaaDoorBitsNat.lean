/- Facts on numbers of 64 bits: how many bits are 1, the lowest one, bits of and, or, and not. No program. -/
import Derived.Laws.BitsAllLaws
import Derived.Lib.TrailingZeros
namespace Go.Proofs.YtkaaokaiealbmaaDoor
set_option linter.unusedVariables false

/-- how many of the bits below n are 1 -/
def cnt : Nat → Nat → Nat
  | 0, _ => 0
  | n + 1, x => cnt n x + (if x.testBit n then 1 else 0)
theorem cnt_le : ∀ n x, cnt n x ≤ n
  | 0, _ => Nat.le_refl _
  | n + 1, x => by have := cnt_le n x; unfold cnt; split <;> omega
theorem cnt_congr {x y : Nat} : ∀ n, (∀ i, i < n → x.testBit i = y.testBit i) → cnt n x = cnt n y
  | 0, _ => rfl
  | n + 1, h => by
    unfold cnt
    rw [cnt_congr n (fun i hi => h i (by omega)), h n (by omega)]
theorem cnt_parts (a b : Nat) : ∀ n, n ≤ 64 → cnt n (a &&& b) + cnt n (a &&& (18446744073709551615 - b % 18446744073709551616)) = cnt n a
  | 0, _ => rfl
  | n + 1, h => by
    have ih := cnt_parts a b n (by omega)
    have hb : (18446744073709551615 - b % 18446744073709551616).testBit n = !b.testBit n := by
      have h1 : b % 18446744073709551616 < 2 ^ 64 := by omega
      have h2 : 18446744073709551615 - b % 18446744073709551616 = 2 ^ 64 - (b % 18446744073709551616 + 1) := by omega
      rw [h2, Nat.testBit_two_pow_sub_succ h1]
      have h3 : b % 18446744073709551616 = b % 2 ^ 64 := by simp
      rw [h3, Nat.testBit_mod_two_pow]
      simp [show n < 64 by omega]
    unfold cnt
    rw [Nat.testBit_and, Nat.testBit_and, hb]
    cases a.testBit n <;> cases b.testBit n <;> simp <;> omega
theorem cnt_byte (h b : Nat) (hb : b < 256) : ∀ n, cnt (8 + n) (256 * h + b) = cnt 8 b + cnt n h
  | 0 => by
    have e : ∀ i, i < 8 → (256 * h + b).testBit i = b.testBit i := by
      intro i hi
      have h1 : (256 * h + b) % 2 ^ 8 = b := by omega
      have h2 := Nat.testBit_mod_two_pow (256 * h + b) 8 i
      rw [h1] at h2
      simpa [hi] using h2.symm
    rw [Nat.add_zero, cnt_congr 8 e]
    simp [cnt]
  | n + 1 => by
    have ih := cnt_byte h b hb n
    have e : (256 * h + b).testBit (8 + n) = h.testBit n := by
      have e1 := Nat.testBit_two_pow_mul_add h (show b < 2 ^ 8 by omega) (8 + n)
      rw [show 256 = 2 ^ 8 from rfl, e1]
      simp
      intro hh; omega
    show cnt (8 + n) (256 * h + b) + (if (256 * h + b).testBit (8 + n) then 1 else 0) = cnt 8 b + (cnt n h + (if h.testBit n then 1 else 0))
    rw [ih, e]
    omega

/-- n bytes c -/
def mask : Nat → Nat → Nat
  | 0, _ => 0
  | n + 1, c => 256 * mask n c + c
theorem and_byte (h b M m : Nat) (hb : b < 256) (hm : m < 256) : (256 * h + b) &&& (256 * M + m) = 256 * (h &&& M) + (b &&& m) := by
  apply Nat.eq_of_testBit_eq
  intro i
  have hbm : b &&& m < 2 ^ 8 := Nat.and_lt_two_pow _ (by omega)
  have e1 := Nat.testBit_two_pow_mul_add h (show b < 2 ^ 8 by omega) i
  have e2 := Nat.testBit_two_pow_mul_add M (show m < 2 ^ 8 by omega) i
  have e3 := Nat.testBit_two_pow_mul_add (h &&& M) hbm i
  rw [Nat.testBit_and, show 256 = 2 ^ 8 from rfl, e1, e2, e3]
  by_cases hi : i < 8
  · simp [hi]
  · simp [hi]

def s1 (n x : Nat) : Nat := (x / 2 &&& mask n 85) + (x &&& mask n 85)
def s2 (n x : Nat) : Nat := (x / 4 &&& mask n 51) + (x &&& mask n 51)
def s3 (n x : Nat) : Nat := (x / 16 + x) &&& mask n 15
theorem b1 : ∀ b, b < 256 → ∀ p, p < 2 → (128 * p + b / 2) &&& 85 = b / 2 &&& 85 := by decide +kernel
theorem b2 : ∀ b, b < 256 → ∀ p, p < 4 → (64 * p + b / 4) &&& 51 = b / 4 &&& 51 := by decide +kernel
/-- what the three steps make of a byte -/
def t1 (b : Nat) : Nat := (b / 2 &&& 85) + (b &&& 85)
def t2 (b : Nat) : Nat := (b / 4 &&& 51) + (b &&& 51)
theorem t1_lt : ∀ b, b < 256 → t1 b < 171 := by decide +kernel
theorem t2_lt : ∀ b, b < 256 → t2 b < 103 := by decide +kernel
theorem t2_small : ∀ b, b < 256 → t2 (t1 b) % 16 ≤ 4 ∧ t2 (t1 b) / 16 ≤ 4 := by decide +kernel
theorem t_cnt : ∀ b, b < 256 → t2 (t1 b) / 16 + t2 (t1 b) % 16 = cnt 8 b := by decide +kernel
theorem s1_succ (n h b : Nat) (hb : b < 256) : s1 (n + 1) (256 * h + b) = 256 * s1 n h + t1 b := by
  unfold s1 t1
  have e1 : (256 * h + b) / 2 = 256 * (h / 2) + (128 * (h % 2) + b / 2) := by omega
  rw [e1, show mask (n + 1) 85 = 256 * mask n 85 + 85 from rfl, and_byte _ _ _ _ (by omega) (by omega), and_byte _ _ _ _ hb (by omega), b1 b hb _ (by omega)]
  omega
theorem s2_succ (n h b : Nat) (hb : b < 256) : s2 (n + 1) (256 * h + b) = 256 * s2 n h + t2 b := by
  unfold s2 t2
  have e1 : (256 * h + b) / 4 = 256 * (h / 4) + (64 * (h % 4) + b / 4) := by omega
  rw [e1, show mask (n + 1) 51 = 256 * mask n 51 + 51 from rfl, and_byte _ _ _ _ (by omega) (by omega), and_byte _ _ _ _ hb (by omega), b2 b hb _ (by omega)]
  omega
theorem s3_succ (n h b : Nat) (hb : b < 256) (h1 : b % 16 ≤ 4) (h2 : b / 16 ≤ 4) (hh : h % 16 ≤ 4) : s3 (n + 1) (256 * h + b) = 256 * s3 n h + (b / 16 + b % 16) := by
  unfold s3
  have e1 : (256 * h + b) / 16 + (256 * h + b) = 256 * (h / 16 + h) + (16 * (h % 16) + b / 16 + b) := by omega
  have e2 : ∀ q, q < 5 → ∀ r, r < 5 → ∀ p, p < 5 → (16 * p + q + (16 * q + r)) &&& 15 = q + r := by decide +kernel
  have e3 := e2 (b / 16) (by omega) (b % 16) (by omega) (h % 16) (by omega)
  rw [show 16 * (b / 16) + b % 16 = b by omega] at e3
  rw [e1, show mask (n + 1) 15 = 256 * mask n 15 + 15 from rfl, and_byte _ _ _ _ (by omega) (by omega), e3]

/-- the three steps, behind one another -/
theorem swar_succ (n h b : Nat) (hb : b < 256) (hh : s2 n (s1 n h) % 16 ≤ 4) : s3 (n + 1) (s2 (n + 1) (s1 (n + 1) (256 * h + b))) = 256 * s3 n (s2 n (s1 n h)) + cnt 8 b ∧ s2 (n + 1) (s1 (n + 1) (256 * h + b)) % 16 ≤ 4 := by
  have l1 := t1_lt b hb
  have l2 := t2_lt (t1 b) (by omega)
  have l3 := t2_small b hb
  rw [s1_succ n h b hb, s2_succ n _ _ (by omega), s3_succ n _ _ (by omega) l3.1 l3.2 hh, t_cnt b hb]
  exact ⟨rfl, by omega⟩
theorem swar_zero (x : Nat) : s3 0 (s2 0 (s1 0 x)) = 0 ∧ s2 0 (s1 0 x) % 16 ≤ 4 := by simp [s3, s2, s1, mask]

theorem q8 (A t : Nat) (h : t < 256) : (256 * A + t) / 256 = A := by omega
theorem q16 (A t : Nat) (h : t < 65536) : (65536 * A + t) / 65536 = A := by omega
theorem q32 (A t : Nat) (h : t < 4294967296) : (4294967296 * A + t) / 4294967296 = A := by omega
theorem swar_fold (t0 t1 t2 t3 t4 t5 t6 t7 : Nat) (h0 : t0 ≤ 8) (h1 : t1 ≤ 8) (h2 : t2 ≤ 8) (h3 : t3 ≤ 8) (h4 : t4 ≤ 8) (h5 : t5 ≤ 8) (h6 : t6 ≤ 8) (h7 : t7 ≤ 8) :
    ∃ y y1 y2 y3, y = 256 * (256 * (256 * (256 * (256 * (256 * (256 * t7 + t6) + t5) + t4) + t3) + t2) + t1) + t0 ∧ y1 = y + y / 256 ∧ y1 < 18446744073709551616 ∧ y2 = y1 + y1 / 65536 ∧ y2 < 18446744073709551616 ∧ y3 = y2 + y2 / 4294967296 ∧ y3 < 9223372036854775808 ∧ y3 % 128 = t0 + t1 + t2 + t3 + t4 + t5 + t6 + t7 := by
  refine ⟨_, 65536 * (256 * (256 * (256 * (256 * (256 * t7 + (t6 + t7)) + (t5 + t6)) + (t4 + t5)) + (t3 + t4)) + (t2 + t3)) + (256 * (t1 + t2) + (t0 + t1)),
    4294967296 * (256 * (256 * (256 * t7 + (t6 + t7)) + (t5 + t6 + t7)) + (t4 + t5 + t6 + t7)) + (256 * (256 * (256 * (t3 + t4 + t5 + t6) + (t2 + t3 + t4 + t5)) + (t1 + t2 + t3 + t4)) + (t0 + t1 + t2 + t3)),
    4294967296 * (256 * (256 * (256 * t7 + (t6 + t7)) + (t5 + t6 + t7)) + (t4 + t5 + t6 + t7)) + (256 * (256 * (256 * (t3 + t4 + t5 + t6) + (t2 + t3 + t4 + t5)) + (t1 + t2 + t3 + t4)) + (t0 + t1 + t2 + t3)) + (256 * (256 * (256 * t7 + (t6 + t7)) + (t5 + t6 + t7)) + (t4 + t5 + t6 + t7)), rfl, ?_, ?_, ?_, ?_, ?_, ?_, ?_⟩
  · rw [q8 _ _ (by omega)]; omega
  · omega
  · rw [q16 _ _ (by omega)]; omega
  · omega
  · rw [q32 _ _ (by omega)]
  · omega
  · omega
theorem cut8 (B x : Nat) (h : x < 256 * B) : ∃ h b, x = 256 * h + b ∧ b < 256 ∧ h < B := ⟨x / 256, x % 256, by omega, by omega, by omega⟩
theorem swar_step {n x h b z : Nat} (e : x = 256 * h + b) (hb : b < 256) (ih : s3 n (s2 n (s1 n h)) = z ∧ s2 n (s1 n h) % 16 ≤ 4) : s3 (n + 1) (s2 (n + 1) (s1 (n + 1) x)) = 256 * z + cnt 8 b ∧ s2 (n + 1) (s1 (n + 1) x) % 16 ≤ 4 := by
  rw [e, ← ih.1]
  exact swar_succ n h b hb ih.2
theorem cnt_step {n x h b z : Nat} (e : x = 256 * h + b) (hb : b < 256) (ih : cnt n h = z) : cnt (8 + n) x = cnt 8 b + z := by
  rw [e, ← ih]
  exact cnt_byte h b hb n
theorem sum8 (a b c d e f g h : Nat) : a + b + c + d + e + f + g + h = a + (b + (c + (d + (e + (f + (g + h)))))) := by omega
theorem zero_step (z g : Nat) : 256 * 0 + g = g := by omega
/-- what OnesCount64 reckons, step by step, is how many bits are 1 -/
theorem swar64 (x : Nat) (hx : x < 18446744073709551616) : ∃ y y1 y2 y3, y = s3 8 (s2 8 (s1 8 x)) ∧ y < 18446744073709551616 ∧ y1 = y + y / 256 ∧ y1 < 18446744073709551616 ∧ y2 = y1 + y1 / 65536 ∧ y2 < 18446744073709551616 ∧ y3 = y2 + y2 / 4294967296 ∧ y3 < 9223372036854775808 ∧ y3 % 128 = cnt 64 x := by
  obtain ⟨g1, b0, e0, l0, k0⟩ := cut8 72057594037927936 x hx
  obtain ⟨g2, b1, e1, l1, k1⟩ := cut8 281474976710656 g1 k0
  obtain ⟨g3, b2, e2, l2, k2⟩ := cut8 1099511627776 g2 k1
  obtain ⟨g4, b3, e3, l3, k3⟩ := cut8 4294967296 g3 k2
  obtain ⟨g5, b4, e4, l4, k4⟩ := cut8 16777216 g4 k3
  obtain ⟨g6, b5, e5, l5, k5⟩ := cut8 65536 g5 k4
  obtain ⟨g7, b6, e6, l6, k6⟩ := cut8 256 g6 k5
  have r7 := swar_step (n := 0) (zero_step 0 g7).symm k6 (swar_zero 0)
  rw [zero_step 0 (cnt 8 g7)] at r7
  have r := swar_step e0 l0 (swar_step e1 l1 (swar_step e2 l2 (swar_step e3 l3 (swar_step e4 l4 (swar_step e5 l5 (swar_step e6 l6 r7))))))
  have c := cnt_step e0 l0 (cnt_step e1 l1 (cnt_step e2 l2 (cnt_step e3 l3 (cnt_step e4 l4 (cnt_step e5 l5 (cnt_step (n := 8) e6 l6 rfl))))))
  obtain ⟨y, y1, y2, y3, hy, h1, j1, h2, j2, h3, j3, hc⟩ := swar_fold (cnt 8 b0) (cnt 8 b1) (cnt 8 b2) (cnt 8 b3) (cnt 8 b4) (cnt 8 b5) (cnt 8 b6) (cnt 8 g7)
    (cnt_le 8 _) (cnt_le 8 _) (cnt_le 8 _) (cnt_le 8 _) (cnt_le 8 _) (cnt_le 8 _) (cnt_le 8 _) (cnt_le 8 _)
  refine ⟨y, y1, y2, y3, hy.trans r.1.symm, Nat.lt_of_le_of_lt (Nat.le.intro h1.symm) j1, h1, j1, h2, j2, h3, j3, ?_⟩
  rw [hc, sum8]
  exact c.symm

theorem clear_low (k m : Nat) : (2 ^ k * (2 * m + 1)) &&& (2 ^ k * (2 * m + 1) - 1) = 2 ^ (k + 1) * m := by
  have hp : 0 < 2 ^ k := Nat.two_pow_pos k
  have e1 : 2 ^ k * (2 * m + 1) - 1 = 2 ^ k * (2 * m) + (2 ^ k - 1) := by
    rw [Nat.mul_add, Nat.mul_one]; omega
  have e2 : 2 ^ k * (2 * m + 1) = 2 ^ k * (2 * m + 1) + 0 := rfl
  have e3 : 2 ^ (k + 1) * m = 2 ^ k * (2 * m) + 0 := by rw [Nat.pow_succ, Nat.mul_assoc]; rfl
  rw [e1, e2, e3]
  apply Nat.eq_of_testBit_eq
  intro i
  rw [Nat.testBit_and, Nat.testBit_two_pow_mul_add _ hp, Nat.testBit_two_pow_mul_add _ (by omega), Nat.testBit_two_pow_mul_add _ hp]
  by_cases hi : i < k
  · simp [hi]
  · simp only [hi, if_false]
    rcases Nat.eq_zero_or_pos (i - k) with h0 | h0
    · rw [h0]; simp [Nat.testBit_zero]
    · obtain ⟨j, hj⟩ : ∃ j, i - k = j + 1 := ⟨i - k - 1, by omega⟩
      rw [hj, Nat.testBit_succ, Nat.testBit_succ, show (2 * m + 1) / 2 = m by omega, show 2 * m / 2 = m by omega]
      simp

/-- the numbers of one word, up to a bit -/
def lis (base x j : Nat) : List Int := ((List.range j).filter (fun i => x.testBit i)).map (fun i => ((base + i : Nat) : Int))
theorem lis_zero (base x : Nat) : lis base x 0 = [] := rfl
theorem lis_succ (base x j : Nat) : lis base x (j + 1) = lis base x j ++ (if x.testBit j then [((base + j : Nat) : Int)] else []) := by
  unfold lis
  rw [List.range_succ, List.filter_append, List.map_append]
  congr 1
  by_cases h : x.testBit j <;> simp [h]
theorem lis_length (base x : Nat) : ∀ j, (lis base x j).length = cnt j x
  | 0 => rfl
  | j + 1 => by
    rw [lis_succ, List.length_append, lis_length base x j]
    show _ = cnt j x + (if x.testBit j then 1 else 0)
    by_cases h : x.testBit j <;> simp [h]
theorem lis_skip (base x j : Nat) : ∀ d, (∀ i, j ≤ i → i < j + d → x.testBit i = false) → lis base x (j + d) = lis base x j
  | 0, _ => rfl
  | d + 1, h => by
    rw [← Nat.add_assoc, lis_succ, lis_skip base x j d (fun i h1 h2 => h i h1 (by omega)), h (j + d) (by omega) (by omega)]
    simp
theorem high_bit (x j i : Nat) (h : j ≤ i) : (2 ^ j * (x / 2 ^ j)).testBit i = x.testBit i := by
  rw [Nat.mul_comm, Nat.testBit_mul_two_pow, Nat.testBit_div_two_pow]
  simp [h]
/-- one round of the search for the next bit -/
theorem lis_step (base x j k m : Nat) (hr : 2 ^ j * (x / 2 ^ j) = 2 ^ k * (2 * m + 1)) :
    j ≤ k ∧ lis base x (k + 1) = lis base x j ++ [((base + k : Nat) : Int)] ∧ 2 ^ (k + 1) * m = 2 ^ (k + 1) * (x / 2 ^ (k + 1)) := by
  have hjk : j ≤ k := by
    apply Nat.le_of_not_lt
    intro hlt
    obtain ⟨d, rfl⟩ : ∃ d, j = k + (d + 1) := ⟨j - k - 1, by omega⟩
    rw [Nat.pow_add, Nat.mul_assoc] at hr
    have h2 := Nat.eq_of_mul_eq_mul_left (Nat.two_pow_pos k) hr
    rw [Nat.pow_succ, Nat.mul_comm (2 ^ d), Nat.mul_assoc] at h2
    omega
  have hb : ∀ i, j ≤ i → x.testBit i = (decide (k ≤ i) && (2 * m + 1).testBit (i - k)) := by
    intro i hi
    rw [← high_bit x j i hi, hr, Nat.mul_comm, Nat.testBit_mul_two_pow]
  refine ⟨hjk, ?_, ?_⟩
  · obtain ⟨d, rfl⟩ : ∃ d, k = j + d := ⟨k - j, by omega⟩
    rw [lis_succ, lis_skip base x j d (fun i h1 h2 => by rw [hb i h1]; simp; omega), hb (j + d) (by omega)]
    simp [Nat.testBit_zero]
  · congr 1
    apply Nat.eq_of_testBit_eq
    intro i
    rw [Nat.testBit_div_two_pow, hb (i + (k + 1)) (by omega)]
    have e : i + (k + 1) - k = i + 1 := by omega
    rw [e, Nat.testBit_succ, show (2 * m + 1) / 2 = m by omega]
    simp; omega
theorem lis_done (base x j : Nat) (hx : x < 2 ^ 64) (hj : j ≤ 64) (hr : 2 ^ j * (x / 2 ^ j) = 0) : lis base x 64 = lis base x j := by
  obtain ⟨d, hd⟩ : ∃ d, 64 = j + d := ⟨64 - j, by omega⟩
  rw [hd]
  apply lis_skip
  intro i h1 h2
  rw [← high_bit x j i h1, hr]
  simp

/-- the numbers of a set of n words -/
def setL (n : Nat) (W : Nat → Nat) : List Int := ((List.range (64 * n)).filter (fun i => (W (i / 64)).testBit (i % 64))).map (fun i => ((i : Nat) : Int))
theorem setL_zero (W : Nat → Nat) : setL 0 W = [] := rfl
theorem setL_succ (n : Nat) (W : Nat → Nat) : setL (n + 1) W = setL n W ++ lis (64 * n) (W n) 64 := by
  unfold setL lis
  rw [Nat.mul_add, Nat.mul_one, List.range_add, List.filter_append, List.map_append]
  congr 1
  rw [List.filter_map, List.map_map]
  have e : ∀ i, i ∈ List.range 64 → ((fun i => (W (i / 64)).testBit (i % 64)) ∘ fun x => 64 * n + x) i = (W n).testBit i := by
    intro i hi
    have hi' : i < 64 := List.mem_range.1 hi
    show (W ((64 * n + i) / 64)).testBit ((64 * n + i) % 64) = _
    rw [show (64 * n + i) / 64 = n by omega, show (64 * n + i) % 64 = i by omega]
  rw [List.filter_congr e]
  rfl
/-- how many numbers are in a set of n words -/
def tally : Nat → (Nat → Nat) → Nat
  | 0, _ => 0
  | n + 1, W => tally n W + cnt 64 (W n)
theorem tally_le : ∀ n W, tally n W ≤ 64 * n
  | 0, _ => Nat.le_refl _
  | n + 1, W => by have := tally_le n W; have := cnt_le 64 (W n); unfold tally; omega
theorem setL_length (W : Nat → Nat) : ∀ n, (setL n W).length = tally n W
  | 0 => rfl
  | n + 1 => by rw [setL_succ, List.length_append, setL_length W n, lis_length]; rfl
theorem tally_congr {A B : Nat → Nat} : ∀ n, (∀ j, j < n → A j = B j) → tally n A = tally n B
  | 0, _ => rfl
  | n + 1, h => by unfold tally; rw [tally_congr n (fun j hj => h j (by omega)), h n (by omega)]
end Go.Proofs.YtkaaokaiealbmaaDoor
