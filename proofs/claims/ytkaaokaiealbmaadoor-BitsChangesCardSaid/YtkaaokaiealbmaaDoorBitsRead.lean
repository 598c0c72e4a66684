/- The walks through what only reads: reaches, word, Has, Count, Same, Right, and the statements' words, SameInts, HasInt. -/
import Derived.Test.YtkaaokaiealbmaaDoorBitsLeaf
import Derived.Deep.QuietTactic
import Derived.BigQuiet
namespace Go.Proofs.YtkaaokaiealbmaaDoor
open Go.RowKit
set_option linter.unusedVariables false

theorem Rows'.drewN {k : IntKind} {w : World} {a : Option Addr} {n : Nat} {f : Nat → Int} (h : Rows' k w a n f) (q : Nat) : Rows' k (w.drewN q) a n f := h
theorem Mine.drewN {k : IntKind} {t : TypeId} {w : World} {g n : Nat} {f : Nat → Int} (h : Mine k t w g n f) (q : Nat) : Mine k t (w.drewN q) g n f := h
theorem Tab.drewN {w : World} (h : Tab w) (q : Nat) : Tab (w.drewN q) := h
theorem below_drewN (w : World) (q : Nat) (B : Nat) : Below B w (w.drewN q) := ⟨rfl, rfl, rfl, Nat.le_refl _, fun _ _ => rfl⟩

theorem reaches_yes (a : Option Addr) (n cap i : Nat) (w : World) (hn : n ≤ 100000) (h : i < 64 * n) :
    Calls Tryd.prog 37 #[.slice a n cap, .int .i64 i] w fun e w' => e = .returned (.bool true) ∧ w' = w := by
  have hd : ((i : Int) / 64 < (n : Int)) := by omega
  go_enter Tryd.func37, Tryd.ntmps37
  go_wp2
  go_ret
  exact ⟨rfl, rfl⟩
theorem reaches_high (a : Option Addr) (n cap i : Nat) (w : World) (hn : n ≤ 100000) (h : ¬ i < 64 * n) (hi : i ≤ 9223372036854775807) :
    Calls Tryd.prog 37 #[.slice a n cap, .int .i64 i] w fun e w' => e = .returned (.bool false) ∧ w' = w := by
  have hd : ¬ ((i : Int) / 64 < (n : Int)) := by omega
  go_enter Tryd.func37, Tryd.ntmps37
  go_wp2
  go_ret
  exact ⟨rfl, rfl⟩
theorem reaches_low (a : Option Addr) (n cap : Nat) (i : Int) (w : World) (h : i < 0) :
    Calls Tryd.prog 37 #[.slice a n cap, .int .i64 i] w fun e w' => e = .returned (.bool false) ∧ w' = w := by
  go_enter Tryd.func37, Tryd.ntmps37
  go_wp2
  go_ret
  exact ⟨rfl, rfl⟩

/-- the word j of a set of n words -/
def wd (n : Nat) (A : Nat → Nat) (j : Nat) : Nat := if j < n then A j else 0
theorem wd_in {n j : Nat} {A : Nat → Nat} (h : j < n) : wd n A j = A j := if_pos h
theorem wd_out {n j : Nat} {A : Nat → Nat} (h : ¬ j < n) : wd n A j = 0 := if_neg h
theorem word_any (a : Option Addr) (n cap j : Nat) (A : Nat → Nat) (w : World) (hn : n ≤ 100000) (hj : j ≤ 100000) (ha : Rows' .u64 w a n (fun j => (A j : Int))) :
    Calls Tryd.prog 41 #[.slice a n cap, .int .i64 j] w fun e w' => e = .returned (.int .u64 (wd n A j : Int)) ∧ w' = w := by
  by_cases h : j < n
  · obtain ⟨b, off, rfl, hlt, hc⟩ := ha (by omega)
    have hcell := hc j h
    clear hc ha
    have h' : (j : Int) < (n : Int) := by omega
    go_enter Tryd.func41, Tryd.ntmps41
    go_wp2
    go_ret
    rw [wd_in h]
    exact ⟨rfl, rfl⟩
  · have h' : ¬ (j : Int) < (n : Int) := by omega
    clear ha
    go_enter Tryd.func41, Tryd.ntmps41
    go_wp2
    go_ret
    rw [wd_out h]
    exact ⟨rfl, rfl⟩

/-- is i in the set? -/
def hasB (n : Nat) (A : Nat → Nat) (i : Int) : Bool := decide (0 ≤ i ∧ i < 64 * (n : Int)) && (A (i.toNat / 64)).testBit (i.toNat % 64)
theorem and_bit (x i : Nat) (hx : x < 18446744073709551616) : (bits .and .u64 (x : Int) (pw i : Int) != 0) = x.testBit (i % 64) := by
  rw [u64_and_nat x _ hx (pow_lt64 i)]
  have e := Nat.testBit_eq_decide_div_mod_eq (x := x) (i := i % 64)
  unfold pw
  rw [e, nat_bit]
  have hp : 0 < 2 ^ (i % 64) := Nat.two_pow_pos _
  rcases Nat.mod_two_eq_zero_or_one (x / 2 ^ (i % 64)) with h | h
  · rw [h]; simp
  · rw [h, Nat.one_mul]
    generalize 2 ^ (i % 64) = P at hp
    simp
    omega

theorem has_yes (b off n cap i : Nat) (x : Nat) (w : World) (hn : n ≤ 100000) (h : i < 64 * n) (hx : x < 18446744073709551616) (hc : w.cell? ⟨b, off + i / 64, none⟩ = some (.int .u64 x)) :
    Calls Tryd.prog 21 #[.slice (some ⟨b, off, none⟩) n cap, .int .i64 i] w fun e w' => e = .returned (.bool (x.testBit (i % 64))) ∧ ∃ q, w' = w.drewN q := by
  have hi : ((i / 64 : Nat) : Int) < (n : Int) := by omega
  have hd : (i : Int) / 64 < (n : Int) := by omega
  have hd0 : 0 ≤ (i : Int) / 64 := by omega
  have HAB := hidden (and_bit x i hx)
  go_enter Tryd.func21, Tryd.ntmps21
  go_wp2_with fail
  go_quiet (first
    | (go_at_call 37; refine Calls.quiet_of_same (reaches_yes _ n cap i _ hn h))
    | (go_at_call 38; refine Calls.quiet_of_same (bit_any i _ (by omega))))
  go_wp2_with fail
  go_ret
  refine ⟨?_, nq, rfl⟩
  rw [← HAB.out]
  rfl
theorem has_not (a : Option Addr) (n cap : Nat) (i : Int) (w : World) (hn : n ≤ 100000) (h : ¬ (0 ≤ i ∧ i < 64 * (n : Int))) (hi : i ≤ 9223372036854775807) :
    Calls Tryd.prog 21 #[.slice a n cap, .int .i64 i] w fun e w' => e = .returned (.bool false) ∧ ∃ q, w' = w.drewN q := by
  have hr : ∀ w, Calls Tryd.prog 37 #[.slice a n cap, .int .i64 i] w fun e w' => e = .returned (.bool false) ∧ w' = w := by
    intro w
    by_cases h0 : i < 0
    · exact reaches_low a n cap i w h0
    · obtain ⟨m, rfl⟩ : ∃ m : Nat, i = (m : Int) := ⟨i.toNat, by omega⟩
      exact reaches_high a n cap m w hn (by omega) (by omega)
  clear h
  go_enter Tryd.func21, Tryd.ntmps21
  go_wp2_with fail
  go_quiet (first
    | (go_at_call 37; refine Calls.quiet_of_same (hr _)))
  go_wp2_with fail
  go_ret
  exact ⟨rfl, nq, rfl⟩
theorem has_any (a : Option Addr) (n cap : Nat) (A : Nat → Nat) (i : Int) (w : World) (hn : n ≤ 100000) (hi : i ≤ 9223372036854775807) (hA : ∀ j, A j < 18446744073709551616) (ha : Rows' .u64 w a n (fun j => (A j : Int))) :
    Calls Tryd.prog 21 #[.slice a n cap, .int .i64 i] w fun e w' => e = .returned (.bool (hasB n A i)) ∧ ∃ q, w' = w.drewN q := by
  by_cases h : 0 ≤ i ∧ i < 64 * (n : Int)
  · obtain ⟨m, rfl⟩ : ∃ m : Nat, i = (m : Int) := ⟨i.toNat, by omega⟩
    obtain ⟨b, off, rfl, hlt, hc⟩ := ha (by omega)
    have e : hasB n A (m : Int) = (A (m / 64)).testBit (m % 64) := by simp [hasB, h]
    rw [e]
    exact has_yes b off n cap m (A (m / 64)) w hn (by omega) (hA _) (hc (m / 64) (by omega))
  · have e : hasB n A i = false := by simp [hasB, h]
    rw [e]
    exact has_not a n cap i w hn h hi

theorem count_any (a : Option Addr) (n cap : Nat) (A : Nat → Nat) (w : World) (hn : n ≤ 100000) (hA : ∀ j, A j < 18446744073709551616) (ha : Rows' .u64 w a n (fun j => (A j : Int))) :
    Calls Tryd.prog 28 #[.slice a n cap] w fun e w' => e = .returned (.int .i64 (tally n A : Int)) ∧ w' = w := by
  have HA := hidden ha
  have HB := hidden hA
  clear ha hA
  go_enter Tryd.func28, Tryd.ntmps28
  go_wp2
  go_loop [3, 7] (fun s i => ∃ k : Nat, k ≤ n ∧ i = .int .i64 (k : Int) ∧ s = .int .i64 (tally k A : Int)) (fun _ i => n - (intOf i).toNat)
  case atStart => exact ⟨0, by omega, rfl, rfl⟩
  case round =>
    obtain ⟨k, hk, rfl, rfl⟩ := hrel
    have hle := tally_le k A
    have hce := cnt_le 64 (A k)
    by_cases hkn : k < n
    · obtain ⟨b, off, rfl, hlt, hc⟩ := HA.out (by omega)
      have hcell := hc k hkn
      clear hc
      have hA1 := HB.out k
      go_wp2_with fail
      refine (ones_any (A k) _ hA1).mono ?_
      rintro e w' ⟨rfl, rfl⟩
      go_wp2_with fail
      go_round
      case rel => exact ⟨k + 1, by omega, by go_num, by show _ = Value.int .i64 ((tally k A + cnt 64 (A k) : Nat) : Int); go_num⟩
      case measure => simp [intOf]; omega
    · have : k = n := by omega
      subst this
      go_wp2
      go_ret
      exact ⟨rfl, rfl⟩

/-- do two rows of n numbers hold the same? -/
def allEq (n : Nat) (f g : Nat → Int) : Bool := (List.range n).all (fun j => f j == g j)
theorem allEq_true {n : Nat} {f g : Nat → Int} (h : ∀ j, j < n → f j = g j) : allEq n f g = true := by
  simp only [allEq, List.all_eq_true, List.mem_range, beq_iff_eq]
  exact h
theorem allEq_false {n k : Nat} {f g : Nat → Int} (hk : k < n) (h : f k ≠ g k) : allEq n f g = false := by
  rw [Bool.eq_false_iff]
  intro hh
  simp only [allEq, List.all_eq_true, List.mem_range, beq_iff_eq] at hh
  exact h (hh k hk)

theorem words_len (a b : Option Addr) (n m c c' : Nat) (w : World) (hn : n ≤ 100000) (hm : m ≤ 100000) (h : n ≠ m) :
    Calls Tryd.prog 17 #[.slice a n c, .slice b m c'] w fun e w' => e = .returned (.bool false) ∧ ∃ q, w' = w.drewN q := by
  have h' : ((n : Int) != (m : Int)) = true := by simp; omega
  go_enter Tryd.func17, Tryd.ntmps17
  go_wp2
  go_ret
  exact ⟨rfl, 0, rfl⟩
theorem words_eq (a b : Option Addr) (n c c' : Nat) (f g : Nat → Int) (w : World) (hn : n ≤ 100000) (ha : Rows' .u64 w a n f) (hb : Rows' .u64 w b n g) :
    Calls Tryd.prog 17 #[.slice a n c, .slice b n c'] w fun e w' => e = .returned (.bool (allEq n f g)) ∧ ∃ q, w' = w.drewN q := by
  have HA := hidden ha
  have HB := hidden hb
  have hr : ((n : Int) != (n : Int)) = false := by simp
  clear ha hb
  go_enter Tryd.func17, Tryd.ntmps17
  go_wp2
  go_loopw [5] (fun i wr => ∃ k q : Nat, k ≤ n ∧ i = .int .i64 (k : Int) ∧ wr = w.drewN q ∧ Hid (∀ j, j < k → f j = g j)) (fun i _ => n - (intOf i).toNat)
  case atStart => exact ⟨0, 0, by omega, rfl, rfl, fun j hj => by omega⟩
  case round =>
    obtain ⟨k, q, hk, rfl, rfl, hE⟩ := hrel
    by_cases hkn : k < n
    · obtain ⟨x, off, rfl, hlt, hc⟩ := HA.out (by omega)
      obtain ⟨y, off', rfl, hlt', hc'⟩ := HB.out (by omega)
      have hcell := hc k hkn
      have hcell' := hc' k hkn
      clear hc hc'
      have hki : (k : Int) < (n : Int) := by omega
      by_cases he : f k = g k
      · have he' : (f k != g k) = false := by simp [he]
        have HE := hidden he
        clear he
        go_wp2_with fail
        go_quiet (fail)
        go_wp2_with fail
        go_roundw
        case rel => exact ⟨k + 1, q + nq, by omega, by go_num, rfl, fun j hj => by
          rcases Nat.lt_or_ge j k with h | h
          · exact hE j h
          · rw [show j = k by omega]; exact HE⟩
        case measure => simp [intOf]; omega
      · have he' : (f k != g k) = true := by simp [he]
        have HE := hidden he
        clear he
        go_wp2_with fail
        go_quiet (fail)
        go_wp2_with fail
        go_ret
        refine ⟨?_, q + nq, by rw [World.drewN_drewN]⟩
        rw [allEq_false hkn HE.out]
        rfl
    · have : k = n := by omega
      subst this
      go_wp2
      go_ret
      refine ⟨?_, q, rfl⟩
      rw [allEq_true hE.out]
      rfl
theorem words_any (a b : Option Addr) (n m c c' : Nat) (f g : Nat → Int) (w : World) (hn : n ≤ 100000) (hm : m ≤ 100000) (ha : Rows' .u64 w a n f) (hb : Rows' .u64 w b m g) :
    Calls Tryd.prog 17 #[.slice a n c, .slice b m c'] w fun e w' => e = .returned (.bool (decide (n = m) && allEq n f g)) ∧ ∃ q, w' = w.drewN q := by
  by_cases h : n = m
  · subst h
    simp only [decide_true, Bool.true_and]
    exact words_eq a b n c c' f g w hn ha hb
  · simp only [h, decide_false, Bool.false_and]
    exact words_len a b n m c c' w hn hm h

theorem sameInts_len (a b : Option Addr) (n m c c' : Nat) (w : World) (hn : n ≤ 100000) (hm : m ≤ 100000) (h : n ≠ m) :
    Calls Tryd.prog 26 #[.slice a n c, .slice b m c'] w fun e w' => e = .returned (.bool false) ∧ ∃ q, w' = w.drewN q := by
  have h' : ((n : Int) != (m : Int)) = true := by simp; omega
  go_enter Tryd.func26, Tryd.ntmps26
  go_wp2
  go_ret
  exact ⟨rfl, 0, rfl⟩
theorem sameInts_eq (a b : Option Addr) (n c c' : Nat) (f g : Nat → Int) (w : World) (hn : n ≤ 100000) (ha : Rows' .i64 w a n f) (hb : Rows' .i64 w b n g) :
    Calls Tryd.prog 26 #[.slice a n c, .slice b n c'] w fun e w' => e = .returned (.bool (allEq n f g)) ∧ ∃ q, w' = w.drewN q := by
  have HA := hidden ha
  have HB := hidden hb
  have hr : ((n : Int) != (n : Int)) = false := by simp
  clear ha hb
  go_enter Tryd.func26, Tryd.ntmps26
  go_wp2
  go_loopw [5] (fun i wr => ∃ k q : Nat, k ≤ n ∧ i = .int .i64 (k : Int) ∧ wr = w.drewN q ∧ Hid (∀ j, j < k → f j = g j)) (fun i _ => n - (intOf i).toNat)
  case atStart => exact ⟨0, 0, by omega, rfl, rfl, fun j hj => by omega⟩
  case round =>
    obtain ⟨k, q, hk, rfl, rfl, hE⟩ := hrel
    by_cases hkn : k < n
    · obtain ⟨x, off, rfl, hlt, hc⟩ := HA.out (by omega)
      obtain ⟨y, off', rfl, hlt', hc'⟩ := HB.out (by omega)
      have hcell := hc k hkn
      have hcell' := hc' k hkn
      clear hc hc'
      have hki : (k : Int) < (n : Int) := by omega
      by_cases he : f k = g k
      · have he' : (f k != g k) = false := by simp [he]
        have HE := hidden he
        clear he
        go_wp2_with fail
        go_quiet (fail)
        go_wp2_with fail
        go_roundw
        case rel => exact ⟨k + 1, q + nq, by omega, by go_num, rfl, fun j hj => by
          rcases Nat.lt_or_ge j k with h | h
          · exact hE j h
          · rw [show j = k by omega]; exact HE⟩
        case measure => simp [intOf]; omega
      · have he' : (f k != g k) = true := by simp [he]
        have HE := hidden he
        clear he
        go_wp2_with fail
        go_quiet (fail)
        go_wp2_with fail
        go_ret
        refine ⟨?_, q + nq, by rw [World.drewN_drewN]⟩
        rw [allEq_false hkn HE.out]
        rfl
    · have : k = n := by omega
      subst this
      go_wp2
      go_ret
      refine ⟨?_, q, rfl⟩
      rw [allEq_true hE.out]
      rfl
theorem sameInts_any (a b : Option Addr) (n m c c' : Nat) (f g : Nat → Int) (w : World) (hn : n ≤ 100000) (hm : m ≤ 100000) (ha : Rows' .i64 w a n f) (hb : Rows' .i64 w b m g) :
    Calls Tryd.prog 26 #[.slice a n c, .slice b m c'] w fun e w' => e = .returned (.bool (decide (n = m) && allEq n f g)) ∧ ∃ q, w' = w.drewN q := by
  by_cases h : n = m
  · subst h
    simp only [decide_true, Bool.true_and]
    exact sameInts_eq a b n c c' f g w hn ha hb
  · simp only [h, decide_false, Bool.false_and]
    exact sameInts_len a b n m c c' w hn hm h


/-- are the same numbers in both sets? -/
def sameW (n : Nat) (A : Nat → Nat) (m : Nat) (B : Nat → Nat) : Bool := allEq (max n m) (fun j => (wd n A j : Int)) (fun j => (wd m B j : Int))
theorem same_lt (a b : Option Addr) (n m c c' : Nat) (A B : Nat → Nat) (w : World) (hn : n ≤ 100000) (hm : m ≤ 100000) (hnm : n < m) (ha : Rows' .u64 w a n (fun j => (A j : Int))) (hb : Rows' .u64 w b m (fun j => (B j : Int))) :
    Calls Tryd.prog 33 #[.slice a n c, .slice b m c'] w fun e w' => e = .returned (.bool (allEq m (fun j => (wd n A j : Int)) (fun j => (wd m B j : Int)))) ∧ w' = w := by
  have HA := hidden ha
  have HB := hidden hb
  clear ha hb
  go_enter Tryd.func33, Tryd.ntmps33
  go_wp2
  go_loop [11] (fun i => ∃ k : Nat, k ≤ m ∧ i = .int .i64 (k : Int) ∧ Hid (∀ j, j < k → wd n A j = wd m B j)) (fun i => m - (intOf i).toNat)
  case atStart => exact ⟨0, by omega, rfl, fun j hj => by omega⟩
  case round =>
    obtain ⟨k, hk, rfl, hE⟩ := hrel
    by_cases hkn : k < m
    · have hki : (k : Int) < (m : Int) := by omega
      go_wp2_with fail
      refine (word_any a n c k A _ hn (by omega) HA.out).mono ?_
      rintro e w' ⟨rfl, rfl⟩
      go_wp2_with fail
      refine (word_any b m c' k B _ hm (by omega) HB.out).mono ?_
      rintro e w' ⟨rfl, rfl⟩
      by_cases he : wd n A k = wd m B k
      · have he' : ((wd n A k : Int) != (wd m B k : Int)) = false := by simp [he]
        have HE := hidden he
        clear he
        go_wp2_with fail
        go_round
        case rel => exact ⟨k + 1, by omega, by go_num, fun j hj => by
          rcases Nat.lt_or_ge j k with h | h
          · exact hE j h
          · rw [show j = k by omega]; exact HE⟩
        case measure => simp [intOf]; omega
      · have he' : ((wd n A k : Int) != (wd m B k : Int)) = true := by simp; omega
        have HE := hidden he
        clear he
        go_wp2_with fail
        go_ret
        refine ⟨?_, rfl⟩
        rw [allEq_false hkn (fun h => HE.out (Int.ofNat_inj.1 h))]
        rfl
    · have : k = m := by omega
      subst this
      go_wp2
      go_ret
      refine ⟨?_, rfl⟩
      rw [allEq_true (fun j hj => Int.ofNat_inj.2 (hE.out j hj))]
      rfl
theorem same_ge (a b : Option Addr) (n m c c' : Nat) (A B : Nat → Nat) (w : World) (hn : n ≤ 100000) (hm : m ≤ 100000) (hnm : ¬ n < m) (ha : Rows' .u64 w a n (fun j => (A j : Int))) (hb : Rows' .u64 w b m (fun j => (B j : Int))) :
    Calls Tryd.prog 33 #[.slice a n c, .slice b m c'] w fun e w' => e = .returned (.bool (allEq n (fun j => (wd n A j : Int)) (fun j => (wd m B j : Int)))) ∧ w' = w := by
  have HA := hidden ha
  have HB := hidden hb
  clear ha hb
  go_enter Tryd.func33, Tryd.ntmps33
  go_wp2
  go_loop [11] (fun i => ∃ k : Nat, k ≤ n ∧ i = .int .i64 (k : Int) ∧ Hid (∀ j, j < k → wd n A j = wd m B j)) (fun i => n - (intOf i).toNat)
  case atStart => exact ⟨0, by omega, rfl, fun j hj => by omega⟩
  case round =>
    obtain ⟨k, hk, rfl, hE⟩ := hrel
    by_cases hkn : k < n
    · have hki : (k : Int) < (n : Int) := by omega
      go_wp2_with fail
      refine (word_any a n c k A _ hn (by omega) HA.out).mono ?_
      rintro e w' ⟨rfl, rfl⟩
      go_wp2_with fail
      refine (word_any b m c' k B _ hm (by omega) HB.out).mono ?_
      rintro e w' ⟨rfl, rfl⟩
      by_cases he : wd n A k = wd m B k
      · have he' : ((wd n A k : Int) != (wd m B k : Int)) = false := by simp [he]
        have HE := hidden he
        clear he
        go_wp2_with fail
        go_round
        case rel => exact ⟨k + 1, by omega, by go_num, fun j hj => by
          rcases Nat.lt_or_ge j k with h | h
          · exact hE j h
          · rw [show j = k by omega]; exact HE⟩
        case measure => simp [intOf]; omega
      · have he' : ((wd n A k : Int) != (wd m B k : Int)) = true := by simp; omega
        have HE := hidden he
        clear he
        go_wp2_with fail
        go_ret
        refine ⟨?_, rfl⟩
        rw [allEq_false hkn (fun h => HE.out (Int.ofNat_inj.1 h))]
        rfl
    · have : k = n := by omega
      subst this
      go_wp2
      go_ret
      refine ⟨?_, rfl⟩
      rw [allEq_true (fun j hj => Int.ofNat_inj.2 (hE.out j hj))]
      rfl
theorem same_any (a b : Option Addr) (n m c c' : Nat) (A B : Nat → Nat) (w : World) (hn : n ≤ 100000) (hm : m ≤ 100000) (ha : Rows' .u64 w a n (fun j => (A j : Int))) (hb : Rows' .u64 w b m (fun j => (B j : Int))) :
    Calls Tryd.prog 33 #[.slice a n c, .slice b m c'] w fun e w' => e = .returned (.bool (sameW n A m B)) ∧ w' = w := by
  unfold sameW
  by_cases h : n < m
  · rw [show max n m = m by omega]
    exact same_lt a b n m c c' A B w hn hm h ha hb
  · rw [show max n m = n by omega]
    exact same_ge a b n m c c' A B w hn hm h ha hb

/-- is x among the numbers? -/
theorem hasInt_any (a : Option Addr) (n c : Nat) (f : Nat → Int) (x : Int) (w : World) (hn : n ≤ 100000) (ha : Rows' .i64 w a n f) :
    Calls Tryd.prog 20 #[.slice a n c, .int .i64 x] w fun e w' => e = .returned (.bool (decide (∃ j, j < n ∧ f j = x))) ∧ w' = w := by
  have HA := hidden ha
  clear ha
  go_enter Tryd.func20, Tryd.ntmps20
  go_wp2
  go_loop [5] (fun i => ∃ k : Nat, k ≤ n ∧ i = .int .i64 (k : Int) ∧ Hid (∀ j, j < k → f j ≠ x)) (fun i => n - (intOf i).toNat)
  case atStart => exact ⟨0, by omega, rfl, fun j hj => by omega⟩
  case round =>
    obtain ⟨k, hk, rfl, hE⟩ := hrel
    by_cases hkn : k < n
    · have hki : (k : Int) < (n : Int) := by omega
      obtain ⟨b, off, rfl, hlt, hc⟩ := HA.out (by omega)
      have hcell := hc k hkn
      clear hc
      by_cases he : f k = x
      · have he' : (f k == x) = true := by simp [he]
        have HE := hidden he
        clear he
        go_wp2_with fail
        go_ret
        refine ⟨?_, rfl⟩
        rw [decide_eq_true (⟨k, hkn, HE.out⟩ : ∃ j, j < n ∧ f j = x)]
        rfl
      · have he' : (f k == x) = false := by simp [he]
        have HE := hidden he
        clear he
        go_wp2_with fail
        go_round
        case rel => exact ⟨k + 1, by omega, by go_num, fun j hj => by
          rcases Nat.lt_or_ge j k with h | h
          · exact hE j h
          · rw [show j = k by omega]; exact HE⟩
        case measure => simp [intOf]; omega
    · have : k = n := by omega
      subst this
      go_wp2
      go_ret
      refine ⟨?_, rfl⟩
      rw [decide_eq_false (fun ⟨j, hj, h⟩ => hE.out j hj h)]
      rfl

/-- may a set of n words be one of the width u? -/
def rightB (n : Nat) (A : Nat → Nat) (u : Nat) : Bool := decide (n = (u + 63) / 64) && allEq n (fun j => ((A j &&& (18446744073709551615 - fullW u j) : Nat) : Int)) (fun _ => 0)
theorem right_not (a : Option Addr) (n c : Nat) (u : Int) (w : World) (h : isW u = false) :
    Calls Tryd.prog 12 #[.slice a n c, .int .i64 u] w fun e w' => e = .returned (.bool false) ∧ ∃ q, w' = w.drewN q := by
  go_enter Tryd.func12, Tryd.ntmps12
  go_wp2_with fail
  refine (isWidth_any u _).mono ?_
  rintro e w' ⟨rfl, rfl⟩
  rw [h]
  go_wp2_with fail
  go_ret
  exact ⟨rfl, 0, rfl⟩
theorem right_len (a : Option Addr) (n c u : Nat) (w : World) (hu : u ≤ 65536) (hn : n ≤ 100000) (h : n ≠ (u + 63) / 64) :
    Calls Tryd.prog 12 #[.slice a n c, .int .i64 u] w fun e w' => e = .returned (.bool false) ∧ ∃ q, w' = w.drewN q := by
  have h' : ((n : Int) != (((u + 63) / 64 : Nat) : Int)) = true := by simp; omega
  have hW := isW_in (x := (u : Int)) (by omega) (by omega)
  obtain ⟨N, hN⟩ : ∃ N, N = (u + 63) / 64 := ⟨_, rfl⟩
  rw [← hN] at h'
  have HN := hidden hN
  clear hN h
  go_enter Tryd.func12, Tryd.ntmps12
  go_wp2_with fail
  refine (isWidth_any u _).mono ?_
  rintro e w' ⟨rfl, rfl⟩
  rw [hW]
  go_wp2_with fail
  refine (wordsFor_any u _ hu).mono ?_
  rintro e w' ⟨rfl, rfl⟩
  rw [← HN.out]
  go_wp2_with fail
  go_ret
  exact ⟨rfl, 0, rfl⟩
theorem right_eq (a : Option Addr) (n c u : Nat) (A : Nat → Nat) (w : World) (hu : u ≤ 65536) (hn : n = (u + 63) / 64) (hA : ∀ j, A j < 18446744073709551616) (ha : Rows' .u64 w a n (fun j => (A j : Int))) :
    Calls Tryd.prog 12 #[.slice a n c, .int .i64 u] w fun e w' => e = .returned (.bool (allEq n (fun j => ((A j &&& (18446744073709551615 - fullW u j) : Nat) : Int)) (fun _ => 0))) ∧ ∃ q, w' = w.drewN q := by
  have h' : ((n : Int) != (n : Int)) = false := by simp
  have hW := isW_in (x := (u : Int)) (by omega) (by omega)
  have hnl : n ≤ 1024 := by omega
  have hnu : 64 * n < u + 64 := by omega
  have HN := hidden hn
  have HA := hidden ha
  have HB := hidden hA
  clear hn ha hA
  go_enter Tryd.func12, Tryd.ntmps12
  go_wp2_with fail
  refine (isWidth_any u _).mono ?_
  rintro e w1 ⟨rfl, hw1⟩
  rw [hw1]
  clear hw1 w1
  rw [hW]
  go_wp2_with fail
  refine (wordsFor_any u _ hu).mono ?_
  rintro e w1 ⟨rfl, hw1⟩
  rw [hw1]
  clear hw1 w1
  rw [← HN.out]
  go_wp2_with fail
  go_loopw [18] (fun i wr => ∃ k q : Nat, k ≤ n ∧ i = .int .i64 (k : Int) ∧ wr = w.drewN q ∧ Hid (∀ j, j < k → A j &&& (18446744073709551615 - fullW u j) = 0)) (fun i _ => n - (intOf i).toNat)
  case atStart => exact ⟨0, 0, by omega, rfl, rfl, fun j hj => by omega⟩
  case round =>
    obtain ⟨k, q, hk, rfl, hwr, hE⟩ := hrel
    have HWR := hidden hwr
    by_cases hkn : k < n
    · obtain ⟨x, off, rfl, hlt, hc⟩ := HA.out (by omega)
      have hcell : wr.cell? ⟨x, off + k, none⟩ = some (.int .u64 (A k : Int)) := by rw [hwr]; exact hc k hkn
      clear hc hwr
      have hki : (k : Int) < (n : Int) := by omega
      have hval := u64_andNot_nat (A k) (fullW u k) (HB.out k) (fullW_lt u k)
      by_cases he : A k &&& (18446744073709551615 - fullW u k) = 0
      · have he' : (bits .andNot .u64 (A k : Int) (fullW u k : Int) != 0) = false := by rw [hval, he]; rfl
        have HE := hidden he
        clear he hval
        go_wp2_with fail
        go_quiet (first | (go_at_call 36; refine Calls.quiet_of_same (wordBelow_any u k _ hu (by omega))))
        go_wp2_with fail
        go_roundw
        case rel => exact ⟨k + 1, q + nq, by omega, by go_num, by rw [HWR.out, World.drewN_drewN], fun j hj => by
          rcases Nat.lt_or_ge j k with h | h
          · exact hE j h
          · rw [show j = k by omega]; exact HE⟩
        case measure => simp [intOf]; omega
      · have he' : (bits .andNot .u64 (A k : Int) (fullW u k : Int) != 0) = true := by rw [hval]; simpa using he
        have HE := hidden he
        clear he hval
        go_wp2_with fail
        go_quiet (first | (go_at_call 36; refine Calls.quiet_of_same (wordBelow_any u k _ hu (by omega))))
        go_wp2_with fail
        go_ret
        refine ⟨?_, q + nq, by rw [HWR.out, World.drewN_drewN]⟩
        rw [allEq_false hkn (fun h => HE.out (Int.ofNat_inj.1 h))]
        rfl
    · have : k = n := by omega
      subst this
      clear hwr
      go_wp2
      go_ret
      refine ⟨?_, q, HWR.out⟩
      rw [allEq_true (g := fun _ => 0) (fun j hj => Int.ofNat_inj.2 (hE.out j hj))]
      rfl
theorem right_any (a : Option Addr) (n c u : Nat) (A : Nat → Nat) (w : World) (hu : u ≤ 65536) (hn : n ≤ 100000) (hA : ∀ j, A j < 18446744073709551616) (ha : Rows' .u64 w a n (fun j => (A j : Int))) :
    Calls Tryd.prog 12 #[.slice a n c, .int .i64 u] w fun e w' => e = .returned (.bool (rightB n A u)) ∧ ∃ q, w' = w.drewN q := by
  unfold rightB
  by_cases h : n = (u + 63) / 64
  · simp only [h, decide_true, Bool.true_and]
    rw [← h]
    exact right_eq a n c u A w hu h hA ha
  · simp only [h, decide_false, Bool.false_and]
    exact right_len a n c u w hu hn h

end Go.Proofs.YtkaaokaiealbmaaDoor
