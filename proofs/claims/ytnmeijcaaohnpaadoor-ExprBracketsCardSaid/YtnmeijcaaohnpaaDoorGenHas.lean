/- The walks through the statements' helpers on slices of ints: HasInt, SameInts, Ints, Sorted. -/
import Derived.Test.YtnmeijcaaohnpaaDoorGenList
import Derived.Deep.QuietTactic
import Derived.BigQuiet
namespace Go.Proofs.YtnmeijcaaohnpaaDoor
open Go.RowKit
set_option linter.unusedVariables false

theorem sameInts_len (a b : Option Addr) (n m c c' : Nat) (w : World) (hn : n ≤ 100000) (hm : m ≤ 100000) (h : n ≠ m) :
    Calls Tryd.prog 26 #[.slice a n c, .slice b m c'] w fun e w' => e = .returned (.bool false) ∧ ∃ q, w' = w.drewN q := by
  have h' : ((n : Int) != (m : Int)) = true := by simp; omega
  go_enter Tryd.func26, Tryd.ntmps26
  go_wp2
  go_ret
  exact ⟨rfl, 0, rfl⟩
theorem sameInts_eq (a b : Option Addr) (n c c' : Nat) (f g : Nat → Int) (w : World) (hn : n ≤ 100000) (ha : Rows' .i64 w a n f) (hb : Rows' .i64 w b n g) :
    Calls Tryd.prog 26 #[.slice a n c, .slice b n c'] w fun e w' => e = .returned (.bool (allEq n f g)) ∧ ∃ q, w' = w.drewN q := by
  have HA := hidden ha
  have HB := hidden hb
  have hr : ((n : Int) != (n : Int)) = false := by simp
  clear ha hb
  go_enter Tryd.func26, Tryd.ntmps26
  go_wp2
  go_loopw [5] (fun i wr => ∃ k q : Nat, k ≤ n ∧ i = .int .i64 (k : Int) ∧ wr = w.drewN q ∧ Hid (∀ j, j < k → f j = g j)) (fun i _ => n - (intOf i).toNat)
  case atStart => exact ⟨0, 0, by omega, rfl, rfl, fun j hj => by omega⟩
  case round =>
    obtain ⟨k, q, hk, rfl, rfl, hE⟩ := hrel
    by_cases hkn : k < n
    · obtain ⟨x, off, rfl, hlt, hc⟩ := HA.out (by omega)
      obtain ⟨y, off', rfl, hlt', hc'⟩ := HB.out (by omega)
      have hcell := hc k hkn
      have hcell' := hc' k hkn
      clear hc hc'
      have hki : (k : Int) < (n : Int) := by omega
      by_cases he : f k = g k
      · have he' : (f k != g k) = false := by simp [he]
        have HE := hidden he
        clear he
        go_wp2_with fail
        go_quiet (fail)
        go_wp2_with fail
        go_roundw
        case rel => exact ⟨k + 1, q + nq, by omega, by go_num, rfl, fun j hj => by
          rcases Nat.lt_or_ge j k with h | h
          · exact hE j h
          · rw [show j = k by omega]; exact HE⟩
        case measure => simp [intOf]; omega
      · have he' : (f k != g k) = true := by simp [he]
        have HE := hidden he
        clear he
        go_wp2_with fail
        go_quiet (fail)
        go_wp2_with fail
        go_ret
        refine ⟨?_, q + nq, by rw [World.drewN_drewN]⟩
        rw [allEq_false hkn HE.out]
        rfl
    · have : k = n := by omega
      subst this
      go_wp2
      go_ret
      refine ⟨?_, q, rfl⟩
      rw [allEq_true hE.out]
      rfl
theorem sameInts_any (a b : Option Addr) (n m c c' : Nat) (f g : Nat → Int) (w : World) (hn : n ≤ 100000) (hm : m ≤ 100000) (ha : Rows' .i64 w a n f) (hb : Rows' .i64 w b m g) :
    Calls Tryd.prog 26 #[.slice a n c, .slice b m c'] w fun e w' => e = .returned (.bool (decide (n = m) && allEq n f g)) ∧ ∃ q, w' = w.drewN q := by
  by_cases h : n = m
  · subst h
    simp only [decide_true, Bool.true_and]
    exact sameInts_eq a b n c c' f g w hn ha hb
  · simp only [h, decide_false, Bool.false_and]
    exact sameInts_len a b n m c c' w hn hm h
/-- is x among the numbers? -/
theorem hasInt_any (a : Option Addr) (n c : Nat) (f : Nat → Int) (x : Int) (w : World) (hn : n ≤ 100000) (ha : Rows' .i64 w a n f) :
    Calls Tryd.prog 9 #[.slice a n c, .int .i64 x] w fun e w' => e = .returned (.bool (decide (∃ j, j < n ∧ f j = x))) ∧ w' = w := by
  have HA := hidden ha
  clear ha
  go_enter Tryd.func9, Tryd.ntmps9
  go_wp2
  go_loop [5] (fun i => ∃ k : Nat, k ≤ n ∧ i = .int .i64 (k : Int) ∧ Hid (∀ j, j < k → f j ≠ x)) (fun i => n - (intOf i).toNat)
  case atStart => exact ⟨0, by omega, rfl, fun j hj => by omega⟩
  case round =>
    obtain ⟨k, hk, rfl, hE⟩ := hrel
    by_cases hkn : k < n
    · have hki : (k : Int) < (n : Int) := by omega
      obtain ⟨b, off, rfl, hlt, hc⟩ := HA.out (by omega)
      have hcell := hc k hkn
      clear hc
      by_cases he : f k = x
      · have he' : (f k == x) = true := by simp [he]
        have HE := hidden he
        clear he
        go_wp2_with fail
        go_ret
        refine ⟨?_, rfl⟩
        rw [decide_eq_true (⟨k, hkn, HE.out⟩ : ∃ j, j < n ∧ f j = x)]
        rfl
      · have he' : (f k == x) = false := by simp [he]
        have HE := hidden he
        clear he
        go_wp2_with fail
        go_round
        case rel => exact ⟨k + 1, by omega, by go_num, fun j hj => by
          rcases Nat.lt_or_ge j k with h | h
          · exact hE j h
          · rw [show j = k by omega]; exact HE⟩
        case measure => simp [intOf]; omega
    · have : k = n := by omega
      subst this
      go_wp2
      go_ret
      refine ⟨?_, rfl⟩
      rw [decide_eq_false (fun ⟨j, hj, h⟩ => hE.out j hj h)]
      rfl
theorem hasInt_list (a : Option Addr) (L cap : Nat) (xs : List Int) (x : Int) (w : World) (hL : L = xs.length) (hn : L ≤ 100000) (ha : Rows' .i64 w a L (fun j => xs.getD j 0)) :
    Calls Tryd.prog 9 #[.slice a L cap, .int .i64 x] w fun e w' => e = .returned (.bool (decide (x ∈ xs))) ∧ w' = w := by
  refine (hasInt_any a L cap _ x w hn ha).mono ?_
  rintro e w1 ⟨rfl, hw1⟩
  refine ⟨?_, hw1⟩
  rw [hL]
  congr 2
  exact decide_eq_decide.2 in_list
theorem sameInts_list (a b : Option Addr) (n m c c' : Nat) (xs ys : List Int) (w : World) (hx : n = xs.length) (hy : m = ys.length) (hn : n ≤ 100000) (hm : m ≤ 100000) (ha : Rows' .i64 w a n (fun j => xs.getD j 0)) (hb : Rows' .i64 w b m (fun j => ys.getD j 0)) :
    Calls Tryd.prog 26 #[.slice a n c, .slice b m c'] w fun e w' => e = .returned (.bool (decide (xs = ys))) ∧ ∃ q, w' = w.drewN q := by
  refine (sameInts_any a b n m c c' _ _ w hn hm ha hb).mono ?_
  rintro e w1 ⟨rfl, hw1⟩
  refine ⟨?_, hw1⟩
  rw [hx, hy, list_eqB]

end Go.Proofs.YtnmeijcaaohnpaaDoor
