/- The walks through the statements' helpers on slices of ints: HasInt, SameInts, Ints, Sorted. -/
import Derived.Test.YtncbkedfodaabaaGenList
import Derived.Deep.QuietTactic
import Derived.BigQuiet
namespace Go.Proofs.Ytncbkedfodaabaa
open Go.RowKit
set_option linter.unusedVariables false

theorem sameInts_len (a b : Option Addr) (n m c c' : Nat) (w : World) (hn : n ≤ 100000) (hm : m ≤ 100000) (h : n ≠ m) :
    Calls Try.prog 17 #[.slice a n c, .slice b m c'] w fun e w' => e = .returned (.bool false) ∧ ∃ q, w' = w.drewN q := by
  have h' : ((n : Int) != (m : Int)) = true := by simp; omega
  go_enter Try.func17, Try.ntmps17
  go_wp2
  go_ret
  exact ⟨rfl, 0, rfl⟩
theorem sameInts_eq (a b : Option Addr) (n c c' : Nat) (f g : Nat → Int) (w : World) (hn : n ≤ 100000) (ha : Rows' .i64 w a n f) (hb : Rows' .i64 w b n g) :
    Calls Try.prog 17 #[.slice a n c, .slice b n c'] w fun e w' => e = .returned (.bool (allEq n f g)) ∧ ∃ q, w' = w.drewN q := by
  have HA := hidden ha
  have HB := hidden hb
  have hr : ((n : Int) != (n : Int)) = false := by simp
  clear ha hb
  go_enter Try.func17, Try.ntmps17
  go_wp2
  go_loopw [5] (fun i wr => ∃ k q : Nat, k ≤ n ∧ i = .int .i64 (k : Int) ∧ wr = w.drewN q ∧ Hid (∀ j, j < k → f j = g j)) (fun i _ => n - (intOf i).toNat)
  case atStart => exact ⟨0, 0, by omega, rfl, rfl, fun j hj => by omega⟩
  case round =>
    obtain ⟨k, q, hk, rfl, rfl, hE⟩ := hrel
    by_cases hkn : k < n
    · obtain ⟨x, off, rfl, hlt, hc⟩ := HA.out (by omega)
      obtain ⟨y, off', rfl, hlt', hc'⟩ := HB.out (by omega)
      have hcell := hc k hkn
      have hcell' := hc' k hkn
      clear hc hc'
      have hki : (k : Int) < (n : Int) := by omega
      by_cases he : f k = g k
      · have he' : (f k != g k) = false := by simp [he]
        have HE := hidden he
        clear he
        go_wp2_with fail
        go_quiet (fail)
        go_wp2_with fail
        go_roundw
        case rel => exact ⟨k + 1, q + nq, by omega, by go_num, rfl, fun j hj => by
          rcases Nat.lt_or_ge j k with h | h
          · exact hE j h
          · rw [show j = k by omega]; exact HE⟩
        case measure => simp [intOf]; omega
      · have he' : (f k != g k) = true := by simp [he]
        have HE := hidden he
        clear he
        go_wp2_with fail
        go_quiet (fail)
        go_wp2_with fail
        go_ret
        refine ⟨?_, q + nq, by rw [World.drewN_drewN]⟩
        rw [allEq_false hkn HE.out]
        rfl
    · have : k = n := by omega
      subst this
      go_wp2
      go_ret
      refine ⟨?_, q, rfl⟩
      rw [allEq_true hE.out]
      rfl
theorem sameInts_any (a b : Option Addr) (n m c c' : Nat) (f g : Nat → Int) (w : World) (hn : n ≤ 100000) (hm : m ≤ 100000) (ha : Rows' .i64 w a n f) (hb : Rows' .i64 w b m g) :
    Calls Try.prog 17 #[.slice a n c, .slice b m c'] w fun e w' => e = .returned (.bool (decide (n = m) && allEq n f g)) ∧ ∃ q, w' = w.drewN q := by
  by_cases h : n = m
  · subst h
    simp only [decide_true, Bool.true_and]
    exact sameInts_eq a b n c c' f g w hn ha hb
  · simp only [h, decide_false, Bool.false_and]
    exact sameInts_len a b n m c c' w hn hm h
end Go.Proofs.Ytncbkedfodaabaa
