/- The walks through a queue's calls that only read: isOf, Has, Len; of a queue that New gave, of one that nobody made, and of none. -/
import Derived.Test.YtingebjeefncaaaQueueSpec
import Derived.WalkKit
namespace Go.Proofs.Ytingebjeefncaaa
open Go.RowKit Go.Conc
set_option linter.unusedVariables false

theorem isOf_any (p n cap : Nat) (a : Option Addr) (i : Int) (w : World) (hcell : w.cell? ⟨p, 1, none⟩ = some (.slice a n cap)) :
    Calls Try.prog 19 #[.pointer (some ⟨p, 0, none⟩), .int .i64 i] w fun e w' => e = .returned (.bool (decide (0 ≤ i ∧ i < (n : Int)))) ∧ w' = w := by
  by_cases h0 : 0 ≤ i
  · go_enter Try.func19, Try.ntmps19
    go_wp2
    go_ret
    refine ⟨?_, rfl⟩
    simp [h0]
  · go_enter Try.func19, Try.ntmps19
    go_wp2
    go_ret
    refine ⟨?_, rfl⟩
    rw [decide_eq_false (by omega)]
    rfl
theorem isOf_nil (i : Int) (w : World) :
    Calls Try.prog 19 #[.pointer none, .int .i64 i] w fun e w' => e = .returned (.bool false) ∧ w' = w := by
  go_enter Try.func19, Try.ntmps19
  go_wp2
  go_ret
  exact ⟨rfl, rfl⟩
theorem has_none (p cap : Nat) (a : Option Addr) (i : Int) (w : World) (n : Nat) (hcell : w.cell? ⟨p, 1, none⟩ = some (.slice a n cap)) (hi : ¬ (0 ≤ i ∧ i < (n : Int))) :
    Calls Try.prog 10 #[.pointer (some ⟨p, 0, none⟩), .int .i64 i] w fun e w' => e = .returned (.bool false) ∧ w' = w := by
  have HI := hidden hi
  have HC := hidden hcell
  clear hi
  go_enter Try.func10, Try.ntmps10
  go_wp2_with fail
  refine (isOf_any p n cap a i w HC.out).mono ?_
  rintro e w1 ⟨rfl, hw1⟩
  rw [hw1]
  clear hw1 w1
  rw [decide_eq_false HI.out]
  go_wp2_with fail
  go_ret
  exact ⟨rfl, rfl⟩
theorem has_nil (i : Int) (w : World) :
    Calls Try.prog 10 #[.pointer none, .int .i64 i] w fun e w' => e = .returned (.bool false) ∧ w' = w := by
  go_enter Try.func10, Try.ntmps10
  go_wp2_with fail
  refine (isOf_nil i w).mono ?_
  rintro e w1 ⟨rfl, hw1⟩
  rw [hw1]
  clear hw1 w1
  go_wp2_with fail
  go_ret
  exact ⟨rfl, rfl⟩
theorem has_some (p g cap k : Nat) (i : Int) (w : World) (n : Nat) (x : Bool) (hcell : w.cell? ⟨p, 1, none⟩ = some (.slice (some ⟨g, 0, none⟩) n cap)) (hi : i = (k : Int)) (hk : k < n) (hx : w.cell? ⟨g, k, none⟩ = some (.bool x)) :
    Calls Try.prog 10 #[.pointer (some ⟨p, 0, none⟩), .int .i64 i] w fun e w' => e = .returned (.bool x) ∧ w' = w := by
  subst hi
  have hki : (k : Int) < (n : Int) := by omega
  go_enter Try.func10, Try.ntmps10
  go_wp2_with fail
  refine (isOf_any p n cap _ k w hcell).mono ?_
  rintro e w1 ⟨rfl, hw1⟩
  rw [hw1]
  clear hw1 w1
  rw [decide_eq_true (show 0 ≤ (k : Int) ∧ (k : Int) < (n : Int) from ⟨by omega, by omega⟩)]
  go_wp2_with fail
  go_ret
  exact ⟨rfl, rfl⟩
theorem has_any (p g c n : Nat) (xs : List Int) (i : Int) (w : World) (h : IsQ w p g c n xs) :
    Calls Try.prog 10 #[.pointer (some ⟨p, 0, none⟩), .int .i64 i] w fun e w' => e = .returned (.bool (decide (i ∈ xs))) ∧ w' = w := by
  by_cases hi : 0 ≤ i ∧ i < (n : Int)
  · have e : i = (i.toNat : Int) := by omega
    have hc := h.row.cell (j := i.toNat) (by omega)
    rw [← e] at hc
    exact has_some p g n i.toNat i w n _ h.cell1 e (by omega) hc
  · rw [decide_eq_false (fun hx => hi (h.fits i hx))]
    exact has_none p n _ i w n h.cell1 hi
theorem len_chan (p c n s r : Nat) (xs : List Int) (w : World) (hn : xs.length ≤ 1000000) (h0 : w.cell? ⟨p, 0, none⟩ = some (.chan (some c))) (hl : w.heap[c]? = some (.chan n (bufOf xs) false s r false)) :
    Calls Try.prog 11 #[.pointer (some ⟨p, 0, none⟩)] w fun e w' => e = .returned (.int .i64 (xs.length : Int)) ∧ w' = w := by
  have hlen := run_len_chan' (P := Try.prog) 42 3 Try.underlying42 hl
  rw [bufOf_size] at hlen
  go_enter Try.func11, Try.ntmps11
  go_wp2
  go_ret
  exact ⟨rfl, rfl⟩
theorem len_any (p g c n : Nat) (xs : List Int) (w : World) (h : IsQ w p g c n xs) :
    Calls Try.prog 11 #[.pointer (some ⟨p, 0, none⟩)] w fun e w' => e = .returned (.int .i64 (xs.length : Int)) ∧ w' = w := by
  obtain ⟨s, r, hl⟩ := h.line
  have := h.len
  have := h.small
  exact len_chan p c n s r xs w (by omega) h.cell0 hl
theorem len_zero (p : Nat) (w : World) (h0 : w.cell? ⟨p, 0, none⟩ = some (.chan none)) :
    Calls Try.prog 11 #[.pointer (some ⟨p, 0, none⟩)] w fun e w' => e = .returned (.int .i64 0) ∧ w' = w := by
  have hlen : (Builtin.len_ #[42] 3 #[.chan none]).run Try.prog w = .ok (.int .i64 0) w := by simp [Builtin.len_, run_underlying Try.underlying42, goInt]
  go_enter Try.func11, Try.ntmps11
  go_wp2
  go_ret
  exact ⟨rfl, rfl⟩
theorem len_nil (w : World) :
    Calls Try.prog 11 #[.pointer none] w fun e w' => e = .returned (.int .i64 0) ∧ w' = w := by
  go_enter Try.func11, Try.ntmps11
  go_wp2
  go_ret
  exact ⟨rfl, rfl⟩

end Go.Proofs.Ytingebjeefncaaa
