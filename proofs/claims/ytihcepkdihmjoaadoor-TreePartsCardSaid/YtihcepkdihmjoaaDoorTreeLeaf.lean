/- The walks through the small functions of tree and of its reference. -/
import Derived.Test.YtihcepkdihmjoaaDoorTreeTabs
import Derived.Test.YtihcepkdihmjoaaDoorGenHas
import Derived.WalkKit
namespace Go.Proofs.YtihcepkdihmjoaaDoor
open Go.RowKit
set_option linter.unusedVariables false

theorem tdigit_any (n : Nat) (w : World) :
    Calls Tryd.prog 54 #[.int .u8 (n : Int)] w fun e w' => e = .returned (.bool (tDg n)) ∧ w' = w := by
  go_enter Tryd.func54, Tryd.ntmps54
  go_wp2
  all_goals go_ret
  all_goals refine ⟨congrArg (fun b => Ending.returned (Value.bool b)) ?_, rfl⟩
  all_goals (rw [Bool.eq_iff_iff]; simp [tDg]; try omega)
theorem tletter_any (n : Nat) (w : World) :
    Calls Tryd.prog 55 #[.int .u8 (n : Int)] w fun e w' => e = .returned (.bool (tLt n)) ∧ w' = w := by
  go_enter Tryd.func55, Tryd.ntmps55
  go_wp2
  all_goals go_ret
  all_goals refine ⟨congrArg (fun b => Ending.returned (Value.bool b)) ?_, rfl⟩
  all_goals (rw [Bool.eq_iff_iff]; simp [tLt]; try omega)
theorem rdigit_any (n : Nat) (w : World) :
    Calls Tryd.prog 57 #[.int .u8 (n : Int)] w fun e w' => e = .returned (.bool (tDg n)) ∧ w' = w := by
  go_enter Tryd.func57, Tryd.ntmps57
  go_wp2
  all_goals go_ret
  all_goals refine ⟨congrArg (fun b => Ending.returned (Value.bool b)) ?_, rfl⟩
  all_goals (rw [Bool.eq_iff_iff]; simp [tDg]; try omega)
theorem rletter_any (n : Nat) (w : World) :
    Calls Tryd.prog 56 #[.int .u8 (n : Int)] w fun e w' => e = .returned (.bool (tLt n)) ∧ w' = w := by
  go_enter Tryd.func56, Tryd.ntmps56
  go_wp2
  all_goals go_ret
  all_goals refine ⟨congrArg (fun b => Ending.returned (Value.bool b)) ?_, rfl⟩
  all_goals (rw [Bool.eq_iff_iff]; simp [tLt]; try omega)
theorem expr_any (n : Int) (w : World) :
    Calls Tryd.prog 59 #[.int .i64 n] w fun e w' => e = .returned (.bool (isEx n)) ∧ w' = w := by
  go_enter Tryd.func59, Tryd.ntmps59
  go_wp2
  all_goals go_ret
  all_goals refine ⟨congrArg (fun b => Ending.returned (Value.bool b)) ?_, rfl⟩
  all_goals (rw [Bool.eq_iff_iff]; simp [isEx]; try omega)
theorem stmt_any (n : Int) (w : World) :
    Calls Tryd.prog 49 #[.int .i64 n] w fun e w' => e = .returned (.bool (isSt n)) ∧ w' = w := by
  go_enter Tryd.func49, Tryd.ntmps49
  go_wp2
  all_goals go_ret
  all_goals refine ⟨congrArg (fun b => Ending.returned (Value.bool b)) ?_, rfl⟩
  all_goals (rw [Bool.eq_iff_iff]; simp [isSt]; try omega)
/-- is n between lo and hi? -/
def btw (lo hi n : Int) : Bool := decide (lo ≤ n) && decide (n ≤ hi)
theorem within_any (n lo hi : Int) (w : World) :
    Calls Tryd.prog 42 #[.int .i64 n, .agg #[.int .i64 lo, .int .i64 hi]] w fun e w' => e = .returned (.bool (btw lo hi n)) ∧ Below w.heap.size w w' := by
  go_enter Tryd.func42, Tryd.ntmps42
  go_wp2
  all_goals go_ret
  all_goals refine ⟨congrArg (fun b => Ending.returned (Value.bool b)) ?_, (Below.refl _ _).alloc (Nat.le_refl _) _⟩
  all_goals (rw [Bool.eq_iff_iff]; simp [btw]; try omega)
theorem sgnOf_out {op : Int} (h : op < 0 ∨ 17 ≤ op) : sgnOf op = [] := by
  unfold sgnOf; rw [if_neg (by omega)]
theorem sgnOf_in {k : Nat} (h : k < 17) : sgnOf (k : Int) = tSigns.getD k [] := by
  unfold sgnOf; rw [if_pos (by omega), Int.toNat_natCast]
theorem sign_any (op : Int) (w : World) (hT : Tabs w) :
    Calls Tryd.prog 18 #[.int .i64 op] w fun e w' => e = .returned (txt (sgnOf op)) ∧ w' = w := by
  rcases (show op < 0 ∨ 0 ≤ op by omega) with h | h
  · have HS := hidden (sgnOf_out (.inl h))
    go_enter Tryd.func18, Tryd.ntmps18
    go_wp2
    go_ret
    exact ⟨by rw [HS.out]; rfl, rfl⟩
  · rcases (show op < 17 ∨ 17 ≤ op by omega) with h2 | h2
    · obtain ⟨k, rfl⟩ : ∃ k : Nat, op = k := ⟨op.toNat, by omega⟩
      have hk : k < 17 := by omega
      have HS := hidden (sgnOf_in hk)
      have hc := cell_tab hT.signs (sign_at k hk)
      unfold txt at hc
      clear hT
      go_enter Tryd.func18, Tryd.ntmps18
      go_wp2
      go_ret
      exact ⟨by rw [HS.out]; rfl, rfl⟩
    · have HS := hidden (sgnOf_out (.inr h2))
      clear hT
      go_enter Tryd.func18, Tryd.ntmps18
      go_wp2
      go_ret
      exact ⟨by rw [HS.out]; rfl, rfl⟩
theorem kindW_out {op : Int} (h : op < 0 ∨ 4 ≤ op) : kindW op = [] := by
  unfold kindW; rw [if_neg (by omega)]
theorem kindW_in {k : Nat} (h : k < 4) : kindW (k : Int) = tKinds.getD k [] := by
  unfold kindW; rw [if_pos (by omega), Int.toNat_natCast]
theorem kind_any (op : Int) (w : World) (hT : Tabs w) :
    Calls Tryd.prog 20 #[.int .i64 op] w fun e w' => e = .returned (txt (kindW op)) ∧ w' = w := by
  rcases (show op < 0 ∨ 0 ≤ op by omega) with h | h
  · have HS := hidden (kindW_out (.inl h))
    go_enter Tryd.func20, Tryd.ntmps20
    go_wp2
    go_ret
    exact ⟨by rw [HS.out]; rfl, rfl⟩
  · rcases (show op < 4 ∨ 4 ≤ op by omega) with h2 | h2
    · obtain ⟨k, rfl⟩ : ∃ k : Nat, op = k := ⟨op.toNat, by omega⟩
      have hk : k < 4 := by omega
      have HS := hidden (kindW_in hk)
      have hc := cell_tab hT.kinds (kind_at k hk)
      unfold txt at hc
      clear hT
      go_enter Tryd.func20, Tryd.ntmps20
      go_wp2
      go_ret
      exact ⟨by rw [HS.out]; rfl, rfl⟩
    · have HS := hidden (kindW_out (.inr h2))
      clear hT
      go_enter Tryd.func20, Tryd.ntmps20
      go_wp2
      go_ret
      exact ⟨by rw [HS.out]; rfl, rfl⟩
theorem rkind_any (k : Int) (w : World) :
    Calls Tryd.prog 21 #[.int .i64 k] w fun e w' => e = .returned (txt (kindW k)) ∧ Below w.heap.size w w' := by
  rcases (show k < 1 ∨ 1 ≤ k by omega) with h | h
  · have HS : Hid (kindW k = []) := by
      rcases (show k < 0 ∨ 0 ≤ k by omega) with g | g
      · exact kindW_out (.inl g)
      · obtain rfl : k = 0 := by omega
        rfl
    go_enter Tryd.func21, Tryd.ntmps21
    go_wp2
    go_ret
    exact ⟨by rw [HS.out]; rfl, (Below.refl _ _).alloc (Nat.le_refl _) _⟩
  · rcases (show 3 < k ∨ k ≤ 3 by omega) with h2 | h2
    · have HS := hidden (kindW_out (op := k) (.inr (by omega)))
      go_enter Tryd.func21, Tryd.ntmps21
      go_wp2
      go_ret
      exact ⟨by rw [HS.out]; rfl, (Below.refl _ _).alloc (Nat.le_refl _) _⟩
    · rcases (show k = 1 ∨ k = 2 ∨ k = 3 by omega) with rfl | rfl | rfl
      all_goals
        go_enter Tryd.func21, Tryd.ntmps21
        go_wp2
        go_ret
        exact ⟨rfl, (Below.refl _ _).alloc (Nat.le_refl _) _⟩
theorem named_any (k : Int) (w : World) :
    Calls Tryd.prog 45 #[.int .i64 k] w fun e w' => e = .returned (.bool (named k)) ∧ Below w.heap.size w w' := by
  go_enter Tryd.func45, Tryd.ntmps45
  go_wp2_with fail
  refine (hasInt_list _ 8 _ [4, 11, 12, 13, 14, 17, 24, 25] k _ rfl (by omega) ?_).mono ?_
  · intro _
    refine ⟨w.heap.size, 0, rfl, by simp, fun j hj => ?_⟩
    have hh := (Held.new w 3 #[.int .i64 4, .int .i64 11, .int .i64 12, .int .i64 13, .int .i64 14, .int .i64 17, .int .i64 24, .int .i64 25])
    rw [Nat.zero_add]
    exact hh.at_ (by
      match j, hj with
      | 0, _ | 1, _ | 2, _ | 3, _ | 4, _ | 5, _ | 6, _ | 7, _ => rfl
      | n + 8, h => omega)
  rintro e w1 ⟨he, hw1⟩
  have he' : e = .returned (.bool (named k)) := he
  subst he'
  clear he
  rw [hw1]; clear hw1 w1
  go_wp2_with fail
  go_ret
  exact ⟨rfl, (Below.refl _ _).alloc (Nat.le_refl _) _⟩
end Go.Proofs.YtihcepkdihmjoaaDoor
