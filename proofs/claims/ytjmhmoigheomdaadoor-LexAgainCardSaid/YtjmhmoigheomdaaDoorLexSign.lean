/- The walk through signEnd. -/
import Derived.Test.YtjmhmoigheomdaaDoorLexLeaf
namespace Go.Proofs.YtjmhmoigheomdaaDoor
open Go.RowKit
set_option linter.unusedVariables false

/-- the place behind the sign -/
def behind (q a b : Nat) : Value := .int .i64 ((q + sgn a b : Nat) : Int)
theorem behind_0 {q a b : Nat} (h : sgn a b = 0) : Value.int .i64 (q : Int) = behind q a b := by unfold behind; rw [h]; rfl
theorem behind_1 {q a b : Nat} (h : sgn a b = 1) : Value.int .i64 ((q : Int) + 1) = behind q a b := by unfold behind; rw [h]; rfl
theorem behind_2 {q a b : Nat} (h : sgn a b = 2) : Value.int .i64 ((q : Int) + 2) = behind q a b := by unfold behind; rw [h]; rfl
set_option maxHeartbeats 4000000 in
theorem signEnd_more (s : ByteArray) (q : Nat) (w : World) (hs : s.size ≤ 1000000000) (hq : q + 1 < s.size) :
    Calls Tryd.prog 18 #[.string s, .int .i64 (q : Int)] w fun e w' => e = .returned (behind q (s[q].toNat) (s[q + 1].toNat)) ∧ w' = w := by
  have hq0 : q < s.size := by omega
  go_enter Tryd.func18, Tryd.ntmps18
  go_wp2_with fail
  all_goals go_ret
  all_goals refine ⟨congrArg Ending.returned ?_, rfl⟩
  all_goals simp only [beq_iff_eq, beq_eq_false_iff_ne, bne_iff_ne, bne_eq_false_iff_eq, ne_eq] at *
  all_goals first
    | (refine behind_0 ?_; unfold sgn; (repeat' split) <;> omega)
    | (refine behind_1 ?_; unfold sgn; (repeat' split) <;> omega)
    | (refine behind_2 ?_; unfold sgn; (repeat' split) <;> omega)
set_option maxHeartbeats 4000000 in
theorem signEnd_last (s : ByteArray) (q : Nat) (w : World) (hs : s.size ≤ 1000000000) (hq0 : q < s.size) (hq : s.size ≤ q + 1) :
    Calls Tryd.prog 18 #[.string s, .int .i64 (q : Int)] w fun e w' => e = .returned (behind q (s[q].toNat) 0) ∧ w' = w := by
  go_enter Tryd.func18, Tryd.ntmps18
  go_wp2_with fail
  all_goals go_ret
  all_goals refine ⟨congrArg Ending.returned ?_, rfl⟩
  all_goals simp only [beq_iff_eq, beq_eq_false_iff_ne, bne_iff_ne, ne_eq] at *
  all_goals first
    | (refine behind_0 ?_; unfold sgn; (repeat' split) <;> omega)
    | (refine behind_1 ?_; unfold sgn; (repeat' split) <;> omega)
    | (refine behind_2 ?_; unfold sgn; (repeat' split) <;> omega)
theorem signEnd_any (s : ByteArray) (q : Nat) (w : World) (hs : s.size ≤ 1000000000) (hq : q < s.size) :
    Calls Tryd.prog 18 #[.string s, .int .i64 (q : Int)] w fun e w' => e = .returned (.int .i64 ((q + sgn (bt s.data.toList q) (bt s.data.toList (q + 1)) : Nat) : Int)) ∧ w' = w := by
  by_cases h : q + 1 < s.size
  · rw [bt_of rfl hq, bt_of rfl h]
    exact signEnd_more s q w hs h
  · have e : bt s.data.toList (q + 1) = 0 := by
      unfold bt
      rw [List.getD_eq_getElem?_getD, List.getElem?_eq_none (by rw [length_of]; omega)]
      rfl
    rw [bt_of rfl hq, e]
    exact signEnd_last s q w hs hq (by omega)
end Go.Proofs.YtjmhmoigheomdaaDoor
