/- The walks through the small functions of lex. -/
import Derived.Test.YtjmhmoigheomdaaDoorRows
import Derived.Test.YtjmhmoigheomdaaDoorLexSpec
import Derived.Test.YtjmhmoigheomdaaDoorGenRow
import Derived.WalkKit
namespace Go.Proofs.YtjmhmoigheomdaaDoor
open Go.RowKit
set_option linter.unusedVariables false

theorem digit_any (n : Nat) (w : World) :
    Calls Tryd.prog 17 #[.int .u8 (n : Int)] w fun e w' => e = .returned (.bool (isDg n)) ∧ w' = w := by
  go_enter Tryd.func17, Tryd.ntmps17
  go_wp2
  all_goals go_ret
  all_goals refine ⟨congrArg (fun b => Ending.returned (Value.bool b)) ?_, rfl⟩
  all_goals (rw [Bool.eq_iff_iff]; simp [isDg]; try omega)
theorem letter_any (n : Nat) (w : World) :
    Calls Tryd.prog 14 #[.int .u8 (n : Int)] w fun e w' => e = .returned (.bool (isLt n)) ∧ w' = w := by
  go_enter Tryd.func14, Tryd.ntmps14
  go_wp2
  all_goals go_ret
  all_goals refine ⟨congrArg (fun b => Ending.returned (Value.bool b)) ?_, rfl⟩
  all_goals (rw [Bool.eq_iff_iff]; simp [isLt]; try omega)
theorem blank_any (n : Nat) (w : World) :
    Calls Tryd.prog 11 #[.int .u8 (n : Int)] w fun e w' => e = .returned (.bool (isBl n)) ∧ w' = w := by
  go_enter Tryd.func11, Tryd.ntmps11
  go_wp2
  all_goals go_ret
  all_goals refine ⟨congrArg (fun b => Ending.returned (Value.bool b)) ?_, rfl⟩
  all_goals (rw [Bool.eq_iff_iff]; simp [isBl]; try omega)
theorem wordByte_any (n : Nat) (w : World) :
    Calls Tryd.prog 16 #[.int .u8 (n : Int)] w fun e w' => e = .returned (.bool (isWb n)) ∧ w' = w := by
  go_enter Tryd.func16, Tryd.ntmps16
  go_wp2_with fail
  refine (letter_any n w).mono ?_
  rintro e w1 ⟨rfl, hw1⟩
  rw [hw1]; clear hw1 w1
  cases hl : isLt n with
  | true =>
    go_wp2_with fail
    go_ret
    exact ⟨by simp [isWb, hl], rfl⟩
  | false =>
    go_wp2_with fail
    refine (digit_any n w).mono ?_
    rintro e w1 ⟨rfl, hw1⟩
    rw [hw1]; clear hw1 w1
    go_wp2_with fail
    go_ret
    exact ⟨by simp [isWb, hl], rfl⟩
theorem drop_at {l : List UInt8} {k : Nat} (h : k < l.length) : l.drop k = l.getD k 0 :: l.drop (k + 1) := by
  rw [List.drop_eq_getElem_cons h, List.getD_eq_getElem?_getD, List.getElem?_eq_getElem h]
  rfl
theorem rn_hit {p : Nat → Bool} {l : List UInt8} {k : Nat} (h : k < l.length) (hp : p (bt l k) = true) : rn p (l.drop k) = 1 + rn p (l.drop (k + 1)) := by
  rw [drop_at h]
  exact if_pos hp
theorem rn_miss {p : Nat → Bool} {l : List UInt8} {k : Nat} (h : k < l.length) (hp : p (bt l k) = false) : rn p (l.drop k) = 0 := by
  rw [drop_at h]
  exact if_neg (fun g => by rw [show bt l k = (l.getD k 0).toNat from rfl, g] at hp; cases hp)
theorem rn_end {p : Nat → Bool} {l : List UInt8} {k : Nat} (h : l.length ≤ k) : rn p (l.drop k) = 0 := by
  rw [List.drop_of_length_le h]; rfl
theorem runEnd_word (s : ByteArray) (q : Nat) (w : World) (hs : s.size ≤ 1000000000) (hq : q ≤ s.size) :
    Calls Tryd.prog 15 #[.string s, .int .i64 (q : Int), .func (.func 16) #[] #[]] w fun e w' => e = .returned (.int .i64 ((q + rn isWb (s.data.toList.drop q) : Nat) : Int)) ∧ w' = w := by
  obtain ⟨l, hl⟩ : ∃ l, l = s.data.toList := ⟨_, rfl⟩
  have hlen : l.length = s.size := by rw [hl]; exact Array.length_toList
  have HLEN := hidden hlen
  rw [← hl]
  have HL := hidden hl
  obtain ⟨m, hm⟩ : ∃ m, m = q + rn isWb (l.drop q) := ⟨_, rfl⟩
  have HM := hidden hm
  rw [← hm]
  clear hl hlen hm
  go_enter Tryd.func15, Tryd.ntmps15
  go_wp2_with fail
  go_loop [1] (fun i => ∃ k : Nat, k ≤ s.size ∧ i = .int .i64 (k : Int) ∧ Hid (m = k + rn isWb (l.drop k))) (fun i => s.size - (intOf i).toNat)
  case atStart => exact ⟨q, hq, rfl, HM⟩
  case round =>
    obtain ⟨k, hk, rfl, hK⟩ := hrel
    by_cases hlt : k < s.size
    · have hb := hidden (bt_of HL.out hlt)
      have hkl : Hid (k < l.length) := by show k < l.length; rw [HLEN.out]; exact hlt
      go_wp2_with fail
      refine (wordByte_any s[k].toNat w).mono ?_
      rintro e w1 ⟨rfl, hw1⟩
      rw [hw1, ← hb.out]; clear hw1 w1
      cases hp : isWb (bt l k) with
      | true =>
        have HP := hidden hp
        clear hp
        go_wp2_with fail
        go_round
        case rel => exact ⟨k + 1, by omega, by go_num, (show m = k + 1 + rn isWb (l.drop (k + 1)) by rw [hK.out, rn_hit hkl.out HP.out]; omega)⟩
        case measure => simp [intOf]; omega
      | false =>
        have HP := hidden hp
        clear hp
        go_wp2_with fail
        go_ret
        refine ⟨?_, rfl⟩
        rw [hK.out, rn_miss hkl.out HP.out]
        rfl
    · go_wp2_with fail
      go_ret
      refine ⟨?_, rfl⟩
      rw [hK.out, rn_end (by rw [HLEN.out]; omega)]
      rfl
theorem runEnd_digit (s : ByteArray) (q : Nat) (w : World) (hs : s.size ≤ 1000000000) (hq : q ≤ s.size) :
    Calls Tryd.prog 15 #[.string s, .int .i64 (q : Int), .func (.func 17) #[] #[]] w fun e w' => e = .returned (.int .i64 ((q + rn isDg (s.data.toList.drop q) : Nat) : Int)) ∧ w' = w := by
  obtain ⟨l, hl⟩ : ∃ l, l = s.data.toList := ⟨_, rfl⟩
  have hlen : l.length = s.size := by rw [hl]; exact Array.length_toList
  have HLEN := hidden hlen
  rw [← hl]
  have HL := hidden hl
  obtain ⟨m, hm⟩ : ∃ m, m = q + rn isDg (l.drop q) := ⟨_, rfl⟩
  have HM := hidden hm
  rw [← hm]
  clear hl hlen hm
  go_enter Tryd.func15, Tryd.ntmps15
  go_wp2_with fail
  go_loop [1] (fun i => ∃ k : Nat, k ≤ s.size ∧ i = .int .i64 (k : Int) ∧ Hid (m = k + rn isDg (l.drop k))) (fun i => s.size - (intOf i).toNat)
  case atStart => exact ⟨q, hq, rfl, HM⟩
  case round =>
    obtain ⟨k, hk, rfl, hK⟩ := hrel
    by_cases hlt : k < s.size
    · have hb := hidden (bt_of HL.out hlt)
      have hkl : Hid (k < l.length) := by show k < l.length; rw [HLEN.out]; exact hlt
      go_wp2_with fail
      refine (digit_any s[k].toNat w).mono ?_
      rintro e w1 ⟨rfl, hw1⟩
      rw [hw1, ← hb.out]; clear hw1 w1
      cases hp : isDg (bt l k) with
      | true =>
        have HP := hidden hp
        clear hp
        go_wp2_with fail
        go_round
        case rel => exact ⟨k + 1, by omega, by go_num, (show m = k + 1 + rn isDg (l.drop (k + 1)) by rw [hK.out, rn_hit hkl.out HP.out]; omega)⟩
        case measure => simp [intOf]; omega
      | false =>
        have HP := hidden hp
        clear hp
        go_wp2_with fail
        go_ret
        refine ⟨?_, rfl⟩
        rw [hK.out, rn_miss hkl.out HP.out]
        rfl
    · go_wp2_with fail
      go_ret
      refine ⟨?_, rfl⟩
      rw [hK.out, rn_end (by rw [HLEN.out]; omega)]
      rfl
end Go.Proofs.YtjmhmoigheomdaaDoor
