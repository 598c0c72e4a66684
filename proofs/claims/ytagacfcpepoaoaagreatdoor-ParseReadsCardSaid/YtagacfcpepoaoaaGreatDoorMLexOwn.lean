/- LexOwn1, LexOwn2, in one text. -/
import Derived.Test.YtagacfcpepoaoaaGreatDoorRows
import Derived.Test.YtagacfcpepoaoaaGreatDoorRefLex5
import Derived.Test.YtagacfcpepoaoaaGreatDoorMGen
import Derived.WalkKit
namespace Go.Proofs.YtagacfcpepoaoaaGreatDoor
open Go.RowKit
set_option linter.unusedVariables false

theorem digit_any (n : Nat) (w : World) :
    Calls Tryz.prog 87 #[.int .u8 (n : Int)] w fun e w' => e = .returned (.bool (isDg n)) ∧ w' = w := by
  go_enter Tryz.func87, Tryz.ntmps87
  go_wp2
  all_goals go_ret
  all_goals refine ⟨congrArg (fun b => Ending.returned (Value.bool b)) ?_, rfl⟩
  all_goals (rw [Bool.eq_iff_iff]; simp [isDg]; try omega)
theorem letter_any (n : Nat) (w : World) :
    Calls Tryz.prog 84 #[.int .u8 (n : Int)] w fun e w' => e = .returned (.bool (isLt n)) ∧ w' = w := by
  go_enter Tryz.func84, Tryz.ntmps84
  go_wp2
  all_goals go_ret
  all_goals refine ⟨congrArg (fun b => Ending.returned (Value.bool b)) ?_, rfl⟩
  all_goals (rw [Bool.eq_iff_iff]; simp [isLt]; try omega)
theorem wordByte_any (n : Nat) (w : World) :
    Calls Tryz.prog 86 #[.int .u8 (n : Int)] w fun e w' => e = .returned (.bool (isWb n)) ∧ w' = w := by
  go_enter Tryz.func86, Tryz.ntmps86
  go_wp2_with fail
  refine (letter_any n w).mono ?_
  rintro e w1 ⟨rfl, hw1⟩
  rw [hw1]; clear hw1 w1
  cases hl : isLt n with
  | true =>
    go_wp2_with fail
    go_ret
    exact ⟨by simp [isWb, hl], rfl⟩
  | false =>
    go_wp2_with fail
    refine (digit_any n w).mono ?_
    rintro e w1 ⟨rfl, hw1⟩
    rw [hw1]; clear hw1 w1
    go_wp2_with fail
    go_ret
    exact ⟨by simp [isWb, hl], rfl⟩
theorem runEnd_word (s : ByteArray) (q : Nat) (w : World) (hs : s.size ≤ 1000000000) (hq : q ≤ s.size) :
    Calls Tryz.prog 85 #[.string s, .int .i64 (q : Int), .func (.func 86) #[] #[]] w fun e w' => e = .returned (.int .i64 ((q + rn isWb (s.data.toList.drop q) : Nat) : Int)) ∧ w' = w := by
  obtain ⟨l, hl⟩ : ∃ l, l = s.data.toList := ⟨_, rfl⟩
  have hlen : l.length = s.size := by rw [hl]; exact Array.length_toList
  have HLEN := hidden hlen
  rw [← hl]
  have HL := hidden hl
  obtain ⟨m, hm⟩ : ∃ m, m = q + rn isWb (l.drop q) := ⟨_, rfl⟩
  have HM := hidden hm
  rw [← hm]
  clear hl hlen hm
  go_enter Tryz.func85, Tryz.ntmps85
  go_wp2_with fail
  go_loop [1] (fun i => ∃ k : Nat, k ≤ s.size ∧ i = .int .i64 (k : Int) ∧ Hid (m = k + rn isWb (l.drop k))) (fun i => s.size - (intOf i).toNat)
  case atStart => exact ⟨q, hq, rfl, HM⟩
  case round =>
    obtain ⟨k, hk, rfl, hK⟩ := hrel
    by_cases hlt : k < s.size
    · have hb := hidden (bt_of HL.out hlt)
      have hkl : Hid (k < l.length) := by show k < l.length; rw [HLEN.out]; exact hlt
      go_wp2_with fail
      refine (wordByte_any s[k].toNat w).mono ?_
      rintro e w1 ⟨rfl, hw1⟩
      rw [hw1, ← hb.out]; clear hw1 w1
      cases hp : isWb (bt l k) with
      | true =>
        have HP := hidden hp
        clear hp
        go_wp2_with fail
        go_round
        case rel => exact ⟨k + 1, by omega, by go_num, (show m = k + 1 + rn isWb (l.drop (k + 1)) by rw [hK.out, rn_hit hkl.out HP.out]; omega)⟩
        case measure => simp [intOf]; omega
      | false =>
        have HP := hidden hp
        clear hp
        go_wp2_with fail
        go_ret
        refine ⟨?_, rfl⟩
        rw [hK.out, rn_miss hkl.out HP.out]
        rfl
    · go_wp2_with fail
      go_ret
      refine ⟨?_, rfl⟩
      rw [hK.out, rn_end (by rw [HLEN.out]; omega)]
      rfl
theorem runEnd_digit (s : ByteArray) (q : Nat) (w : World) (hs : s.size ≤ 1000000000) (hq : q ≤ s.size) :
    Calls Tryz.prog 85 #[.string s, .int .i64 (q : Int), .func (.func 87) #[] #[]] w fun e w' => e = .returned (.int .i64 ((q + rn isDg (s.data.toList.drop q) : Nat) : Int)) ∧ w' = w := by
  obtain ⟨l, hl⟩ : ∃ l, l = s.data.toList := ⟨_, rfl⟩
  have hlen : l.length = s.size := by rw [hl]; exact Array.length_toList
  have HLEN := hidden hlen
  rw [← hl]
  have HL := hidden hl
  obtain ⟨m, hm⟩ : ∃ m, m = q + rn isDg (l.drop q) := ⟨_, rfl⟩
  have HM := hidden hm
  rw [← hm]
  clear hl hlen hm
  go_enter Tryz.func85, Tryz.ntmps85
  go_wp2_with fail
  go_loop [1] (fun i => ∃ k : Nat, k ≤ s.size ∧ i = .int .i64 (k : Int) ∧ Hid (m = k + rn isDg (l.drop k))) (fun i => s.size - (intOf i).toNat)
  case atStart => exact ⟨q, hq, rfl, HM⟩
  case round =>
    obtain ⟨k, hk, rfl, hK⟩ := hrel
    by_cases hlt : k < s.size
    · have hb := hidden (bt_of HL.out hlt)
      have hkl : Hid (k < l.length) := by show k < l.length; rw [HLEN.out]; exact hlt
      go_wp2_with fail
      refine (digit_any s[k].toNat w).mono ?_
      rintro e w1 ⟨rfl, hw1⟩
      rw [hw1, ← hb.out]; clear hw1 w1
      cases hp : isDg (bt l k) with
      | true =>
        have HP := hidden hp
        clear hp
        go_wp2_with fail
        go_round
        case rel => exact ⟨k + 1, by omega, by go_num, (show m = k + 1 + rn isDg (l.drop (k + 1)) by rw [hK.out, rn_hit hkl.out HP.out]; omega)⟩
        case measure => simp [intOf]; omega
      | false =>
        have HP := hidden hp
        clear hp
        go_wp2_with fail
        go_ret
        refine ⟨?_, rfl⟩
        rw [hK.out, rn_miss hkl.out HP.out]
        rfl
    · go_wp2_with fail
      go_ret
      refine ⟨?_, rfl⟩
      rw [hK.out, rn_end (by rw [HLEN.out]; omega)]
      rfl
/-- the place behind the sign -/
def behind (q a b : Nat) : Value := .int .i64 ((q + sgn a b : Nat) : Int)
theorem behind_0 {q a b : Nat} (h : sgn a b = 0) : Value.int .i64 (q : Int) = behind q a b := by unfold behind; rw [h]; rfl
theorem behind_1 {q a b : Nat} (h : sgn a b = 1) : Value.int .i64 ((q : Int) + 1) = behind q a b := by unfold behind; rw [h]; rfl
theorem behind_2 {q a b : Nat} (h : sgn a b = 2) : Value.int .i64 ((q : Int) + 2) = behind q a b := by unfold behind; rw [h]; rfl
set_option maxHeartbeats 4000000 in
theorem signEnd_more (s : ByteArray) (q : Nat) (w : World) (hs : s.size ≤ 1000000000) (hq : q + 1 < s.size) :
    Calls Tryz.prog 88 #[.string s, .int .i64 (q : Int)] w fun e w' => e = .returned (behind q (s[q].toNat) (s[q + 1].toNat)) ∧ w' = w := by
  have hq0 : q < s.size := by omega
  go_enter Tryz.func88, Tryz.ntmps88
  go_wp2_with fail
  all_goals go_ret
  all_goals refine ⟨congrArg Ending.returned ?_, rfl⟩
  all_goals simp only [beq_iff_eq, beq_eq_false_iff_ne, bne_iff_ne, bne_eq_false_iff_eq, ne_eq] at *
  all_goals first
    | (refine behind_0 ?_; unfold sgn; (repeat' split) <;> omega)
    | (refine behind_1 ?_; unfold sgn; (repeat' split) <;> omega)
    | (refine behind_2 ?_; unfold sgn; (repeat' split) <;> omega)
set_option maxHeartbeats 4000000 in
theorem signEnd_last (s : ByteArray) (q : Nat) (w : World) (hs : s.size ≤ 1000000000) (hq0 : q < s.size) (hq : s.size ≤ q + 1) :
    Calls Tryz.prog 88 #[.string s, .int .i64 (q : Int)] w fun e w' => e = .returned (behind q (s[q].toNat) 0) ∧ w' = w := by
  go_enter Tryz.func88, Tryz.ntmps88
  go_wp2_with fail
  all_goals go_ret
  all_goals refine ⟨congrArg Ending.returned ?_, rfl⟩
  all_goals simp only [beq_iff_eq, beq_eq_false_iff_ne, bne_iff_ne, ne_eq] at *
  all_goals first
    | (refine behind_0 ?_; unfold sgn; (repeat' split) <;> omega)
    | (refine behind_1 ?_; unfold sgn; (repeat' split) <;> omega)
    | (refine behind_2 ?_; unfold sgn; (repeat' split) <;> omega)
theorem signEnd_any (s : ByteArray) (q : Nat) (w : World) (hs : s.size ≤ 1000000000) (hq : q < s.size) :
    Calls Tryz.prog 88 #[.string s, .int .i64 (q : Int)] w fun e w' => e = .returned (.int .i64 ((q + sgn (bt s.data.toList q) (bt s.data.toList (q + 1)) : Nat) : Int)) ∧ w' = w := by
  by_cases h : q + 1 < s.size
  · rw [bt_of rfl hq, bt_of rfl h]
    exact signEnd_more s q w hs h
  · have e : bt s.data.toList (q + 1) = 0 := by
      unfold bt
      rw [List.getD_eq_getElem?_getD, List.getElem?_eq_none (by rw [length_of]; omega)]
      rfl
    rw [bt_of rfl hq, e]
    exact signEnd_last s q w hs hq (by omega)
set_option maxHeartbeats 4000000 in
theorem skip_any (s : ByteArray) (q : Nat) (w : World) (hs : s.size ≤ 1000000000) (hq : q ≤ s.size) :
    Calls Tryz.prog 31 #[.string s, .int .i64 (q : Int)] w fun e w' => e = .returned (.int .i64 ((q + skp false (s.data.toList.drop q) : Nat) : Int)) ∧ w' = w := by
  obtain ⟨l, hl⟩ : ∃ l, l = s.data.toList := ⟨_, rfl⟩
  have hlen : l.length = s.size := by rw [hl]; exact Array.length_toList
  have HLEN := hidden hlen
  rw [← hl]
  have HL := hidden hl
  obtain ⟨m, hm⟩ : ∃ m, m = q + skp false (l.drop q) := ⟨_, rfl⟩
  have HM := hidden hm
  rw [← hm]
  clear hl hlen hm
  go_enter Tryz.func31, Tryz.ntmps31
  go_wp2_with fail
  go_loop [1] (fun i => ∃ k : Nat, k ≤ s.size ∧ i = .int .i64 (k : Int) ∧ Hid (m = k + skp false (l.drop k))) (fun i => s.size - (intOf i).toNat)
  case atStart => exact ⟨q, hq, rfl, HM⟩
  case round =>
    obtain ⟨k, hk, rfl, hK⟩ := hrel
    by_cases hlt : k < s.size
    · have hkl : Hid (k < l.length) := by show k < l.length; rw [HLEN.out]; exact hlt
      have hb := bt_of HL.out hlt
      obtain ⟨c, hc⟩ : ∃ c, c = bt l k := ⟨_, rfl⟩
      rw [← hc] at hb
      have HC := hidden hc
      clear hc
      by_cases h35 : c = 35
      · have t1 : ((s[k].toNat : Int) == 35) = true := by rw [← hb, h35]; rfl
        have H35 := hidden h35
        have HB := hidden hb
        clear h35 hb
        have hN : Hid (m = k + 1 + skp true (l.drop (k + 1))) := by
          show m = k + 1 + skp true (l.drop (k + 1))
          rw [hK.out, skp_hash hkl.out (by rw [← HC.out, H35.out])]; omega
        go_wp2_with fail
        go_loop [1] (fun i => ∃ j : Nat, k ≤ j ∧ j < s.size ∧ i = .int .i64 (j : Int) ∧ Hid (m = j + 1 + skp true (l.drop (j + 1)))) (fun i => s.size - (intOf i).toNat)
        case atStart => exact ⟨k, Nat.le_refl _, hlt, rfl, hN⟩
        case round =>
          obtain ⟨j, hkj, hjs, rfl, hJ⟩ := hrel
          by_cases hjn : j + 1 < s.size
          · have hjl : Hid (j + 1 < l.length) := by show j + 1 < l.length; rw [HLEN.out]; exact hjn
            have hb := bt_of HL.out hjn
            by_cases h10 : bt l (j + 1) = 10
            · have t2 : ((s[j + 1].toNat : Int) != 10) = false := by rw [← hb, h10]; rfl
              have hX : Hid (m = j + 1 + skp false (l.drop (j + 1))) := by
                show m = j + 1 + skp false (l.drop (j + 1))
                rw [hJ.out, skp_out hjl.out h10]
              clear hb h10
              go_wp2_with fail
              refine ⟨⟨j + 1, by omega, by go_num, hX⟩, ?_⟩
              simp [intOf]; omega
            · have t2 : ((s[j + 1].toNat : Int) != 10) = true := by rw [← hb]; simp; omega
              have hX : Hid (m = j + 1 + 1 + skp true (l.drop (j + 1 + 1))) := by
                show m = j + 1 + 1 + skp true (l.drop (j + 1 + 1))
                rw [hJ.out, skp_in hjl.out h10]; omega
              clear hb h10
              go_wp2_with fail
              refine ⟨⟨j + 1, by omega, by omega, by go_num, hX⟩, ?_⟩
              simp [intOf]; omega
          · have hX : Hid (m = j + 1 + skp false (l.drop (j + 1))) := by
              show m = j + 1 + skp false (l.drop (j + 1))
              rw [hJ.out, skp_end (by rw [HLEN.out]; omega), skp_end (by rw [HLEN.out]; omega)]
            go_wp2_with fail
            refine ⟨⟨j + 1, by omega, by go_num, hX⟩, ?_⟩
            simp [intOf]; omega
      · have t1 : ((s[k].toNat : Int) == 35) = false := by rw [← hb]; simp; omega
        have H35 := hidden h35
        clear h35
        cases hbl : isBl c with
        | true =>
          have hN : Hid (m = k + 1 + skp false (l.drop (k + 1))) := by
            show m = k + 1 + skp false (l.drop (k + 1))
            rw [hK.out, skp_bl hkl.out (by rw [← HC.out]; exact H35.out) (by rw [← HC.out]; exact hbl)]
            omega
          have hcase : c = 32 ∨ c = 9 ∨ c = 10 ∨ c = 13 := by
            unfold isBl at hbl
            simp at hbl
            omega
          clear hbl
          rcases hcase with h | h | h | h
          · have t2 : ((s[k].toNat : Int) == 32) = true := by rw [← hb, h]; rfl
            clear h hb
            go_wp2_with fail
            refine ⟨⟨k + 1, by omega, by go_num, hN⟩, ?_⟩
            simp [intOf]; omega
          · have t2 : ((s[k].toNat : Int) == 32) = false := by rw [← hb, h]; rfl
            have t3 : ((s[k].toNat : Int) == 9) = true := by rw [← hb, h]; rfl
            clear h hb
            go_wp2_with fail
            refine ⟨⟨k + 1, by omega, by go_num, hN⟩, ?_⟩
            simp [intOf]; omega
          · have t2 : ((s[k].toNat : Int) == 32) = false := by rw [← hb, h]; rfl
            have t3 : ((s[k].toNat : Int) == 9) = false := by rw [← hb, h]; rfl
            have t4 : ((s[k].toNat : Int) == 10) = true := by rw [← hb, h]; rfl
            clear h hb
            go_wp2_with fail
            refine ⟨⟨k + 1, by omega, by go_num, hN⟩, ?_⟩
            simp [intOf]; omega
          · have t2 : ((s[k].toNat : Int) == 32) = false := by rw [← hb, h]; rfl
            have t3 : ((s[k].toNat : Int) == 9) = false := by rw [← hb, h]; rfl
            have t4 : ((s[k].toNat : Int) == 10) = false := by rw [← hb, h]; rfl
            have t5 : ((s[k].toNat : Int) == 13) = true := by rw [← hb, h]; rfl
            clear h hb
            go_wp2_with fail
            refine ⟨⟨k + 1, by omega, by go_num, hN⟩, ?_⟩
            simp [intOf]; omega
        | false =>
          have hN : Hid (m = k) := by
            show m = k
            rw [hK.out, skp_no hkl.out (by rw [← HC.out]; exact H35.out) (by rw [← HC.out, hbl]; decide)]
            rfl
          unfold isBl at hbl
          simp at hbl
          have t2 : ((s[k].toNat : Int) == 32) = false := by rw [← hb]; simp; omega
          have t3 : ((s[k].toNat : Int) == 9) = false := by rw [← hb]; simp; omega
          have t4 : ((s[k].toNat : Int) == 10) = false := by rw [← hb]; simp; omega
          have t5 : ((s[k].toNat : Int) == 13) = false := by rw [← hb]; simp; omega
          clear hbl hb
          go_wp2_with fail
          go_ret
          refine ⟨?_, rfl⟩
          rw [hN.out]
          rfl
    · obtain rfl : k = s.size := by omega
      go_wp2_with fail
      go_ret
      refine ⟨?_, rfl⟩
      rw [hK.out, skp_end (by rw [HLEN.out]; exact Nat.le_refl _)]
      rfl

theorem number_any (s : ByteArray) (w : World) (hs : s.size ≤ 1000000000) :
    Calls Tryz.prog 60 #[.string s] w fun e w' => e = .returned (numV s.data.toList) ∧ w' = w := by
  obtain ⟨l, hl⟩ : ∃ l, l = s.data.toList := ⟨_, rfl⟩
  have hlen : l.length = s.size := by rw [hl]; exact Array.length_toList
  have HLEN := hidden hlen
  rw [← hl]
  have HL := hidden hl
  clear hl hlen
  go_enter Tryz.func60, Tryz.ntmps60
  go_wp2_with fail
  go_loop [4, 9] (fun a i => ∃ k n : Nat, k ≤ s.size ∧ n ≤ 9223372036854775807 ∧ a = .int .i64 (n : Int) ∧ i = .int .i64 (k : Int) ∧ Hid (num (l.take k) = some n)) (fun _ i => s.size - (intOf i).toNat)
  case atStart => exact ⟨0, 0, Nat.zero_le _, by omega, rfl, rfl, (show num (l.take 0) = some 0 from rfl)⟩
  case round =>
    obtain ⟨k, n, hk, hn, rfl, rfl, hK⟩ := hrel
    by_cases hlt : k < s.size
    · have hkl : Hid (k < l.length) := by show k < l.length; rw [HLEN.out]; exact hlt
      have hb := bt_of HL.out hlt
      have hu : s[k].toNat < 256 := UInt8.toNat_lt _
      have hd := dgt_u8 s[k].toNat hu
      obtain ⟨d, hdd⟩ : ∃ d, d = (s[k].toNat + 208) % 256 := ⟨_, rfl⟩
      have hd255 : d ≤ 255 := by omega
      rw [← hdd] at hd
      have HD : Hid (d = dgt (l.getD k 0)) := by
        show d = dgt (l.getD k 0)
        unfold dgt
        rw [show (l.getD k 0).toNat = bt l k from rfl, hb]
        exact hdd
      clear hdd hb hu
      have hq : (9223372036854775807 - (d : Int)).tdiv 10 = (((9223372036854775807 - d) / 10 : Nat) : Int) := by
        rw [Int.tdiv_eq_ediv_of_nonneg (by omega)]
        omega
      by_cases hfit : n * 10 + d ≤ 9223372036854775807
      · have HN : Hid (num (l.take (k + 1)) = some (n * 10 + d)) := by
          show num (l.take (k + 1)) = some (n * 10 + d)
          rw [num_next hkl.out, hK.out, HD.out]
          unfold nstep
          rw [← HD.out]
          exact if_pos hfit
        have hle : (n : Int) ≤ (9223372036854775807 - (d : Int)) / 10 := by omega
        go_wp2_with fail
        go_round
        case rel => exact ⟨k + 1, n * 10 + d, by omega, hfit, by go_num, by go_num, HN⟩
        case measure => simp [intOf]; omega
      · have HN : Hid (num l = none) := by
          show num l = none
          refine num_stop (k := k + 1) ?_
          rw [num_next hkl.out, hK.out]
          unfold nstep
          rw [← HD.out]
          exact if_neg hfit
        have hle : (9223372036854775807 - (d : Int)) / 10 < (n : Int) := by omega
        go_wp2_with fail
        go_ret2
        refine ⟨?_, rfl⟩
        unfold numV
        rw [HN.out]
        rfl
    · obtain rfl : k = s.size := by omega
      go_wp2_with fail
      go_ret2
      refine ⟨?_, rfl⟩
      have h := hK.out
      rw [List.take_of_length_le (by rw [HLEN.out]; exact Nat.le_refl _)] at h
      unfold numV
      rw [h]
      rfl
/-- a text as a value -/
def ltxt (b : List UInt8) : Value := .string ⟨b.toArray⟩
/-- the table's cells -/
def keyCells : Array Value := (keys.map ltxt).toArray
/-- the table in its variable -/
def Tab (w : World) : Prop := ∃ t fr, w.heap[0]? = some (.cells keyCells t fr)
theorem Tab.below {w w' : World} (h : Tab w) (hb : Below w.heap.size w w') : Tab w' := by
  obtain ⟨t, fr, h⟩ := h
  refine ⟨t, fr, ?_⟩
  obtain ⟨hlt, _⟩ := Array.getElem?_eq_some_iff.1 h
  rw [hb.block _ hlt]
  exact h
set_option maxRecDepth 100000 in
theorem key_at : ∀ (j : Nat), j < 18 → ∀ (w : World), (Instr.index 95 (.agg keyCells) (.int .i64 (j : Int))).run Tryz.prog w = .ok (ltxt (keys.getD j [])) w
  | 0, _, w => by kernel_rfl
  | 1, _, w => by kernel_rfl
  | 2, _, w => by kernel_rfl
  | 3, _, w => by kernel_rfl
  | 4, _, w => by kernel_rfl
  | 5, _, w => by kernel_rfl
  | 6, _, w => by kernel_rfl
  | 7, _, w => by kernel_rfl
  | 8, _, w => by kernel_rfl
  | 9, _, w => by kernel_rfl
  | 10, _, w => by kernel_rfl
  | 11, _, w => by kernel_rfl
  | 12, _, w => by kernel_rfl
  | 13, _, w => by kernel_rfl
  | 14, _, w => by kernel_rfl
  | 15, _, w => by kernel_rfl
  | 16, _, w => by kernel_rfl
  | 17, _, w => by kernel_rfl
  | n + 18, h, _ => by omega
theorem isKey_not {b : List UInt8} (h : ∀ j, j < 18 → b ≠ keys.getD j []) : isKey b = false := by
  unfold isKey
  rw [List.any_eq_false]
  intro k hk
  obtain ⟨j, hj, rfl⟩ := List.mem_iff_getElem.1 hk
  have hj' : j < 18 := hj
  have := h j hj'
  rw [List.getD_eq_getElem?_getD, List.getElem?_eq_getElem hj] at this
  simpa using this
theorem isKey_at {b : List UInt8} {j : Nat} (hj : j < 18) (h : b = keys.getD j []) : isKey b = true := by
  unfold isKey
  rw [List.any_eq_true]
  have hj' : j < keys.length := hj
  refine ⟨keys[j], List.getElem_mem hj', ?_⟩
  rw [List.getD_eq_getElem?_getD, List.getElem?_eq_getElem hj'] at h
  simpa using h
theorem ltxt_eq (a b : List UInt8) : ((⟨a.toArray⟩ : ByteArray).toList == (⟨b.toArray⟩ : ByteArray).toList) = (a == b) := by
  rw [ByteArray.toList_eq, ByteArray.toList_eq]
theorem word_any (b : List UInt8) (w : World) (hT : Tab w) :
    Calls Tryz.prog 61 #[ltxt b] w fun e w' => e = .returned (.bool (isKey b)) ∧ w' = w := by
  obtain ⟨tt, fr, hg⟩ := hT
  have HG := hidden hg
  clear hg
  unfold ltxt
  go_enter Tryz.func61, Tryz.ntmps61
  go_wp2_with (refine wpList_load_row rfl 95 _ rfl 0 rfl tt _ fr _ HG.out Tryz.underlying95 rfl (by kernel_rfl) ?_)
  go_loop [6] (fun i => ∃ k : Nat, k ≤ 18 ∧ i = .int .i64 (k : Int) ∧ Hid (∀ j, j < k → b ≠ keys.getD j [])) (fun i => 18 - (intOf i).toNat)
  case atStart => exact ⟨0, by omega, rfl, fun j hj => by omega⟩
  case round =>
    obtain ⟨k, hk, rfl, hK⟩ := hrel
    by_cases hlt : k < 18
    · have hix := key_at k hlt
      unfold ltxt at hix
      obtain ⟨c, hc⟩ : ∃ c, c = keys.getD k [] := ⟨_, rfl⟩
      rw [← hc] at hix
      have HC := hidden hc
      clear hc
      by_cases he : b = c
      · subst he
        go_wp2_with fail
        go_ret
        exact ⟨by rw [isKey_at hlt HC.out]; rfl, rfl⟩
      · have he' : (b == c) = false := by simpa using he
        have HE := hidden he
        clear he
        go_wp2_with fail
        go_round
        case rel => exact ⟨k + 1, by omega, by go_num, fun j hj => by
          rcases Nat.lt_or_ge j k with g | g
          · exact hK.out j g
          · obtain rfl : j = k := by omega
            rw [← HC.out]
            exact HE.out⟩
        case measure => simp [intOf]; omega
    · obtain rfl : k = 18 := by omega
      go_wp2_with fail
      go_ret
      exact ⟨by rw [isKey_not hK.out]; rfl, rfl⟩
theorem bt_drop (l : List UInt8) (k : Nat) : bt (l.drop k) 0 = bt l k := by
  unfold bt
  rw [List.getD_eq_getElem?_getD, List.getD_eq_getElem?_getD, List.getElem?_drop]
  rfl
theorem tok_letter {l : List UInt8} {k : Nat} (h : k < l.length) (hc : isLt (bt l k) = true) : k0 (l.drop k) = 1 ∧ ln (l.drop k) = rn isWb (l.drop k) := by
  rw [drop_at h]
  exact ⟨if_pos hc, if_pos hc⟩
theorem tok_digit {l : List UInt8} {k : Nat} (h : k < l.length) (hc : isLt (bt l k) = false) (hd : isDg (bt l k) = true) : k0 (l.drop k) = 2 ∧ ln (l.drop k) = rn isDg (l.drop k) := by
  have hc' : ¬ isLt (l.getD k 0).toNat = true := by rw [show (l.getD k 0).toNat = bt l k from rfl, hc]; decide
  rw [drop_at h]
  exact ⟨(if_neg hc').trans (if_pos hd), (if_neg hc').trans (if_pos hd)⟩
theorem tok_sign {l : List UInt8} {k : Nat} (h : k < l.length) (hc : isLt (bt l k) = false) (hd : isDg (bt l k) = false) : k0 (l.drop k) = 4 ∧ ln (l.drop k) = sgn (bt l k) (bt l (k + 1)) := by
  have hc' : ¬ isLt (l.getD k 0).toNat = true := by rw [show (l.getD k 0).toNat = bt l k from rfl, hc]; decide
  have hd' : ¬ isDg (l.getD k 0).toNat = true := by rw [show (l.getD k 0).toNat = bt l k from rfl, hd]; decide
  rw [drop_at h]
  refine ⟨(if_neg hc').trans (if_neg hd'), ((if_neg hc').trans (if_neg hd')).trans ?_⟩
  rw [bt_drop]
  rfl
theorem measure_any (s : ByteArray) (q : Nat) (w : World) (hs : s.size ≤ 1000000000) (hq : q < s.size) :
    Calls Tryz.prog 59 #[.string s, .int .i64 (q : Int)] w fun e w' => e = .returned (.tuple #[.int .i64 (k0 (s.data.toList.drop q) : Int), .int .i64 ((q + ln (s.data.toList.drop q) : Nat) : Int)]) ∧ w' = w := by
  obtain ⟨l, hl⟩ : ∃ l, l = s.data.toList := ⟨_, rfl⟩
  have hlen : l.length = s.size := by rw [hl]; exact Array.length_toList
  have hkl : Hid (q < l.length) := by show q < l.length; rw [hlen]; exact hq
  rw [← hl]
  have HL := hidden hl
  have hb := hidden (bt_of hl hq)
  obtain ⟨K, hK⟩ : ∃ K, K = k0 (l.drop q) := ⟨_, rfl⟩
  obtain ⟨M, hM⟩ : ∃ M, M = q + ln (l.drop q) := ⟨_, rfl⟩
  rw [← hK, ← hM]
  have HK := hidden hK
  have HM := hidden hM
  clear hl hlen hK hM
  go_enter Tryz.func59, Tryz.ntmps59
  go_wp2_with fail
  refine (letter_any s[q].toNat w).mono ?_
  rintro e w1 ⟨rfl, hw1⟩
  rw [hw1, ← hb.out]; clear hw1 w1
  cases hc : isLt (bt l q) with
  | true =>
    have HC := hidden hc
    clear hc
    go_wp2_with fail
    refine (runEnd_word s q w hs (by omega)).mono ?_
    rintro e w1 ⟨rfl, hw1⟩
    rw [hw1, ← HL.out]; clear hw1 w1
    obtain ⟨h1, h2⟩ := tok_letter hkl.out HC.out
    rw [← h2, ← HM.out]
    obtain rfl : K = 1 := by rw [HK.out, h1]
    clear h1 h2
    go_wp2_with fail
    go_ret2
    exact ⟨rfl, rfl⟩
  | false =>
    have HC := hidden hc
    clear hc
    go_wp2_with fail
    refine (digit_any (bt l q) w).mono ?_
    rintro e w1 ⟨rfl, hw1⟩
    rw [hw1]; clear hw1 w1
    cases hd : isDg (bt l q) with
    | true =>
      have HD := hidden hd
      clear hd
      go_wp2_with fail
      refine (runEnd_digit s q w hs (by omega)).mono ?_
      rintro e w1 ⟨rfl, hw1⟩
      rw [hw1, ← HL.out]; clear hw1 w1
      obtain ⟨h1, h2⟩ := tok_digit hkl.out HC.out HD.out
      rw [← h2, ← HM.out]
      obtain rfl : K = 2 := by rw [HK.out, h1]
      clear h1 h2
      go_wp2_with fail
      go_ret2
      exact ⟨rfl, rfl⟩
    | false =>
      have HD := hidden hd
      clear hd
      go_wp2_with fail
      refine (signEnd_any s q w hs hq).mono ?_
      rintro e w1 ⟨rfl, hw1⟩
      rw [hw1, ← HL.out]; clear hw1 w1
      obtain ⟨h1, h2⟩ := tok_sign hkl.out HC.out HD.out
      rw [← h2, ← HM.out]
      obtain rfl : K = 4 := by rw [HK.out, h1]
      clear h1 h2
      go_wp2_with fail
      go_ret2
      exact ⟨rfl, rfl⟩
end Go.Proofs.YtagacfcpepoaoaaGreatDoor

namespace Go.Proofs.YtagacfcpepoaoaaGreatDoor
open Go.RowKit
set_option linter.unusedVariables false

/-- a token's four cells -/
def four (k : Nat) (S : ByteArray) (n p : Nat) : Array Value := #[.int .i64 (k : Int), .string S, .int .i64 (n : Int), .int .i64 (p : Int)]
def ltkv (t : Tk) : Array Value := four t.kind ⟨t.text.toArray⟩ t.n t.place
/-- what token tells of the token that begins with r, at q -/
def TokTold (r : List UInt8) (q : Nat) (e : Ending) : Prop :=
  (er r = 0 ∧ e = .returned (.tuple #[.agg (ltkv (tk r q)), .int .i64 0])) ∨ (er r ≠ 0 ∧ e = .returned (.tuple #[.agg (four 0 ⟨#[]⟩ 0 0), .int .i64 (er r : Int)]))
/-- the two blocks of token: what is told, and what is made -/
structure Duo (w V : World) (A B k : Nat) (S : ByteArray) (n p : Nat) : Prop where
  out : Held V A 49 (four 0 ⟨#[]⟩ 0 0)
  own : Held V B 49 (four k S n p)
  bel : Below w.heap.size w V
  lowA : w.heap.size ≤ A
  lowB : w.heap.size ≤ B
  ne : A ≠ B
theorem Duo.tell {w V : World} {A B k : Nat} {S : ByteArray} {n p : Nat} (h : Duo w V A B k S n p) (k' : Nat) (S' : ByteArray) (n' p' : Nat) :
    ∃ W', W' = ((((V.setCell ⟨A, 0, none⟩ (.int .i64 (k' : Int))).setCell ⟨A, 1, none⟩ (.string S')).setCell ⟨A, 2, none⟩ (.int .i64 (n' : Int))).setCell ⟨A, 3, none⟩ (.int .i64 (p' : Int))) ∧ Held W' A 49 (four k' S' n' p') ∧ Below w.heap.size w W' :=
  ⟨_, rfl, (((h.out.set 0 _).set 1 _).set 2 _).set 3 _, (((h.bel.setCell h.lowA _).setCell h.lowA _).setCell h.lowA _).setCell h.lowA _⟩
theorem Duo.num {w V : World} {A B k : Nat} {S : ByteArray} {n p : Nat} (h : Duo w V A B k S n p) (m : Nat) : Duo w (V.setCell ⟨B, 2, none⟩ (.int .i64 (m : Int))) A B k S m p :=
  ⟨h.out.off h.ne _ _, h.own.set 2 _, h.bel.setCell h.lowB _, h.lowA, h.lowB, h.ne⟩
theorem Duo.kind {w V : World} {A B k : Nat} {S : ByteArray} {n p : Nat} (h : Duo w V A B k S n p) (m : Nat) : Duo w (V.setCell ⟨B, 0, none⟩ (.int .i64 (m : Int))) A B m S n p :=
  ⟨h.out.off h.ne _ _, h.own.set 0 _, h.bel.setCell h.lowB _, h.lowA, h.lowB, h.ne⟩
theorem told_ok {r : List UInt8} {q : Nat} {e : Ending} (k : Nat) (S : ByteArray) (n : Nat) (he : er r = 0) (hk : kdOf (k0 r) (r.take (ln r)) = k) (hS : S = ⟨(r.take (ln r)).toArray⟩) (hn : nmOf (k0 r) (r.take (ln r)) = n) (h : e = .returned (.tuple #[.agg (four k S n q), .int .i64 0])) : TokTold r q e := by
  subst hk hS hn h
  exact .inl ⟨he, rfl⟩
theorem told_bad {r : List UInt8} {q : Nat} {e : Ending} (x : Nat) (he : er r = x) (hx : x ≠ 0) (h : e = .returned (.tuple #[.agg (four 0 ⟨#[]⟩ 0 0), .int .i64 (x : Int)])) : TokTold r q e := by
  subst he h
  exact .inr ⟨hx, rfl⟩
theorem word_S (S : ByteArray) (b : List UInt8) (hb : S = ⟨b.toArray⟩) (w : World) (hT : Tab w) :
    Calls Tryz.prog 61 #[.string S] w fun e w' => e = .returned (.bool (isKey b)) ∧ w' = w := by
  subst hb
  exact word_any b w hT
theorem number_S (S : ByteArray) (b : List UInt8) (hb : S = ⟨b.toArray⟩) (w : World) (hs : S.size ≤ 1000000000) :
    Calls Tryz.prog 60 #[.string S] w fun e w' => e = .returned (numV b) ∧ w' = w := by
  subst hb
  exact number_any _ w hs
theorem k0_cases (r : List UInt8) : k0 r = 1 ∨ k0 r = 2 ∨ k0 r = 4 := by
  cases r with
  | nil => exact .inr (.inr rfl)
  | cons c cs =>
    show (if isLt c.toNat then 1 else if isDg c.toNat then 2 else 4) = 1 ∨ _ ∨ _
    repeat' split
    all_goals simp [k0, *]
set_option maxRecDepth 100000 in
set_option maxHeartbeats 4000000 in
theorem ltoken_any (s : ByteArray) (q : Nat) (w : World) (hT : Tab w) (hs : s.size ≤ 1000000) (hq : q < s.size) :
    Calls Tryz.prog 32 #[.string s, .int .i64 (q : Int)] w fun e w' => TokTold (s.data.toList.drop q) q e ∧ Below w.heap.size w w' := by
  obtain ⟨r, hr⟩ : ∃ r, r = s.data.toList.drop q := ⟨_, rfl⟩
  have hln : q + ln r ≤ s.size := by
    have := ln_le r
    rw [hr, List.length_drop, length_of] at this
    rw [hr]
    omega
  obtain ⟨E, hE⟩ : ∃ E, E = q + ln r := ⟨_, rfl⟩
  rw [← hE] at hln
  have hqE : q ≤ E := by omega
  obtain ⟨k, hk⟩ : ∃ k, k = k0 r := ⟨_, rfl⟩
  have hk3 : k = 1 ∨ k = 2 ∨ k = 4 := by rw [hk]; exact k0_cases r
  obtain ⟨S, hS⟩ : ∃ S, S = s.extract q E := ⟨_, rfl⟩
  have hSs : S.size = E - q := by rw [hS, ByteArray.size_extract]; omega
  have hSb : S = ⟨(r.take (ln r)).toArray⟩ := by
    rw [hS, extract_cut]
    unfold cut
    rw [hE, List.drop_take, hr, show q + ln (s.data.toList.drop q) - q = ln (s.data.toList.drop q) by omega]
  rw [← hr]
  have HR := hidden hr
  have HE := hidden hE
  have HK := hidden hk
  have HK3 := hidden hk3
  have HS := hidden hS
  have HSS := hidden hSs
  have HSB := hidden hSb
  have HT := hidden hT
  clear hr hE hk hS hSs hSb hT hk3
  go_enter Tryz.func32, Tryz.ntmps32
  rw [veil 2, veil 3, veil 14]
  go_wp2_with fail
  obtain ⟨W, hW⟩ : ∃ W, W = w.alloc (.cells #[.int .i64 0, .string ⟨#[]⟩, .int .i64 0, .int .i64 0] 49) := ⟨_, rfl⟩
  rw [← hW]
  have HW := hidden hW
  clear hW
  refine (measure_any s q W (by omega) hq).mono ?_
  rintro e w1 ⟨rfl, hw1⟩
  rw [hw1, ← HR.out, ← HE.out, ← HK.out]; clear hw1 w1
  go_wp2_with fail
  refine wp_veil ?_
  obtain ⟨cap, C, fr, hconv, hback⟩ := bytes_there W (s.extract q E) (E - q) (by rw [ByteArray.size_extract]; omega)
  go_wp2_with fail
  refine wp_veil ?_
  clear hconv hback
  rw [← HS.out]
  obtain ⟨V, hV⟩ : ∃ V, V = ((W.alloc (.cells C 5 fr)).alloc (.cells #[.int .i64 (k : Int), .string S, .int .i64 0, .int .i64 (q : Int)] 49)).drew := ⟨_, rfl⟩
  obtain ⟨B, hB⟩ : ∃ B, B = W.heap.size + 1 := ⟨_, rfl⟩
  obtain ⟨A, hA⟩ : ∃ A, A = w.heap.size := ⟨_, rfl⟩
  have HD : Hid (Duo w V A B k S 0 q) := by
    have hWs : W.heap.size = w.heap.size + 1 := by rw [HW.out]; exact Array.size_push _
    refine ⟨?_, ?_, ?_, by omega, by omega, by omega⟩
    · rw [hV, hA, HW.out]
      exact (((Held.new _ _ _).alloc _).alloc _).drew
    · rw [hV, hB]
      have := Held.new (W.alloc (.cells C 5 fr)) 49 (four k S 0 q)
      rw [show (W.alloc (.cells C 5 fr)).heap.size = W.heap.size + 1 from Array.size_push _] at this
      exact this.drew
    · rw [hV, HW.out]
      have h1 := (Below.refl w.heap.size w).alloc (Nat.le_refl _) (.cells #[.int .i64 0, .string ⟨#[]⟩, .int .i64 0, .int .i64 0] 49)
      have h2 := h1.alloc h1.size (.cells C 5 fr)
      have h3 := h2.alloc h2.size (.cells #[.int .i64 (k : Int), .string S, .int .i64 0, .int .i64 (q : Int)] 49)
      exact h3.trans (below_drewN _ 1 _)
  rw [← hV, ← hB, ← hA]
  have HTV : Hid (Tab V) := HT.out.below (HD.out.bel)
  clear hV hB hA HW HT
  have a0 : V.cell? ⟨A, 0, none⟩ = some (.int .i64 ((0 : Nat) : Int)) := HD.out.out.at_ rfl
  have a1 : V.cell? ⟨A, 1, none⟩ = some (.string ⟨#[]⟩) := HD.out.out.at_ rfl
  have a2 : V.cell? ⟨A, 2, none⟩ = some (.int .i64 ((0 : Nat) : Int)) := HD.out.out.at_ rfl
  have a3 : V.cell? ⟨A, 3, none⟩ = some (.int .i64 ((0 : Nat) : Int)) := HD.out.out.at_ rfl
  have z0 := HD.out.out.frozen 0
  have z1 := HD.out.out.frozen 1
  have z2 := HD.out.out.frozen 2
  have z3 := HD.out.out.frozen 3
  by_cases h0 : E = q
  · -- no token begins
    have e0 : ((E : Int) == (q : Int)) = true := by rw [h0]; simp
    have H6 : Hid (er r = 6) := by
      show er r = 6
      unfold er erOf
      exact if_pos (by have := HE.out; omega)
    clear h0
    go_wp2_with fail
    obtain ⟨W', hW', hH, hBel⟩ := HD.out.tell 0 ⟨#[]⟩ 0 0
    simp only [Int.natCast_zero] at hW'
    rw [← hW']
    have c0 : W'.cell? ⟨A, 0, none⟩ = some (.int .i64 ((0 : Nat) : Int)) := hH.at_ rfl
    have c1 : W'.cell? ⟨A, 1, none⟩ = some (.string ⟨#[]⟩) := hH.at_ rfl
    have c2 : W'.cell? ⟨A, 2, none⟩ = some (.int .i64 ((0 : Nat) : Int)) := hH.at_ rfl
    have c3 : W'.cell? ⟨A, 3, none⟩ = some (.int .i64 ((0 : Nat) : Int)) := hH.at_ rfl
    clear hW' hH
    exact bodyPost_ret (v := .tuple #[.agg (four 0 ⟨#[]⟩ 0 0), .int .i64 6]) (by simp [results, Tryz.results32, go_sem, c0, c1, c2, c3]; rfl) rfl ⟨told_bad 6 H6.out (by decide) rfl, hBel⟩
  · have e0 : ((E : Int) == (q : Int)) = false := by simp; omega
    have HL0 : Hid (¬ ln r = 0) := by show ¬ ln r = 0; have := HE.out; omega
    clear h0
    have b1 : V.cell? ⟨B, 1, none⟩ = some (.string S) := HD.out.own.at_ rfl
    have y0 : V.cell? ⟨B, 0, none⟩ = some (.int .i64 (k : Int)) := HD.out.own.at_ rfl
    have y2 : V.cell? ⟨B, 2, none⟩ = some (.int .i64 ((0 : Nat) : Int)) := HD.out.own.at_ rfl
    have x0 := HD.out.own.frozen 0
    have x2 := HD.out.own.frozen 2
    obtain ⟨b, hb⟩ : ∃ b, b = r.take (ln r) := ⟨_, rfl⟩
    have HSB' : Hid (S = ⟨b.toArray⟩) := by show S = ⟨b.toArray⟩; rw [hb]; exact HSB.out
    have HB := hidden hb
    clear hb
    rcases HK3.out with h1 | h2 | h4
    · -- a name, or a key word
      subst h1
      go_wp2_with fail
      refine (word_S S b HSB'.out V HTV.out).mono ?_
      rintro e w1 ⟨rfl, hw1⟩
      rw [hw1]; clear hw1 w1
      cases hkey : isKey b with
      | true =>
        have HKEY := hidden hkey
        clear hkey
        go_wp2_with fail
        obtain ⟨V', hV'⟩ : ∃ V', V' = V.setCell ⟨B, 0, none⟩ (.int .i64 3) := ⟨_, rfl⟩
        have HD' : Hid (Duo w V' A B 3 S 0 q) := by rw [hV']; exact HD.out.kind _
        rw [← hV']
        clear hV' a0 a1 a2 a3 z0 z1 z2 z3 HD
        clear b1 y0 y2 x0 x2
        have HER : Hid (er r = 0) := by
          show er r = 0
          unfold er erOf
          rw [if_neg HL0.out, ← HK.out, ← HB.out, if_neg (by decide), if_pos ⟨rfl, HKEY.out⟩]
        refine wp_veil ?_
        have a0 : V'.cell? ⟨A, 0, none⟩ = some (.int .i64 ((0 : Nat) : Int)) := HD'.out.out.at_ rfl
        have a1 : V'.cell? ⟨A, 1, none⟩ = some (.string ⟨#[]⟩) := HD'.out.out.at_ rfl
        have a2 : V'.cell? ⟨A, 2, none⟩ = some (.int .i64 ((0 : Nat) : Int)) := HD'.out.out.at_ rfl
        have a3 : V'.cell? ⟨A, 3, none⟩ = some (.int .i64 ((0 : Nat) : Int)) := HD'.out.out.at_ rfl
        have z0 := HD'.out.out.frozen 0
        have z1 := HD'.out.out.frozen 1
        have z2 := HD'.out.out.frozen 2
        have z3 := HD'.out.out.frozen 3
        have b0 : V'.cell? ⟨B, 0, none⟩ = some (.int .i64 ((3 : Nat) : Int)) := HD'.out.own.at_ rfl
        have b1 : V'.cell? ⟨B, 1, none⟩ = some (.string S) := HD'.out.own.at_ rfl
        have b2 : V'.cell? ⟨B, 2, none⟩ = some (.int .i64 ((0 : Nat) : Int)) := HD'.out.own.at_ rfl
        have b3 : V'.cell? ⟨B, 3, none⟩ = some (.int .i64 (q : Int)) := HD'.out.own.at_ rfl
        go_wp2_with fail
        obtain ⟨W', hW', hH, hBel⟩ := HD'.out.tell 3 S 0 q
        try simp only [Int.natCast_zero] at hW'
        try rw [show ((1 : Nat) : Int) = 1 from rfl] at hW'
        try rw [show ((2 : Nat) : Int) = 2 from rfl] at hW'
        try rw [show ((3 : Nat) : Int) = 3 from rfl] at hW'
        try rw [show ((4 : Nat) : Int) = 4 from rfl] at hW'
        rw [← hW']
        have c0 : W'.cell? ⟨A, 0, none⟩ = some (.int .i64 ((3 : Nat) : Int)) := hH.at_ rfl
        have c1 : W'.cell? ⟨A, 1, none⟩ = some (.string S) := hH.at_ rfl
        have c2 : W'.cell? ⟨A, 2, none⟩ = some (.int .i64 ((0 : Nat) : Int)) := hH.at_ rfl
        have c3 : W'.cell? ⟨A, 3, none⟩ = some (.int .i64 (q : Int)) := hH.at_ rfl
        clear hW' hH
        exact bodyPost_ret (v := .tuple #[.agg (four 3 S 0 q), .int .i64 0]) (by simp [results, Tryz.results32, go_sem, c0, c1, c2, c3]; rfl) rfl ⟨told_ok 3 S 0 HER.out (by unfold kdOf; rw [← HK.out, ← HB.out]; exact if_pos ⟨rfl, HKEY.out⟩) HSB.out (by unfold nmOf; rw [← HK.out]; rfl) rfl, hBel⟩
      | false =>
        have HKEY := hidden hkey
        clear hkey
        by_cases hlong : 32 < S.size
        · have hl' : (32 : Int) < (S.size : Int) := by omega
          have HER : Hid (er r = 3) := by
            show er r = 3
            unfold er erOf
            have h3 : 32 < ln r := by have := HE.out; have := HSS.out; omega
            rw [if_neg HL0.out, ← HK.out, ← HB.out, if_neg (by decide), if_neg (fun h => by rw [HKEY.out] at h; exact absurd h.2 (by decide)), if_pos ⟨rfl, h3⟩]
          clear hlong
          go_wp2_with fail
          obtain ⟨W', hW', hH, hBel⟩ := HD.out.tell 0 ⟨#[]⟩ 0 0
          simp only [Int.natCast_zero] at hW'
          rw [← hW']
          have c0 : W'.cell? ⟨A, 0, none⟩ = some (.int .i64 ((0 : Nat) : Int)) := hH.at_ rfl
          have c1 : W'.cell? ⟨A, 1, none⟩ = some (.string ⟨#[]⟩) := hH.at_ rfl
          have c2 : W'.cell? ⟨A, 2, none⟩ = some (.int .i64 ((0 : Nat) : Int)) := hH.at_ rfl
          have c3 : W'.cell? ⟨A, 3, none⟩ = some (.int .i64 ((0 : Nat) : Int)) := hH.at_ rfl
          clear hW' hH
          exact bodyPost_ret (v := .tuple #[.agg (four 0 ⟨#[]⟩ 0 0), .int .i64 3]) (by simp [results, Tryz.results32, go_sem, c0, c1, c2, c3]; rfl) rfl ⟨told_bad 3 HER.out (by decide) rfl, hBel⟩
        · have hl' : ¬ (32 : Int) < (S.size : Int) := by omega
          have HER : Hid (er r = 0) := by
            show er r = 0
            unfold er erOf
            have h3 : ¬ 32 < ln r := by have := HE.out; have := HSS.out; omega
            rw [if_neg HL0.out, ← HK.out, ← HB.out, if_neg (by decide), if_neg (fun h => by rw [HKEY.out] at h; exact absurd h.2 (by decide)), if_neg (fun h => h3 h.2)]
          clear hlong
          go_wp2_with fail
          clear a0 a1 a2 a3 z0 z1 z2 z3 b1 y0 y2 x0 x2
          refine wp_veil ?_
          have a0 : V.cell? ⟨A, 0, none⟩ = some (.int .i64 ((0 : Nat) : Int)) := HD.out.out.at_ rfl
          have a1 : V.cell? ⟨A, 1, none⟩ = some (.string ⟨#[]⟩) := HD.out.out.at_ rfl
          have a2 : V.cell? ⟨A, 2, none⟩ = some (.int .i64 ((0 : Nat) : Int)) := HD.out.out.at_ rfl
          have a3 : V.cell? ⟨A, 3, none⟩ = some (.int .i64 ((0 : Nat) : Int)) := HD.out.out.at_ rfl
          have z0 := HD.out.out.frozen 0
          have z1 := HD.out.out.frozen 1
          have z2 := HD.out.out.frozen 2
          have z3 := HD.out.out.frozen 3
          have b0 : V.cell? ⟨B, 0, none⟩ = some (.int .i64 ((1 : Nat) : Int)) := HD.out.own.at_ rfl
          have b1 : V.cell? ⟨B, 1, none⟩ = some (.string S) := HD.out.own.at_ rfl
          have b2 : V.cell? ⟨B, 2, none⟩ = some (.int .i64 ((0 : Nat) : Int)) := HD.out.own.at_ rfl
          have b3 : V.cell? ⟨B, 3, none⟩ = some (.int .i64 (q : Int)) := HD.out.own.at_ rfl
          go_wp2_with fail
          obtain ⟨W', hW', hH, hBel⟩ := HD.out.tell 1 S 0 q
          try simp only [Int.natCast_zero] at hW'
          try rw [show ((1 : Nat) : Int) = 1 from rfl] at hW'
          try rw [show ((2 : Nat) : Int) = 2 from rfl] at hW'
          try rw [show ((3 : Nat) : Int) = 3 from rfl] at hW'
          try rw [show ((4 : Nat) : Int) = 4 from rfl] at hW'
          rw [← hW']
          have c0 : W'.cell? ⟨A, 0, none⟩ = some (.int .i64 ((1 : Nat) : Int)) := hH.at_ rfl
          have c1 : W'.cell? ⟨A, 1, none⟩ = some (.string S) := hH.at_ rfl
          have c2 : W'.cell? ⟨A, 2, none⟩ = some (.int .i64 ((0 : Nat) : Int)) := hH.at_ rfl
          have c3 : W'.cell? ⟨A, 3, none⟩ = some (.int .i64 (q : Int)) := hH.at_ rfl
          clear hW' hH
          exact bodyPost_ret (v := .tuple #[.agg (four 1 S 0 q), .int .i64 0]) (by simp [results, Tryz.results32, go_sem, c0, c1, c2, c3]; rfl) rfl ⟨told_ok 1 S 0 HER.out (by unfold kdOf; rw [← HK.out, ← HB.out]; exact if_neg (fun h => by rw [HKEY.out] at h; exact absurd h.2 (by decide))) HSB.out (by unfold nmOf; rw [← HK.out]; rfl) rfl, hBel⟩
    · -- a number
      subst h2
      go_wp2_with fail
      refine (number_S S b HSB'.out V (by have := HSS.out; omega)).mono ?_
      rintro e w1 ⟨rfl, hw1⟩
      rw [hw1]; clear hw1 w1
      unfold numV
      cases hnum : num b with
      | none =>
        have HER : Hid (er r = 7) := by
          show er r = 7
          unfold er erOf
          rw [if_neg HL0.out, ← HK.out, ← HB.out, if_pos rfl, hnum]
          rfl
        clear hnum
        go_wp2_with fail
        obtain ⟨W', hW', hH, hBel⟩ := HD.out.tell 0 ⟨#[]⟩ 0 0
        simp only [Int.natCast_zero] at hW'
        rw [← hW']
        have c0 : W'.cell? ⟨A, 0, none⟩ = some (.int .i64 ((0 : Nat) : Int)) := hH.at_ rfl
        have c1 : W'.cell? ⟨A, 1, none⟩ = some (.string ⟨#[]⟩) := hH.at_ rfl
        have c2 : W'.cell? ⟨A, 2, none⟩ = some (.int .i64 ((0 : Nat) : Int)) := hH.at_ rfl
        have c3 : W'.cell? ⟨A, 3, none⟩ = some (.int .i64 ((0 : Nat) : Int)) := hH.at_ rfl
        clear hW' hH
        exact bodyPost_ret (v := .tuple #[.agg (four 0 ⟨#[]⟩ 0 0), .int .i64 7]) (by simp [results, Tryz.results32, go_sem, c0, c1, c2, c3]; rfl) rfl ⟨told_bad 7 HER.out (by decide) rfl, hBel⟩
      | some n =>
        have HER : Hid (er r = 0) := by
          show er r = 0
          unfold er erOf
          rw [if_neg HL0.out, ← HK.out, ← HB.out, if_pos rfl, hnum]
          rfl
        have HNUM := hidden hnum
        clear hnum
        go_wp2_with fail
        obtain ⟨V', hV'⟩ : ∃ V', V' = V.setCell ⟨B, 2, none⟩ (.int .i64 (n : Int)) := ⟨_, rfl⟩
        have HD' : Hid (Duo w V' A B 2 S n q) := by rw [hV']; exact HD.out.num _
        rw [← hV']
        clear hV' a0 a1 a2 a3 z0 z1 z2 z3 HD
        clear b1 y0 y2 x0 x2
        refine wp_veil ?_
        have a0 : V'.cell? ⟨A, 0, none⟩ = some (.int .i64 ((0 : Nat) : Int)) := HD'.out.out.at_ rfl
        have a1 : V'.cell? ⟨A, 1, none⟩ = some (.string ⟨#[]⟩) := HD'.out.out.at_ rfl
        have a2 : V'.cell? ⟨A, 2, none⟩ = some (.int .i64 ((0 : Nat) : Int)) := HD'.out.out.at_ rfl
        have a3 : V'.cell? ⟨A, 3, none⟩ = some (.int .i64 ((0 : Nat) : Int)) := HD'.out.out.at_ rfl
        have z0 := HD'.out.out.frozen 0
        have z1 := HD'.out.out.frozen 1
        have z2 := HD'.out.out.frozen 2
        have z3 := HD'.out.out.frozen 3
        have b0 : V'.cell? ⟨B, 0, none⟩ = some (.int .i64 ((2 : Nat) : Int)) := HD'.out.own.at_ rfl
        have b1 : V'.cell? ⟨B, 1, none⟩ = some (.string S) := HD'.out.own.at_ rfl
        have b2 : V'.cell? ⟨B, 2, none⟩ = some (.int .i64 ((n : Nat) : Int)) := HD'.out.own.at_ rfl
        have b3 : V'.cell? ⟨B, 3, none⟩ = some (.int .i64 (q : Int)) := HD'.out.own.at_ rfl
        go_wp2_with fail
        obtain ⟨W', hW', hH, hBel⟩ := HD'.out.tell 2 S n q
        try simp only [Int.natCast_zero] at hW'
        try rw [show ((1 : Nat) : Int) = 1 from rfl] at hW'
        try rw [show ((2 : Nat) : Int) = 2 from rfl] at hW'
        try rw [show ((3 : Nat) : Int) = 3 from rfl] at hW'
        try rw [show ((4 : Nat) : Int) = 4 from rfl] at hW'
        rw [← hW']
        have c0 : W'.cell? ⟨A, 0, none⟩ = some (.int .i64 ((2 : Nat) : Int)) := hH.at_ rfl
        have c1 : W'.cell? ⟨A, 1, none⟩ = some (.string S) := hH.at_ rfl
        have c2 : W'.cell? ⟨A, 2, none⟩ = some (.int .i64 ((n : Nat) : Int)) := hH.at_ rfl
        have c3 : W'.cell? ⟨A, 3, none⟩ = some (.int .i64 (q : Int)) := hH.at_ rfl
        clear hW' hH
        exact bodyPost_ret (v := .tuple #[.agg (four 2 S n q), .int .i64 0]) (by simp [results, Tryz.results32, go_sem, c0, c1, c2, c3]; rfl) rfl ⟨told_ok 2 S n HER.out (by unfold kdOf; rw [← HK.out]; rfl) HSB.out (by unfold nmOf; rw [← HK.out, ← HB.out, HNUM.out]; rfl) rfl, hBel⟩
    · -- a sign
      subst h4
      have HER : Hid (er r = 0) := by
        show er r = 0
        unfold er erOf
        rw [if_neg HL0.out, ← HK.out]
        rfl
      go_wp2_with fail
      clear a0 a1 a2 a3 z0 z1 z2 z3 b1 y0 y2 x0 x2
      refine wp_veil ?_
      have a0 : V.cell? ⟨A, 0, none⟩ = some (.int .i64 ((0 : Nat) : Int)) := HD.out.out.at_ rfl
      have a1 : V.cell? ⟨A, 1, none⟩ = some (.string ⟨#[]⟩) := HD.out.out.at_ rfl
      have a2 : V.cell? ⟨A, 2, none⟩ = some (.int .i64 ((0 : Nat) : Int)) := HD.out.out.at_ rfl
      have a3 : V.cell? ⟨A, 3, none⟩ = some (.int .i64 ((0 : Nat) : Int)) := HD.out.out.at_ rfl
      have z0 := HD.out.out.frozen 0
      have z1 := HD.out.out.frozen 1
      have z2 := HD.out.out.frozen 2
      have z3 := HD.out.out.frozen 3
      have b0 : V.cell? ⟨B, 0, none⟩ = some (.int .i64 ((4 : Nat) : Int)) := HD.out.own.at_ rfl
      have b1 : V.cell? ⟨B, 1, none⟩ = some (.string S) := HD.out.own.at_ rfl
      have b2 : V.cell? ⟨B, 2, none⟩ = some (.int .i64 ((0 : Nat) : Int)) := HD.out.own.at_ rfl
      have b3 : V.cell? ⟨B, 3, none⟩ = some (.int .i64 (q : Int)) := HD.out.own.at_ rfl
      go_wp2_with fail
      obtain ⟨W', hW', hH, hBel⟩ := HD.out.tell 4 S 0 q
      try simp only [Int.natCast_zero] at hW'
      try rw [show ((1 : Nat) : Int) = 1 from rfl] at hW'
      try rw [show ((2 : Nat) : Int) = 2 from rfl] at hW'
      try rw [show ((3 : Nat) : Int) = 3 from rfl] at hW'
      try rw [show ((4 : Nat) : Int) = 4 from rfl] at hW'
      rw [← hW']
      have c0 : W'.cell? ⟨A, 0, none⟩ = some (.int .i64 ((4 : Nat) : Int)) := hH.at_ rfl
      have c1 : W'.cell? ⟨A, 1, none⟩ = some (.string S) := hH.at_ rfl
      have c2 : W'.cell? ⟨A, 2, none⟩ = some (.int .i64 ((0 : Nat) : Int)) := hH.at_ rfl
      have c3 : W'.cell? ⟨A, 3, none⟩ = some (.int .i64 (q : Int)) := hH.at_ rfl
      clear hW' hH
      exact bodyPost_ret (v := .tuple #[.agg (four 4 S 0 q), .int .i64 0]) (by simp [results, Tryz.results32, go_sem, c0, c1, c2, c3]; rfl) rfl ⟨told_ok 4 S 0 HER.out (by unfold kdOf; rw [← HK.out]; rfl) HSB.out (by unfold nmOf; rw [← HK.out]; rfl) rfl, hBel⟩
/-- the cells of tokens, one behind the other -/
def lflat (L : List Tk) : List Value := L.flatMap (fun t => (ltkv t).toList)
theorem lflat_snoc (L : List Tk) (t : Tk) : lflat (L ++ [t]) = lflat L ++ (ltkv t).toList := by
  unfold lflat
  rw [List.flatMap_append, List.flatMap_singleton]
/-- what Tokens tells -/
def lTold (l : List UInt8) (w : World) (e : Ending) (w' : World) : Prop :=
  (∃ L v, T l 0 = .ok L ∧ e = .returned (.tuple #[v, .agg #[.int .i64 0, .int .i64 0]]) ∧ Vals 49 4 w w' v L.length (lflat L)) ∨
  (∃ x p : Nat, T l 0 = .error (x, p) ∧ e = .returned (.tuple #[.slice none 0 0, .agg #[.int .i64 (x : Int), .int .i64 (p : Int)]]) ∧ Below w.heap.size w w')
theorem linfoT : (Tryz.prog.info? 49).map (fun i => (i.zero, i.size, i.bytes)) = some (some (.agg #[.int .i64 0, .string ⟨#[]⟩, .int .i64 0, .int .i64 0]), 4, 40) := by kernel_rfl
theorem lbelow_then {w w1 w2 : World} (h : Below w.heap.size w w1) (k : Below w1.heap.size w1 w2) : Below w.heap.size w w2 := h.trans (k.mono h.size)
set_option maxRecDepth 100000 in
set_option maxHeartbeats 4000000 in
theorem tokens_any (s : ByteArray) (w : World) (hT : Tab w) (hs : s.size ≤ 65536) :
    Calls Tryz.prog 10 #[.string s] w fun e w' => lTold s.data.toList w e w' := by
  obtain ⟨l, hl⟩ : ∃ l, l = s.data.toList := ⟨_, rfl⟩
  have hlen : l.length = s.size := by rw [hl]; exact Array.length_toList
  have HLEN := hidden hlen
  rw [← hl]
  have HL := hidden hl
  have HT := hidden hT
  clear hl hlen hT
  have hz : skp false l ≤ s.size := by rw [← HLEN.out]; exact skp_le _ _
  obtain ⟨z, hzz⟩ : ∃ z, z = skp false l := ⟨_, rfl⟩
  rw [← hzz] at hz
  have HZ := hidden hzz
  clear hzz
  go_enter Tryz.func10, Tryz.ntmps10
  rw [veil 7, veil 9, veil 10, veil 11]
  go_wp2_with fail
  obtain ⟨W, hW⟩ : ∃ W, W = w.alloc (.cells #[.int .i64 0, .int .i64 0] 26) := ⟨_, rfl⟩
  rw [← hW]
  obtain ⟨A, hA⟩ : ∃ A, A = w.heap.size := ⟨_, rfl⟩
  have HA : Hid (w.heap.size ≤ A) := by show w.heap.size ≤ A; omega
  have HH : Hid (Held W A 26 #[.int .i64 0, .int .i64 0]) := by rw [hW, hA]; exact Held.new _ _ _
  have HB : Hid (Below w.heap.size w W) := by rw [hW]; exact (Below.refl _ _).alloc (Nat.le_refl _) _
  rw [← hA]
  have HTW : Hid (Tab W) := HT.out.below HB.out
  clear hW hA HT
  refine (skip_any s 0 W (by omega) (Nat.zero_le _)).mono ?_
  rintro e w1 ⟨rfl, hw1⟩
  rw [hw1, ← HL.out, List.drop_zero, Nat.zero_add, ← HZ.out]; clear hw1 w1
  go_wp2_with fail
  go_loopw [4, 5] (fun v i wr => ∃ (p n : Nat) (L : List Tk), p ≤ s.size ∧ n ≤ p ∧ i = .int .i64 (p : Int) ∧ Hid (n = L.length) ∧ Hid (From l L p) ∧ Hid (Vals 49 4 W wr v n (lflat L))) (fun _ i _ => s.size - (intOf i).toNat)
  case atStart => exact ⟨z, 0, [], hz, Nat.zero_le _, rfl, rfl, (show From l [] z by rw [HZ.out]; exact From.start l), Vals.nil _ _ _⟩
  case round =>
    obtain ⟨p, n, L, hp, hnp, rfl, hn, hF, hV⟩ := hrel
    by_cases hlt : p < s.size
    · have hpl : Hid (p < l.length) := by show p < l.length; rw [HLEN.out]; exact hlt
      go_wp2_with fail
      refine (ltoken_any s p wr (HTW.out.below hV.out.2) (by omega) hlt).mono ?_
      rintro e w1 ⟨hTold, hb⟩
      rw [← HL.out] at hTold
      obtain ⟨r, hr⟩ : ∃ r, r = l.drop p := ⟨_, rfl⟩
      rw [← hr] at hTold
      rcases hTold with ⟨he, rfl⟩ | ⟨he, rfl⟩
      · obtain ⟨k, hk⟩ : ∃ k, k = (tk r p).kind := ⟨_, rfl⟩
        obtain ⟨S, hS⟩ : ∃ S : ByteArray, S = ⟨(tk r p).text.toArray⟩ := ⟨_, rfl⟩
        obtain ⟨N, hN⟩ : ∃ N, N = (tk r p).n := ⟨_, rfl⟩
        have hcs : ltkv (tk r p) = #[.int .i64 (k : Int), .string S, .int .i64 (N : Int), .int .i64 (p : Int)] := by rw [hk, hS, hN]; rfl
        have hlr := ln_le r
        have hrl : r.length = s.size - p := by rw [hr, List.length_drop, HLEN.out]
        have hSs : S.size = ln r := by
          rw [hS]
          show (r.take (ln r)).toArray.size = _
          rw [List.size_toArray, List.length_take]
          omega
        obtain ⟨E, hE⟩ : ∃ E, E = p + S.size := ⟨_, rfl⟩
        have hES : E ≤ s.size := by omega
        have hpE : (p : Int) + (S.size : Int) = (E : Int) := by omega
        have hoff : p + off r = E + skp false (l.drop E) := by
          unfold off
          rw [hE, hSs, hr, List.drop_drop]
          omega
        have hlow : p < E := by have := er_ln he; omega
        have hoffl := off_le r
        rw [hcs]
        have HCS := hidden hcs
        have HR := hidden hr
        have HER := hidden he
        have HOFF := hidden hoff
        have HOFFL : Hid (E + skp false (l.drop E) ≤ s.size) := by show E + skp false (l.drop E) ≤ s.size; omega
        have HB1 := hidden hb
        clear hk hS hN hcs hlr hrl hSs hE hr he hoff hoffl hb
        go_wp2_with fail
        refine wp_veil ?_
        obtain ⟨W2, hW2⟩ : ∃ W2, W2 = w1.alloc (.cells #[.int .i64 (k : Int), .string S, .int .i64 (N : Int), .int .i64 (p : Int)] 49) := ⟨_, rfl⟩
        obtain ⟨g, hg⟩ : ∃ g, g = w1.heap.size := ⟨_, rfl⟩
        have HG : Hid (Held W2 g 49 #[.int .i64 (k : Int), .string S, .int .i64 (N : Int), .int .i64 (p : Int)]) := by rw [hW2, hg]; exact Held.new _ _ _
        have HB2 : Hid (Below wr.heap.size wr W2) := by rw [hW2]; exact HB1.out.alloc HB1.out.size _
        have HGR : Hid (wr.heap.size ≤ g) := by show wr.heap.size ≤ g; rw [hg]; exact HB1.out.size
        have HV2 := hidden (hV.out.quiet HB2.out)
        rw [← hW2, ← hg]
        clear hW2 hg HB1
        go_wp2_with fail
        refine wp_veil ?_
        have b0 : W2.cell? ⟨g, 0, none⟩ = some (.int .i64 (k : Int)) := HG.out.at_ rfl
        have b1 : W2.cell? ⟨g, 1, none⟩ = some (.string S) := HG.out.at_ rfl
        have b2 : W2.cell? ⟨g, 2, none⟩ = some (.int .i64 (N : Int)) := HG.out.at_ rfl
        have b3 : W2.cell? ⟨g, 3, none⟩ = some (.int .i64 (p : Int)) := HG.out.at_ rfl
        go_wp2_with (at_builtin; refine wpList_push_kept rfl (.tmp 29) (.tmp 31) 33 49 (.agg #[.int .i64 0, .string ⟨#[]⟩, .int .i64 0, .int .i64 0]) 4 40 Tryz.underlying33 linfoT rfl (by decide) (by decide) rfl W W2 _ n (lflat L) [.int .i64 (k : Int), .string S, .int .i64 (N : Int), .int .i64 (p : Int)] _ rfl rfl HV2.out (by omega) rfl rfl (by intro u hu; simp at hu; rcases hu with rfl | rfl | rfl | rfl <;> rfl) ?_; intro v1 w3 hN3 hkeep)
        refine wp_veil ?_
        have HN3 := hidden hN3
        have HG3 : Hid (Held w3 g 49 #[.int .i64 (k : Int), .string S, .int .i64 (N : Int), .int .i64 (p : Int)]) := by
          refine HG.out.block (hkeep g HG.out.lt ?_)
          intro e
          have := hV.out.lt g e
          have := HGR.out
          omega
        clear b0 b1 b2 b3 hN3 hkeep HG
        have b1 : w3.cell? ⟨g, 1, none⟩ = some (.string S) := HG3.out.at_ rfl
        go_wp2_with fail
        refine (skip_any s E w3 (by omega) hES).mono ?_
        rintro e w4 ⟨rfl, hw4⟩
        rw [hw4, ← HL.out]; clear hw4 w4
        obtain ⟨q, hq⟩ : ∃ q, q = E + skp false (l.drop E) := ⟨_, rfl⟩
        rw [← hq]
        have hqE : E ≤ q := by omega
        have hqs : q ≤ s.size := by have := HOFFL.out; omega
        have HQ := hidden hq
        clear hq
        go_wp2_with fail
        go_roundw
        case rel =>
          refine ⟨q, n + 1, L ++ [tk r p], hqs, by omega, rfl, ?_, ?_, ?_⟩
          · show n + 1 = (L ++ [tk r p]).length
            rw [List.length_append, ← hn.out]
            rfl
          · show From l (L ++ [tk r p]) q
            have := hF.out.next hpl.out (by rw [← HR.out]; exact HER.out)
            rw [← HR.out, HOFF.out, ← HQ.out] at this
            exact this
          · show Vals _ 4 W w3 v1 (n + 1) (lflat (L ++ [tk r p]))
            rw [lflat_snoc, HCS.out]
            exact HN3.out
        case measure => simp [intOf]; omega
      · obtain ⟨x, hx⟩ : ∃ x, x = er r := ⟨_, rfl⟩
        rw [← hx] at he ⊢
        have hx0 : ((x : Int) != 0) = true := by simp; omega
        have HX : Hid (T l 0 = .error (x, p)) := by
          show T l 0 = .error (x, p)
          rw [hx, hr]
          refine hF.out.bad hpl.out ?_
          rw [← hr, ← hx]
          exact he
        have HB1 := hidden hb
        clear hx hr he hb
        unfold four
        go_wp2_with fail
        refine wp_veil ?_
        obtain ⟨W2, hW2⟩ : ∃ W2, W2 = w1.alloc (.cells #[.int .i64 0, .string ⟨#[]⟩, .int .i64 0, .int .i64 0] 49) := ⟨_, rfl⟩
        have HB2 : Hid (Below wr.heap.size wr W2) := by rw [hW2]; exact HB1.out.alloc HB1.out.size _
        rw [← hW2]
        clear hW2 HB1
        have HBW : Hid (Below W.heap.size W W2) := lbelow_then hV.out.2 HB2.out
        have HH2 : Hid (Held W2 A 26 #[.int .i64 0, .int .i64 0]) := HH.out.since HBW.out
        have a0 : W2.cell? ⟨A, 0, none⟩ = some (.int .i64 0) := HH2.out.at_ rfl
        have a1 : W2.cell? ⟨A, 1, none⟩ = some (.int .i64 0) := HH2.out.at_ rfl
        have z0 := HH2.out.frozen 0
        have z1 := HH2.out.frozen 1
        go_wp2_with fail
        obtain ⟨W', hW'⟩ : ∃ W', W' = (W2.setCell ⟨A, 0, none⟩ (.int .i64 (x : Int))).setCell ⟨A, 1, none⟩ (.int .i64 (p : Int)) := ⟨_, rfl⟩
        have hH : Held W' A 26 #[.int .i64 (x : Int), .int .i64 (p : Int)] := by rw [hW']; exact (HH2.out.set 0 _).set 1 _
        have hBel : Below w.heap.size w W' := by
          rw [hW']
          exact ((lbelow_then HB.out HBW.out).setCell HA.out _).setCell HA.out _
        rw [← hW']
        have c0 : W'.cell? ⟨A, 0, none⟩ = some (.int .i64 (x : Int)) := hH.at_ rfl
        have c1 : W'.cell? ⟨A, 1, none⟩ = some (.int .i64 (p : Int)) := hH.at_ rfl
        clear hW' hH
        exact bodyPost_ret (v := .tuple #[.slice none 0 0, .agg #[.int .i64 (x : Int), .int .i64 (p : Int)]]) (by simp [results, Tryz.results10, go_sem, c0, c1]) rfl (.inr ⟨x, p, HX.out, rfl, hBel⟩)
    · obtain rfl : p = s.size := by omega
      have HX : Hid (T l 0 = .ok (L ++ [⟨0, [], 0, s.size⟩])) := hF.out.done HLEN.out.symm
      go_wp2_with fail
      refine wp_veil ?_
      go_wp2_with (at_builtin; refine wpList_push_kept rfl (.tmp 40) (.tmp 44) 33 49 (.agg #[.int .i64 0, .string ⟨#[]⟩, .int .i64 0, .int .i64 0]) 4 40 Tryz.underlying33 linfoT rfl (by decide) (by decide) rfl W wr _ n (lflat L) [.int .i64 0, .string ⟨#[]⟩, .int .i64 0, .int .i64 (s.size : Int)] _ rfl rfl hV.out (by omega) rfl rfl (by intro u hu; simp at hu; rcases hu with rfl | rfl | rfl | rfl <;> rfl) ?_; intro v1 w3 hN3 hkeep; have HN3 := hidden hN3; clear hN3 hkeep; have HH3 : Hid (Held w3 A 26 #[.int .i64 0, .int .i64 0]) := HH.out.since HN3.out.2; have a0 : w3.cell? ⟨A, 0, none⟩ = some (.int .i64 0) := HH3.out.at_ rfl; have a1 : w3.cell? ⟨A, 1, none⟩ = some (.int .i64 0) := HH3.out.at_ rfl; have z0 := HH3.out.frozen 0; have z1 := HH3.out.frozen 1)
      obtain ⟨W', hW'⟩ : ∃ W', W' = (w3.setCell ⟨A, 0, none⟩ (.int .i64 0)).setCell ⟨A, 1, none⟩ (.int .i64 0) := ⟨_, rfl⟩
      have hH : Held W' A 26 #[.int .i64 0, .int .i64 0] := by rw [hW']; exact (HH3.out.set 0 _).set 1 _
      have hBel : Below w.heap.size w W' := by
        rw [hW']
        exact ((lbelow_then HB.out HN3.out.2).setCell HA.out _).setCell HA.out _
      have hVV : Vals 49 4 w W' v1 (n + 1) (lflat (L ++ [⟨0, [], 0, s.size⟩])) := by
        rw [lflat_snoc]
        refine HN3.out.apart HB.out ?_ hBel
        intro k hk
        have hlt := HH.out.lt
        have hne : k ≠ A := by omega
        rw [hW', Below.heap_setCell _ _ _ _ hne, Below.heap_setCell _ _ _ _ hne]
      rw [← hW']
      have c0 : W'.cell? ⟨A, 0, none⟩ = some (.int .i64 0) := hH.at_ rfl
      have c1 : W'.cell? ⟨A, 1, none⟩ = some (.int .i64 0) := hH.at_ rfl
      clear hW' hH
      have hln : (L ++ [(⟨0, [], 0, s.size⟩ : Tk)]).length = n + 1 := by rw [List.length_append, ← hn.out]; rfl
      exact bodyPost_ret (v := .tuple #[v1, .agg #[.int .i64 0, .int .i64 0]]) (by simp [results, Tryz.results10, go_sem, c0, c1]) rfl (.inl ⟨_, v1, HX.out, rfl, by rw [hln]; exact hVV⟩)
end Go.Proofs.YtagacfcpepoaoaaGreatDoor
