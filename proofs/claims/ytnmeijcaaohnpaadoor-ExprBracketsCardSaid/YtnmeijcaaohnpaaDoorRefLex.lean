/- LexLeaf, LexSkip, LexSkips, in one text. -/
import Derived.Test.YtnmeijcaaohnpaaDoorRows
import Derived.Test.YtnmeijcaaohnpaaDoorLexSpec
import Derived.Test.YtnmeijcaaohnpaaDoorGenRow
import Derived.WalkKit
namespace Go.Proofs.YtnmeijcaaohnpaaDoor
open Go.RowKit
set_option linter.unusedVariables false

theorem blank_any (n : Nat) (w : World) :
    Calls Tryd.prog 30 #[.int .u8 (n : Int)] w fun e w' => e = .returned (.bool (isBl n)) ∧ w' = w := by
  go_enter Tryd.func30, Tryd.ntmps30
  go_wp2
  all_goals go_ret
  all_goals refine ⟨congrArg (fun b => Ending.returned (Value.bool b)) ?_, rfl⟩
  all_goals (rw [Bool.eq_iff_iff]; simp [isBl]; try omega)
theorem drop_at {l : List UInt8} {k : Nat} (h : k < l.length) : l.drop k = l.getD k 0 :: l.drop (k + 1) := by
  rw [List.drop_eq_getElem_cons h, List.getD_eq_getElem?_getD, List.getElem?_eq_getElem h]
  rfl
theorem rn_hit {p : Nat → Bool} {l : List UInt8} {k : Nat} (h : k < l.length) (hp : p (bt l k) = true) : rn p (l.drop k) = 1 + rn p (l.drop (k + 1)) := by
  rw [drop_at h]
  exact if_pos hp
theorem rn_miss {p : Nat → Bool} {l : List UInt8} {k : Nat} (h : k < l.length) (hp : p (bt l k) = false) : rn p (l.drop k) = 0 := by
  rw [drop_at h]
  exact if_neg (fun g => by rw [show bt l k = (l.getD k 0).toNat from rfl, g] at hp; cases hp)
theorem rn_end {p : Nat → Bool} {l : List UInt8} {k : Nat} (h : l.length ≤ k) : rn p (l.drop k) = 0 := by
  rw [List.drop_of_length_le h]; rfl
end Go.Proofs.YtnmeijcaaohnpaaDoor

namespace Go.Proofs.YtnmeijcaaohnpaaDoor
open Go.RowKit
set_option linter.unusedVariables false

theorem skp_end {b : Bool} {l : List UInt8} {k : Nat} (h : l.length ≤ k) : skp b (l.drop k) = 0 := by
  rw [List.drop_of_length_le h]; cases b <;> rfl
theorem skp_hash {l : List UInt8} {k : Nat} (h : k < l.length) (hb : bt l k = 35) : skp false (l.drop k) = 1 + skp true (l.drop (k + 1)) := by
  rw [drop_at h]; exact if_pos hb
theorem skp_bl {l : List UInt8} {k : Nat} (h : k < l.length) (h35 : ¬ bt l k = 35) (hb : isBl (bt l k) = true) : skp false (l.drop k) = 1 + skp false (l.drop (k + 1)) := by
  rw [drop_at h]; exact (if_neg h35).trans (if_pos hb)
theorem skp_no {l : List UInt8} {k : Nat} (h : k < l.length) (h35 : ¬ bt l k = 35) (hb : ¬ isBl (bt l k) = true) : skp false (l.drop k) = 0 := by
  rw [drop_at h]; exact (if_neg h35).trans (if_neg hb)
theorem skp_in {l : List UInt8} {k : Nat} (h : k < l.length) (hb : ¬ bt l k = 10) : skp true (l.drop k) = 1 + skp true (l.drop (k + 1)) := by
  rw [drop_at h]; exact if_neg hb
theorem skp_out {l : List UInt8} {k : Nat} (h : k < l.length) (hb : bt l k = 10) : skp true (l.drop k) = skp false (l.drop k) := by
  rw [drop_at h]
  have h1 : skp true (l.getD k 0 :: l.drop (k + 1)) = 1 + skp false (l.drop (k + 1)) := if_pos hb
  have h2 : skp false (l.getD k 0 :: l.drop (k + 1)) = 1 + skp false (l.drop (k + 1)) := (if_neg (fun g => by rw [show (l.getD k 0).toNat = bt l k from rfl, hb] at g; cases g)).trans (if_pos (by rw [show (l.getD k 0).toNat = bt l k from rfl, hb]; rfl))
  rw [h1, h2]
/-- the document's own -/
theorem refSkip_any (s : ByteArray) (w : World) (hs : s.size ≤ 1000000000) :
    Calls Tryd.prog 14 #[.string s] w fun e w' => e = .returned (.int .i64 ((skp false s.data.toList : Nat) : Int)) ∧ w' = w := by
  obtain ⟨l, hl⟩ : ∃ l, l = s.data.toList := ⟨_, rfl⟩
  have hlen : l.length = s.size := by rw [hl]; exact Array.length_toList
  have HLEN := hidden hlen
  rw [← hl]
  have HL := hidden hl
  obtain ⟨m, hm⟩ : ∃ m, m = skp false l := ⟨_, rfl⟩
  have HM := hidden hm
  rw [← hm]
  clear hl hlen hm
  go_enter Tryd.func14, Tryd.ntmps14
  go_wp2_with fail
  go_loop [3, 4] (fun b i => ∃ (k : Nat) (r : Bool), k ≤ s.size ∧ b = .bool r ∧ i = .int .i64 (k : Int) ∧ Hid (m = k + skp r (l.drop k))) (fun _ i => s.size - (intOf i).toNat)
  case atStart => exact ⟨0, false, Nat.zero_le _, rfl, rfl, (show m = 0 + skp false (l.drop 0) by rw [HM.out, List.drop_zero]; omega)⟩
  case round =>
    obtain ⟨k, r, hk, rfl, rfl, hK⟩ := hrel
    by_cases hlt : k < s.size
    · have hkl : Hid (k < l.length) := by show k < l.length; rw [HLEN.out]; exact hlt
      have hb := bt_of HL.out hlt
      obtain ⟨c, hc⟩ : ∃ c, c = bt l k := ⟨_, rfl⟩
      rw [← hc] at hb
      have HC := hidden hc
      clear hc
      by_cases h35 : c = 35
      · have t1 : ((s[k].toNat : Int) == 35) = true := by rw [← hb, h35]; rfl
        have t2 : ((s[k].toNat : Int) == 10) = false := by rw [← hb, h35]; rfl
        have H35 := hidden h35
        have HB := hidden hb
        clear h35 hb
        have hN : Hid (m = k + 1 + skp true (l.drop (k + 1))) := by
          show m = k + 1 + skp true (l.drop (k + 1))
          rw [hK.out]
          cases r with
          | true => rw [skp_in hkl.out (by rw [← HC.out, H35.out]; decide)]; omega
          | false => rw [skp_hash hkl.out (by rw [← HC.out, H35.out])]; omega
        go_wp2_with fail
        go_round
        case rel => exact ⟨k + 1, true, by omega, rfl, by go_num, hN⟩
        case measure => simp [intOf]; omega
      · have t1 : ((s[k].toNat : Int) == 35) = false := by rw [← hb]; simp; omega
        have H35 := hidden h35
        clear h35
        by_cases h10 : c = 10
        · have t2 : ((s[k].toNat : Int) == 10) = true := by rw [← hb, h10]; rfl
          have H10 := hidden h10
          have HB := hidden hb
          clear h10 hb
          have hN : Hid (m = k + 1 + skp false (l.drop (k + 1))) := by
            show m = k + 1 + skp false (l.drop (k + 1))
            have e : skp false (l.drop k) = 1 + skp false (l.drop (k + 1)) := skp_bl hkl.out (by rw [← HC.out]; exact H35.out) (by rw [← HC.out, H10.out]; rfl)
            rw [hK.out]
            cases r with
            | true => rw [skp_out hkl.out (by rw [← HC.out, H10.out]), e]; omega
            | false => rw [e]; omega
          go_wp2_with fail
          refine (blank_any s[k].toNat w).mono ?_
          rintro e w1 ⟨rfl, hw1⟩
          rw [hw1, show isBl s[k].toNat = true by rw [← HB.out, H10.out]; rfl]; clear hw1 w1
          go_wp2_with fail
          go_round
          case rel => exact ⟨k + 1, false, by omega, rfl, by go_num, hN⟩
          case measure => simp [intOf]; omega
        · have t2 : ((s[k].toNat : Int) == 10) = false := by rw [← hb]; simp; omega
          have H10 := hidden h10
          have HB := hidden hb
          clear h10 hb
          cases r with
          | true =>
            have hN : Hid (m = k + 1 + skp true (l.drop (k + 1))) := by
              show m = k + 1 + skp true (l.drop (k + 1))
              rw [hK.out, skp_in hkl.out (by rw [← HC.out]; exact H10.out)]
              omega
            go_wp2_with fail
            go_round
            case rel => exact ⟨k + 1, true, by omega, rfl, by go_num, hN⟩
            case measure => simp [intOf]; omega
          | false =>
            go_wp2_with fail
            refine (blank_any s[k].toNat w).mono ?_
            rintro e w1 ⟨rfl, hw1⟩
            rw [hw1, ← HB.out]; clear hw1 w1
            cases hbl : isBl c with
            | true =>
              have HBL := hidden hbl
              clear hbl
              have hN : Hid (m = k + 1 + skp false (l.drop (k + 1))) := by
                show m = k + 1 + skp false (l.drop (k + 1))
                rw [hK.out, skp_bl hkl.out (by rw [← HC.out]; exact H35.out) (by rw [← HC.out]; exact HBL.out)]
                omega
              go_wp2_with fail
              go_round
              case rel => exact ⟨k + 1, false, by omega, rfl, by go_num, hN⟩
              case measure => simp [intOf]; omega
            | false =>
              have HBL := hidden hbl
              clear hbl
              go_wp2_with fail
              go_ret
              refine ⟨?_, rfl⟩
              rw [hK.out, skp_no hkl.out (by rw [← HC.out]; exact H35.out) (by rw [← HC.out, HBL.out]; decide)]
              rfl
    · obtain rfl : k = s.size := by omega
      go_wp2_with fail
      go_ret
      refine ⟨?_, rfl⟩
      rw [hK.out, skp_end (by rw [HLEN.out]; exact Nat.le_refl _)]
      rfl
end Go.Proofs.YtnmeijcaaohnpaaDoor

namespace Go.Proofs.YtnmeijcaaohnpaaDoor
open Go.RowKit
set_option linter.unusedVariables false

/-- the number's part up to k -/
theorem num_next {l : List UInt8} {k : Nat} (h : k < l.length) : num (l.take (k + 1)) = nstep (num (l.take k)) (l.getD k 0) := by
  unfold num
  rw [take_next h, List.foldl_append]
  rfl
theorem num_none : ∀ l : List UInt8, l.foldl nstep none = none
  | [] => rfl
  | c :: cs => num_none cs
theorem num_stop {l : List UInt8} {k : Nat} (h : num (l.take k) = none) : num l = none := by
  have e : num l = (l.drop k).foldl nstep (num (l.take k)) := by
    unfold num
    rw [← List.foldl_append, List.take_append_drop]
  rw [e, h, num_none]
theorem num_le {l : List UInt8} : ∀ {n k : Nat}, num (l.take k) = some n → n ≤ 9223372036854775807
  | n, 0, h => by
    simp [num] at h
    omega
  | n, k + 1, h => by
    rcases Nat.lt_or_ge k l.length with g | g
    · rw [num_next g] at h
      unfold nstep at h
      split at h
      · cases h
      · split at h
        · injection h with h; omega
        · cases h
    · rw [List.take_of_length_le (by omega)] at h
      refine num_le (l := l) (k := k) ?_
      rw [List.take_of_length_le g]
      exact h
/-- what number tells -/
def numV (l : List UInt8) : Value := match num l with
  | some n => .tuple #[.int .i64 (n : Int), .bool true]
  | none => .tuple #[.int .i64 0, .bool false]
theorem dgt_u8 (n : Nat) (h : n < 256) : IntKind.u8.wrap ((n : Int) - 48) = (((n + 208) % 256 : Nat) : Int) := by
  rw [IntKind.wrap_u8]; omega
end Go.Proofs.YtnmeijcaaohnpaaDoor
