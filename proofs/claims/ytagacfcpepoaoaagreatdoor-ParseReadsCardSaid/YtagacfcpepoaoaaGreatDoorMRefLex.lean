/- RefLex, RefLex2, RefLex3, in one text. -/
import Derived.Test.YtagacfcpepoaoaaGreatDoorRows
import Derived.Test.YtagacfcpepoaoaaGreatDoorMSpec
import Derived.Test.YtagacfcpepoaoaaGreatDoorMGen
import Derived.WalkKit
import Derived.Test.YtagacfcpepoaoaaGreatDoorTreeRef2
namespace Go.Proofs.YtagacfcpepoaoaaGreatDoor
open Go.RowKit
set_option linter.unusedVariables false

theorem blank_any (n : Nat) (w : World) :
    Calls Tryz.prog 73 #[.int .u8 (n : Int)] w fun e w' => e = .returned (.bool (isBl n)) ∧ w' = w := by
  go_enter Tryz.func73, Tryz.ntmps73
  go_wp2
  all_goals go_ret
  all_goals refine ⟨congrArg (fun b => Ending.returned (Value.bool b)) ?_, rfl⟩
  all_goals (rw [Bool.eq_iff_iff]; simp [isBl]; try omega)
theorem drop_at {l : List UInt8} {k : Nat} (h : k < l.length) : l.drop k = l.getD k 0 :: l.drop (k + 1) := by
  rw [List.drop_eq_getElem_cons h, List.getD_eq_getElem?_getD, List.getElem?_eq_getElem h]
  rfl
theorem rn_hit {p : Nat → Bool} {l : List UInt8} {k : Nat} (h : k < l.length) (hp : p (bt l k) = true) : rn p (l.drop k) = 1 + rn p (l.drop (k + 1)) := by
  rw [drop_at h]
  exact if_pos hp
theorem rn_miss {p : Nat → Bool} {l : List UInt8} {k : Nat} (h : k < l.length) (hp : p (bt l k) = false) : rn p (l.drop k) = 0 := by
  rw [drop_at h]
  exact if_neg (fun g => by rw [show bt l k = (l.getD k 0).toNat from rfl, g] at hp; cases hp)
theorem rn_end {p : Nat → Bool} {l : List UInt8} {k : Nat} (h : l.length ≤ k) : rn p (l.drop k) = 0 := by
  rw [List.drop_of_length_le h]; rfl
end Go.Proofs.YtagacfcpepoaoaaGreatDoor

namespace Go.Proofs.YtagacfcpepoaoaaGreatDoor
open Go.RowKit
set_option linter.unusedVariables false

theorem skp_end {b : Bool} {l : List UInt8} {k : Nat} (h : l.length ≤ k) : skp b (l.drop k) = 0 := by
  rw [List.drop_of_length_le h]; cases b <;> rfl
theorem skp_hash {l : List UInt8} {k : Nat} (h : k < l.length) (hb : bt l k = 35) : skp false (l.drop k) = 1 + skp true (l.drop (k + 1)) := by
  rw [drop_at h]; exact if_pos hb
theorem skp_bl {l : List UInt8} {k : Nat} (h : k < l.length) (h35 : ¬ bt l k = 35) (hb : isBl (bt l k) = true) : skp false (l.drop k) = 1 + skp false (l.drop (k + 1)) := by
  rw [drop_at h]; exact (if_neg h35).trans (if_pos hb)
theorem skp_no {l : List UInt8} {k : Nat} (h : k < l.length) (h35 : ¬ bt l k = 35) (hb : ¬ isBl (bt l k) = true) : skp false (l.drop k) = 0 := by
  rw [drop_at h]; exact (if_neg h35).trans (if_neg hb)
theorem skp_in {l : List UInt8} {k : Nat} (h : k < l.length) (hb : ¬ bt l k = 10) : skp true (l.drop k) = 1 + skp true (l.drop (k + 1)) := by
  rw [drop_at h]; exact if_neg hb
theorem skp_out {l : List UInt8} {k : Nat} (h : k < l.length) (hb : bt l k = 10) : skp true (l.drop k) = skp false (l.drop k) := by
  rw [drop_at h]
  have h1 : skp true (l.getD k 0 :: l.drop (k + 1)) = 1 + skp false (l.drop (k + 1)) := if_pos hb
  have h2 : skp false (l.getD k 0 :: l.drop (k + 1)) = 1 + skp false (l.drop (k + 1)) := (if_neg (fun g => by rw [show (l.getD k 0).toNat = bt l k from rfl, hb] at g; cases g)).trans (if_pos (by rw [show (l.getD k 0).toNat = bt l k from rfl, hb]; rfl))
  rw [h1, h2]
/-- the document's own -/
theorem refSkip_any (s : ByteArray) (w : World) (hs : s.size ≤ 1000000000) :
    Calls Tryz.prog 47 #[.string s] w fun e w' => e = .returned (.int .i64 ((skp false s.data.toList : Nat) : Int)) ∧ w' = w := by
  obtain ⟨l, hl⟩ : ∃ l, l = s.data.toList := ⟨_, rfl⟩
  have hlen : l.length = s.size := by rw [hl]; exact Array.length_toList
  have HLEN := hidden hlen
  rw [← hl]
  have HL := hidden hl
  obtain ⟨m, hm⟩ : ∃ m, m = skp false l := ⟨_, rfl⟩
  have HM := hidden hm
  rw [← hm]
  clear hl hlen hm
  go_enter Tryz.func47, Tryz.ntmps47
  go_wp2_with fail
  go_loop [3, 4] (fun b i => ∃ (k : Nat) (r : Bool), k ≤ s.size ∧ b = .bool r ∧ i = .int .i64 (k : Int) ∧ Hid (m = k + skp r (l.drop k))) (fun _ i => s.size - (intOf i).toNat)
  case atStart => exact ⟨0, false, Nat.zero_le _, rfl, rfl, (show m = 0 + skp false (l.drop 0) by rw [HM.out, List.drop_zero]; omega)⟩
  case round =>
    obtain ⟨k, r, hk, rfl, rfl, hK⟩ := hrel
    by_cases hlt : k < s.size
    · have hkl : Hid (k < l.length) := by show k < l.length; rw [HLEN.out]; exact hlt
      have hb := bt_of HL.out hlt
      obtain ⟨c, hc⟩ : ∃ c, c = bt l k := ⟨_, rfl⟩
      rw [← hc] at hb
      have HC := hidden hc
      clear hc
      by_cases h35 : c = 35
      · have t1 : ((s[k].toNat : Int) == 35) = true := by rw [← hb, h35]; rfl
        have t2 : ((s[k].toNat : Int) == 10) = false := by rw [← hb, h35]; rfl
        have H35 := hidden h35
        have HB := hidden hb
        clear h35 hb
        have hN : Hid (m = k + 1 + skp true (l.drop (k + 1))) := by
          show m = k + 1 + skp true (l.drop (k + 1))
          rw [hK.out]
          cases r with
          | true => rw [skp_in hkl.out (by rw [← HC.out, H35.out]; decide)]; omega
          | false => rw [skp_hash hkl.out (by rw [← HC.out, H35.out])]; omega
        go_wp2_with fail
        go_round
        case rel => exact ⟨k + 1, true, by omega, rfl, by go_num, hN⟩
        case measure => simp [intOf]; omega
      · have t1 : ((s[k].toNat : Int) == 35) = false := by rw [← hb]; simp; omega
        have H35 := hidden h35
        clear h35
        by_cases h10 : c = 10
        · have t2 : ((s[k].toNat : Int) == 10) = true := by rw [← hb, h10]; rfl
          have H10 := hidden h10
          have HB := hidden hb
          clear h10 hb
          have hN : Hid (m = k + 1 + skp false (l.drop (k + 1))) := by
            show m = k + 1 + skp false (l.drop (k + 1))
            have e : skp false (l.drop k) = 1 + skp false (l.drop (k + 1)) := skp_bl hkl.out (by rw [← HC.out]; exact H35.out) (by rw [← HC.out, H10.out]; rfl)
            rw [hK.out]
            cases r with
            | true => rw [skp_out hkl.out (by rw [← HC.out, H10.out]), e]; omega
            | false => rw [e]; omega
          go_wp2_with fail
          refine (blank_any s[k].toNat w).mono ?_
          rintro e w1 ⟨rfl, hw1⟩
          rw [hw1, show isBl s[k].toNat = true by rw [← HB.out, H10.out]; rfl]; clear hw1 w1
          go_wp2_with fail
          go_round
          case rel => exact ⟨k + 1, false, by omega, rfl, by go_num, hN⟩
          case measure => simp [intOf]; omega
        · have t2 : ((s[k].toNat : Int) == 10) = false := by rw [← hb]; simp; omega
          have H10 := hidden h10
          have HB := hidden hb
          clear h10 hb
          cases r with
          | true =>
            have hN : Hid (m = k + 1 + skp true (l.drop (k + 1))) := by
              show m = k + 1 + skp true (l.drop (k + 1))
              rw [hK.out, skp_in hkl.out (by rw [← HC.out]; exact H10.out)]
              omega
            go_wp2_with fail
            go_round
            case rel => exact ⟨k + 1, true, by omega, rfl, by go_num, hN⟩
            case measure => simp [intOf]; omega
          | false =>
            go_wp2_with fail
            refine (blank_any s[k].toNat w).mono ?_
            rintro e w1 ⟨rfl, hw1⟩
            rw [hw1, ← HB.out]; clear hw1 w1
            cases hbl : isBl c with
            | true =>
              have HBL := hidden hbl
              clear hbl
              have hN : Hid (m = k + 1 + skp false (l.drop (k + 1))) := by
                show m = k + 1 + skp false (l.drop (k + 1))
                rw [hK.out, skp_bl hkl.out (by rw [← HC.out]; exact H35.out) (by rw [← HC.out]; exact HBL.out)]
                omega
              go_wp2_with fail
              go_round
              case rel => exact ⟨k + 1, false, by omega, rfl, by go_num, hN⟩
              case measure => simp [intOf]; omega
            | false =>
              have HBL := hidden hbl
              clear hbl
              go_wp2_with fail
              go_ret
              refine ⟨?_, rfl⟩
              rw [hK.out, skp_no hkl.out (by rw [← HC.out]; exact H35.out) (by rw [← HC.out, HBL.out]; decide)]
              rfl
    · obtain rfl : k = s.size := by omega
      go_wp2_with fail
      go_ret
      refine ⟨?_, rfl⟩
      rw [hK.out, skp_end (by rw [HLEN.out]; exact Nat.le_refl _)]
      rfl
end Go.Proofs.YtagacfcpepoaoaaGreatDoor

namespace Go.Proofs.YtagacfcpepoaoaaGreatDoor
open Go.RowKit
set_option linter.unusedVariables false

/-- the number's part up to k -/
theorem num_next {l : List UInt8} {k : Nat} (h : k < l.length) : num (l.take (k + 1)) = nstep (num (l.take k)) (l.getD k 0) := by
  unfold num
  rw [take_next h, List.foldl_append]
  rfl
theorem num_none : ∀ l : List UInt8, l.foldl nstep none = none
  | [] => rfl
  | c :: cs => num_none cs
theorem num_stop {l : List UInt8} {k : Nat} (h : num (l.take k) = none) : num l = none := by
  have e : num l = (l.drop k).foldl nstep (num (l.take k)) := by
    unfold num
    rw [← List.foldl_append, List.take_append_drop]
  rw [e, h, num_none]
theorem num_le {l : List UInt8} : ∀ {n k : Nat}, num (l.take k) = some n → n ≤ 9223372036854775807
  | n, 0, h => by
    simp [num] at h
    omega
  | n, k + 1, h => by
    rcases Nat.lt_or_ge k l.length with g | g
    · rw [num_next g] at h
      unfold nstep at h
      split at h
      · cases h
      · split at h
        · injection h with h; omega
        · cases h
    · rw [List.take_of_length_le (by omega)] at h
      refine num_le (l := l) (k := k) ?_
      rw [List.take_of_length_le g]
      exact h
/-- what number tells -/
def numV (l : List UInt8) : Value := match num l with
  | some n => .tuple #[.int .i64 (n : Int), .bool true]
  | none => .tuple #[.int .i64 0, .bool false]
theorem dgt_u8 (n : Nat) (h : n < 256) : IntKind.u8.wrap ((n : Int) - 48) = (((n + 208) % 256 : Nat) : Int) := by
  rw [IntKind.wrap_u8]; omega
end Go.Proofs.YtagacfcpepoaoaaGreatDoor

namespace Go.Proofs.YtagacfcpepoaoaaGreatDoor
open Go.RowKit
set_option linter.unusedVariables false

theorem rnumber_any (s : ByteArray) (w : World) (hs : s.size ≤ 1000000000) (hall : ∀ k, k < s.data.toList.length → isDg (bt s.data.toList k) = true) :
    Calls Tryz.prog 75 #[.string s] w fun e w' => e = .returned (numV s.data.toList) ∧ w' = w := by
  obtain ⟨l, hl⟩ : ∃ l, l = s.data.toList := ⟨_, rfl⟩
  have hlen : l.length = s.size := by rw [hl]; exact Array.length_toList
  have HLEN := hidden hlen
  rw [← hl] at hall ⊢
  have HL := hidden hl
  have HALL := hidden hall
  clear hl hlen hall
  go_enter Tryz.func75, Tryz.ntmps75
  go_wp2_with fail
  go_loop [4, 5] (fun a i => ∃ k n : Nat, k ≤ s.size ∧ n ≤ 9223372036854775807 ∧ a = .int .i64 (n : Int) ∧ i = .int .i64 (k : Int) ∧ Hid (num (l.take k) = some n)) (fun _ i => s.size - (intOf i).toNat)
  case atStart => exact ⟨0, 0, Nat.zero_le _, by omega, rfl, rfl, (show num (l.take 0) = some 0 from rfl)⟩
  case round =>
    obtain ⟨k, n, hk, hn, rfl, rfl, hK⟩ := hrel
    by_cases hlt : k < s.size
    · have hkl : Hid (k < l.length) := by show k < l.length; rw [HLEN.out]; exact hlt
      have hb := bt_of HL.out hlt
      have hu : s[k].toNat < 256 := UInt8.toNat_lt _
      have hd := dgt_u8 s[k].toNat hu
      have hd9 : (s[k].toNat + 208) % 256 ≤ 9 := by
        have h9 := HALL.out k hkl.out
        rw [hb] at h9
        unfold isDg at h9
        simp only [Bool.and_eq_true, decide_eq_true_eq] at h9
        omega
      obtain ⟨d, hdd⟩ : ∃ d, d = (s[k].toNat + 208) % 256 := ⟨_, rfl⟩
      rw [← hdd] at hd hd9
      have HD : Hid (d = dgt (l.getD k 0)) := by
        show d = dgt (l.getD k 0)
        unfold dgt
        rw [show (l.getD k 0).toNat = bt l k from rfl, hb]
        exact hdd
      clear hdd hb hu
      by_cases hfit : n * 10 + d ≤ 9223372036854775807
      · have HN : Hid (num (l.take (k + 1)) = some (n * 10 + d)) := by
          show num (l.take (k + 1)) = some (n * 10 + d)
          rw [num_next hkl.out, hK.out, HD.out]
          unfold nstep
          rw [← HD.out]
          exact if_pos hfit
        have hle : ¬ (922337203685477580 : Int) < (n : Int) := by omega
        by_cases heq : n = 922337203685477580
        · have he1 : ((n : Int) == 922337203685477580) = true := by rw [heq]; rfl
          have hd7 : ¬ (7 : Int) < (d : Int) := by omega
          have HEQ := hidden heq
          clear heq
          go_wp2_with fail
          go_round
          case rel => exact ⟨k + 1, n * 10 + d, by omega, hfit, by go_num, by go_num, HN⟩
          case measure => simp [intOf]; omega
        · have he1 : ((n : Int) == 922337203685477580) = false := by simp; omega
          have HEQ := hidden heq
          clear heq
          go_wp2_with fail
          go_round
          case rel => exact ⟨k + 1, n * 10 + d, by omega, hfit, by go_num, by go_num, HN⟩
          case measure => simp [intOf]; omega
      · have HN : Hid (num l = none) := by
          show num l = none
          refine num_stop (k := k + 1) ?_
          rw [num_next hkl.out, hK.out]
          unfold nstep
          rw [← HD.out]
          exact if_neg hfit
        by_cases hgt : 922337203685477580 < n
        · have hle : (922337203685477580 : Int) < (n : Int) := by omega
          go_wp2_with fail
          go_ret2
          refine ⟨?_, rfl⟩
          unfold numV
          rw [HN.out]
          rfl
        · have hle : ¬ (922337203685477580 : Int) < (n : Int) := by omega
          have he1 : ((n : Int) == 922337203685477580) = true := by simp; omega
          have hd7 : (7 : Int) < (d : Int) := by omega
          go_wp2_with fail
          go_ret2
          refine ⟨?_, rfl⟩
          unfold numV
          rw [HN.out]
          rfl
    · obtain rfl : k = s.size := by omega
      go_wp2_with fail
      go_ret2
      refine ⟨?_, rfl⟩
      have h := hK.out
      rw [List.take_of_length_le (by rw [HLEN.out]; exact Nat.le_refl _)] at h
      unfold numV
      rw [h]
      rfl
/-- signs of two bytes, and of one -/
def twos : List (List UInt8) := [[124, 124], [38, 38], [61, 61], [33, 61], [60, 61], [62, 61], [43, 37], [45, 37], [42, 37]]
def ones : List UInt8 := [60, 62, 43, 45, 42, 47, 37, 33, 61, 40, 41, 123, 125, 91, 93, 44, 59]
def twoCells : Array Value := (twos.map txt).toArray
theorem twos_at {j : Nat} (hj : j < 9) : twoCells[j]? = some (txt (twos.getD j [])) := by
  unfold twoCells
  have hj' : j < twos.length := hj
  rw [List.getElem?_toArray, List.getElem?_map, List.getElem?_eq_getElem hj', List.getD_eq_getElem?_getD, List.getElem?_eq_getElem hj']
  rfl
theorem sgn_two {a b : UInt8} {j : Nat} (hj : j < 9) (h : [a, b] = twos.getD j []) : sgn a.toNat b.toNat = 2 := by
  have : j = 0 ∨ j = 1 ∨ j = 2 ∨ j = 3 ∨ j = 4 ∨ j = 5 ∨ j = 6 ∨ j = 7 ∨ j = 8 := by omega
  rcases this with rfl | rfl | rfl | rfl | rfl | rfl | rfl | rfl | rfl <;> (injection h with h1 h2; injection h2 with h2 _; subst h1 h2; decide)
theorem un_eq {a : UInt8} (n : UInt8) (h : a.toNat = n.toNat) : a = n := UInt8.toNat_inj.1 h
theorem not_two {a b : UInt8} (h : ∀ j, j < 9 → [a, b] ≠ twos.getD j []) :
    (a.toNat = 124 ∨ a.toNat = 38 → b.toNat ≠ a.toNat) ∧ (a.toNat = 43 ∨ a.toNat = 45 ∨ a.toNat = 42 → b.toNat ≠ 37) ∧ (a.toNat = 61 ∨ a.toNat = 33 ∨ a.toNat = 60 ∨ a.toNat = 62 → b.toNat ≠ 61) := by
  refine ⟨?_, ?_, ?_⟩
  · rintro (g | g) e
    · rw [un_eq 124 g, un_eq 124 (e.trans g)] at h; exact h 0 (by omega) rfl
    · rw [un_eq 38 g, un_eq 38 (e.trans g)] at h; exact h 1 (by omega) rfl
  · rintro (g | g | g) e
    · rw [un_eq 43 g, un_eq 37 e] at h; exact h 6 (by omega) rfl
    · rw [un_eq 45 g, un_eq 37 e] at h; exact h 7 (by omega) rfl
    · rw [un_eq 42 g, un_eq 37 e] at h; exact h 8 (by omega) rfl
  · rintro (g | g | g | g) e
    · rw [un_eq 61 g, un_eq 61 e] at h; exact h 2 (by omega) rfl
    · rw [un_eq 33 g, un_eq 61 e] at h; exact h 3 (by omega) rfl
    · rw [un_eq 60 g, un_eq 61 e] at h; exact h 4 (by omega) rfl
    · rw [un_eq 62 g, un_eq 61 e] at h; exact h 5 (by omega) rfl
theorem sgn_one {a b : UInt8} (h : ∀ j, j < 9 → [a, b] ≠ twos.getD j []) {j : Nat} (hj : j < 17) (he : a = ones.getD j 0) : sgn a.toNat b.toNat = 1 := by
  obtain ⟨h1, h2, h3⟩ := not_two h
  have : j = 0 ∨ j = 1 ∨ j = 2 ∨ j = 3 ∨ j = 4 ∨ j = 5 ∨ j = 6 ∨ j = 7 ∨ j = 8 ∨ j = 9 ∨ j = 10 ∨ j = 11 ∨ j = 12 ∨ j = 13 ∨ j = 14 ∨ j = 15 ∨ j = 16 := by omega
  obtain ⟨B, hB⟩ : ∃ B, B = b.toNat := ⟨_, rfl⟩
  rw [← hB] at h1 h2 h3 ⊢
  unfold sgn
  rcases this with rfl | rfl | rfl | rfl | rfl | rfl | rfl | rfl | rfl | rfl | rfl | rfl | rfl | rfl | rfl | rfl | rfl <;> (obtain ⟨A, hA⟩ : ∃ A, A = a.toNat := ⟨_, rfl⟩; rw [← hA] at h1 h2 h3 ⊢; rw [he] at hA; simp only [ones, List.getD_cons_zero, List.getD_cons_succ] at hA; simp at hA; subst hA; simp at h1 h2 h3 ⊢; try assumption)
theorem sgn_none {a b : UInt8} (h : ∀ j, j < 9 → [a, b] ≠ twos.getD j []) (ho : ∀ j, j < 17 → a ≠ ones.getD j 0) : sgn a.toNat b.toNat = 0 := by
  obtain ⟨h1, _, _⟩ := not_two h
  have k : ∀ n : UInt8, (∃ j, j < 17 ∧ ones.getD j 0 = n) → a.toNat ≠ n.toNat := by
    rintro n ⟨j, hj, e⟩ g
    exact ho j hj (by rw [e]; exact un_eq n g)
  have e0 := k 60 ⟨0, by omega, rfl⟩
  have e1 := k 62 ⟨1, by omega, rfl⟩
  have e2 := k 43 ⟨2, by omega, rfl⟩
  have e3 := k 45 ⟨3, by omega, rfl⟩
  have e4 := k 42 ⟨4, by omega, rfl⟩
  have e5 := k 47 ⟨5, by omega, rfl⟩
  have e6 := k 37 ⟨6, by omega, rfl⟩
  have e7 := k 33 ⟨7, by omega, rfl⟩
  have e8 := k 61 ⟨8, by omega, rfl⟩
  have e9 := k 40 ⟨9, by omega, rfl⟩
  have e10 := k 41 ⟨10, by omega, rfl⟩
  have e11 := k 123 ⟨11, by omega, rfl⟩
  have e12 := k 125 ⟨12, by omega, rfl⟩
  have e13 := k 91 ⟨13, by omega, rfl⟩
  have e14 := k 93 ⟨14, by omega, rfl⟩
  have e15 := k 44 ⟨15, by omega, rfl⟩
  have e16 := k 59 ⟨16, by omega, rfl⟩
  simp only [UInt8.reduceToNat] at e0 e1 e2 e3 e4 e5 e6 e7 e8 e9 e10 e11 e12 e13 e14 e15 e16
  unfold sgn
  by_cases g : a.toNat = 124 ∨ a.toNat = 38
  · rw [if_pos g, if_neg (h1 g)]
  · rw [if_neg g, if_neg (by omega), if_neg (by omega), if_neg (by omega)]
theorem ones_size : (⟨ones.toArray⟩ : ByteArray).size = 17 := rfl
end Go.Proofs.YtagacfcpepoaoaaGreatDoor

namespace Go.Proofs.YtagacfcpepoaoaaGreatDoor
open Go.RowKit
set_option linter.unusedVariables false

theorem ext_two {s : ByteArray} {l : List UInt8} (hl : l = s.data.toList) (h : 2 ≤ s.size) : (s.extract 0 2).toList = [l.getD 0 0, l.getD 1 0] := by
  rw [toList_of, extract_take, ← hl]
  have hlen : l.length = s.size := by rw [hl]; exact Array.length_toList
  match l, hlen with
  | [], e => simp at e; omega
  | [a], e => simp at e; omega
  | a :: b :: r, e => rfl
theorem two_end {a : UInt8} : ∀ j, j < 9 → [a, 0] ≠ twos.getD j [] := by
  intro j hj
  have : j = 0 ∨ j = 1 ∨ j = 2 ∨ j = 3 ∨ j = 4 ∨ j = 5 ∨ j = 6 ∨ j = 7 ∨ j = 8 := by omega
  rcases this with rfl | rfl | rfl | rfl | rfl | rfl | rfl | rfl | rfl <;> (intro h; injection h with _ h2; injection h2 with h2 _; revert h2; decide)
theorem ones_get {O : ByteArray} (hO : O = ⟨ones.toArray⟩) {k : Nat} (hk : k < O.size) : O[k] = ones.getD k 0 := by
  subst hO
  have hk' : k < ones.length := hk
  rw [List.getD_eq_getElem?_getD, List.getElem?_eq_getElem hk']
  rfl
set_option maxRecDepth 100000 in
theorem rsign_any (s : ByteArray) (w : World) (hs : s.size ≤ 1000000000) (h1 : 1 ≤ s.size) :
    Calls Tryz.prog 78 #[.string s] w fun e w' => e = .returned (.int .i64 (sgn (bt s.data.toList 0) (bt s.data.toList 1) : Nat)) ∧ Below w.heap.size w w' := by
  obtain ⟨l, hl⟩ : ∃ l, l = s.data.toList := ⟨_, rfl⟩
  have HLEN : Hid (l.length = s.size) := by rw [hl]; exact Array.length_toList
  rw [← hl]
  have HL := hidden hl
  have H0 : Hid (s[0] = l.getD 0 0) := by
    show s[0] = l.getD 0 0
    rw [hl, List.getD_eq_getElem?_getD, List.getElem?_eq_getElem (by rw [length_of]; omega)]
    rfl
  clear hl
  obtain ⟨O, hO⟩ : ∃ O : ByteArray, O = ⟨ones.toArray⟩ := ⟨_, rfl⟩
  have hOs : O.size = 17 := by rw [hO]; rfl
  go_enter Tryz.func78, Tryz.ntmps78
  go_wp2_with fail
  rw [show (⟨#[60, 62, 43, 45, 42, 47, 37, 33, 61, 40, 41, 123, 125, 91, 93, 44, 59]⟩ : ByteArray) = O from hO.symm]
  have HO := hidden hO
  have HOS := hidden hOs
  clear hO hOs
  obtain ⟨W, hW⟩ : ∃ W, W = w.alloc (.cells twoCells 9) := ⟨_, rfl⟩
  rw [show w.alloc (.cells #[.string ⟨#[124, 124]⟩, .string ⟨#[38, 38]⟩, .string ⟨#[61, 61]⟩, .string ⟨#[33, 61]⟩, .string ⟨#[60, 61]⟩, .string ⟨#[62, 61]⟩, .string ⟨#[43, 37]⟩, .string ⟨#[45, 37]⟩, .string ⟨#[42, 37]⟩] 9) = W from hW.symm]
  have HB : Hid (Below w.heap.size w W) := by rw [hW]; exact (Below.refl _ _).alloc (Nat.le_refl _) _
  have HH : Hid (Held W w.heap.size 9 twoCells) := by rw [hW]; exact Held.new w 9 twoCells
  obtain ⟨g, hg⟩ : ∃ g, g = w.heap.size := ⟨_, rfl⟩
  rw [← hg] at HH ⊢
  clear hg hW
  go_loopw [5] (fun i wr => ∃ k q : Nat, k ≤ 9 ∧ i = .int .i64 (k : Int) ∧ wr = W.drewN q ∧ Hid (2 ≤ s.size → ∀ j, j < k → [l.getD 0 0, l.getD 1 0] ≠ twos.getD j [])) (fun i _ => 9 - (intOf i).toNat)
  case atStart => exact ⟨0, 0, by omega, rfl, rfl, fun _ j hj => by omega⟩
  case round =>
    obtain ⟨k, q, hk, rfl, rfl, hK⟩ := hrel
    have next : Hid (∀ q : Nat, (∀ j, j < 9 → [l.getD 0 0, l.getD 1 0] ≠ twos.getD j []) → True) := fun _ _ => trivial
    by_cases hgo : k < 9 ∧ 2 ≤ s.size
    · obtain ⟨hk9, h2⟩ := hgo
      have hTL := ext_two HL.out h2
      have hc := HH.out.at_ (twos_at hk9)
      unfold txt at hc
      obtain ⟨c, hcc⟩ : ∃ c, c = twos.getD k [] := ⟨_, rfl⟩
      rw [← hcc] at hc
      have HC := hidden hcc
      clear hcc
      have h2i : (2 : Int) ≤ (s.size : Int) := by omega
      obtain ⟨X, hX⟩ : ∃ X, X = s.extract 0 2 := ⟨_, rfl⟩
      rw [← hX] at hTL
      have hXX : s.extract 0 2 = X := hX.symm
      have HTL := hidden hTL
      clear hTL hX
      by_cases hE : [l.getD 0 0, l.getD 1 0] = c
      · have he' : (X.toList == c) = true := by rw [HTL.out]; simpa using hE
        have he2 : (c == X.toList) = true := by rw [HTL.out]; simpa using hE.symm
        have HE := hidden hE
        clear hE
        go_wp2_with fail
        go_quiet (fail)
        go_wp2_with fail
        go_ret
        refine ⟨?_, HB.out.trans (by rw [World.drewN_drewN]; exact below_drewN _ _ _)⟩
        have := sgn_two hk9 (HE.out.trans HC.out)
        unfold bt
        rw [this]
        rfl
      · have he' : (X.toList == c) = false := by rw [HTL.out]; simpa using hE
        have he2 : (c == X.toList) = false := by rw [HTL.out]; simpa using fun h : c = _ => hE h.symm
        have HE := hidden hE
        clear hE
        go_wp2_with fail
        go_quiet (fail)
        go_wp2_with fail
        go_roundw
        case rel => exact ⟨k + 1, q + nq, by omega, by go_num, rfl, fun h j hj => by
          rcases Nat.lt_or_ge j k with g | g
          · exact hK.out h j g
          · obtain rfl : j = k := by omega
            rw [← HC.out]
            exact HE.out⟩
        case measure => simp [intOf]; omega
    · have HNT : Hid (∀ j, j < 9 → [l.getD 0 0, l.getD 1 0] ≠ twos.getD j []) := by
        intro j hj
        rcases Nat.lt_or_ge s.size 2 with h2 | h2
        · have e : l.getD 1 0 = 0 := by rw [List.getD_eq_getElem?_getD, List.getElem?_eq_none (by rw [HLEN.out]; omega)]; rfl
          rw [e]
          exact two_end j hj
        · exact hK.out h2 j (by omega)
      clear next
      obtain ⟨V, hV⟩ : ∃ V, V = W.drewN q := ⟨_, rfl⟩
      have HBV : Hid (Below w.heap.size w V) := by rw [hV]; exact HB.out.trans (below_drewN _ _ _)
      have hdone : (k < 9 ∧ s.size < 2) ∨ k = 9 := by omega
      clear hgo
      rw [← hV]
      clear hV
      rcases hdone with ⟨hk9, h2⟩ | h9
      · have h2i : ¬ (2 : Int) ≤ (s.size : Int) := by omega
        go_wp2_with fail
        go_loopw [6] (fun i wr => ∃ k q : Nat, k ≤ O.size ∧ i = .int .i64 (k : Int) ∧ wr = V.drewN q ∧ Hid (∀ j, j < k → l.getD 0 0 ≠ ones.getD j 0)) (fun i _ => O.size - (intOf i).toNat)
        case atStart => exact ⟨0, 0, by omega, rfl, rfl, fun j hj => by omega⟩
        case round =>
          obtain ⟨m, q, hm, rfl, rfl, hK⟩ := hrel
          have h01 : 0 < s.size := by omega
          have hm17 : m ≤ 17 := by rw [← HOS.out]; exact hm
          have h02 : (0 : Int) < (s.size : Int) := by omega
          by_cases hmO : m < O.size
          · have hOm := ones_get HO.out hmO
            have HOM := hidden hOm
            clear hOm
            have HM17 : Hid (m < 17) := by show m < 17; rw [← HOS.out]; exact hmO
            by_cases hE : s[0].toNat = O[m].toNat
            · have he' : ((s[0].toNat : Int) == (O[m].toNat : Int)) = true := by simp [hE]
              have he2 : (s[0].toNat == O[m].toNat) = true := by simp [hE]
              have HE := hidden hE
              clear hE
              go_wp2_with fail
              go_quiet (fail)
              go_wp2_with fail
              go_ret
              refine ⟨?_, HBV.out.trans (by rw [World.drewN_drewN]; exact below_drewN _ _ _)⟩
              have := sgn_one HNT.out HM17.out (by rw [← HOM.out, ← H0.out]; exact UInt8.toNat_inj.1 HE.out)
              unfold bt
              rw [this]
              rfl
            · have he' : ((s[0].toNat : Int) == (O[m].toNat : Int)) = false := by simp; omega
              have he2 : (s[0].toNat == O[m].toNat) = false := by simp; omega
              have HE := hidden hE
              clear hE
              go_wp2_with fail
              go_quiet (fail)
              go_wp2_with fail
              go_roundw
              case rel => exact ⟨m + 1, q + nq, by omega, by go_num, rfl, fun j hj => by
                rcases Nat.lt_or_ge j m with g | g
                · exact hK.out j g
                · obtain rfl : j = m := by omega
                  rw [← HOM.out, ← H0.out]
                  exact fun e => HE.out (congrArg UInt8.toNat e)⟩
              case measure => simp [intOf]; omega
          · go_wp2_with fail
            go_ret
            refine ⟨?_, HBV.out.trans (below_drewN _ _ _)⟩
            have hm18 : m = 17 := by have := HOS.out; omega
            have := sgn_none HNT.out (fun j hj => hK.out j (by omega))
            unfold bt
            rw [this]
            rfl
      · subst h9
        go_wp2_with fail
        go_loopw [6] (fun i wr => ∃ k q : Nat, k ≤ O.size ∧ i = .int .i64 (k : Int) ∧ wr = V.drewN q ∧ Hid (∀ j, j < k → l.getD 0 0 ≠ ones.getD j 0)) (fun i _ => O.size - (intOf i).toNat)
        case atStart => exact ⟨0, 0, by omega, rfl, rfl, fun j hj => by omega⟩
        case round =>
          obtain ⟨m, q, hm, rfl, rfl, hK⟩ := hrel
          have h01 : 0 < s.size := by omega
          have hm17 : m ≤ 17 := by rw [← HOS.out]; exact hm
          have h02 : (0 : Int) < (s.size : Int) := by omega
          by_cases hmO : m < O.size
          · have hOm := ones_get HO.out hmO
            have HOM := hidden hOm
            clear hOm
            have HM17 : Hid (m < 17) := by show m < 17; rw [← HOS.out]; exact hmO
            by_cases hE : s[0].toNat = O[m].toNat
            · have he' : ((s[0].toNat : Int) == (O[m].toNat : Int)) = true := by simp [hE]
              have he2 : (s[0].toNat == O[m].toNat) = true := by simp [hE]
              have HE := hidden hE
              clear hE
              go_wp2_with fail
              go_quiet (fail)
              go_wp2_with fail
              go_ret
              refine ⟨?_, HBV.out.trans (by rw [World.drewN_drewN]; exact below_drewN _ _ _)⟩
              have := sgn_one HNT.out HM17.out (by rw [← HOM.out, ← H0.out]; exact UInt8.toNat_inj.1 HE.out)
              unfold bt
              rw [this]
              rfl
            · have he' : ((s[0].toNat : Int) == (O[m].toNat : Int)) = false := by simp; omega
              have he2 : (s[0].toNat == O[m].toNat) = false := by simp; omega
              have HE := hidden hE
              clear hE
              go_wp2_with fail
              go_quiet (fail)
              go_wp2_with fail
              go_roundw
              case rel => exact ⟨m + 1, q + nq, by omega, by go_num, rfl, fun j hj => by
                rcases Nat.lt_or_ge j m with g | g
                · exact hK.out j g
                · obtain rfl : j = m := by omega
                  rw [← HOM.out, ← H0.out]
                  exact fun e => HE.out (congrArg UInt8.toNat e)⟩
              case measure => simp [intOf]; omega
          · go_wp2_with fail
            go_ret
            refine ⟨?_, HBV.out.trans (below_drewN _ _ _)⟩
            have hm18 : m = 17 := by have := HOS.out; omega
            have := sgn_none HNT.out (fun j hj => hK.out j (by omega))
            unfold bt
            rw [this]
            rfl
end Go.Proofs.YtagacfcpepoaoaaGreatDoor
