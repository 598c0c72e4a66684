/- The walks through the reference's number and sign. -/
import Derived.Test.YtnmeijcaaohnpaaDoorRefLex
import Derived.Test.YtnmeijcaaohnpaaDoorTreeRef2
namespace Go.Proofs.YtnmeijcaaohnpaaDoor
open Go.RowKit
set_option linter.unusedVariables false

theorem rnumber_any (s : ByteArray) (w : World) (hs : s.size ≤ 1000000000) (hall : ∀ k, k < s.data.toList.length → isDg (bt s.data.toList k) = true) :
    Calls Tryd.prog 32 #[.string s] w fun e w' => e = .returned (numV s.data.toList) ∧ w' = w := by
  obtain ⟨l, hl⟩ : ∃ l, l = s.data.toList := ⟨_, rfl⟩
  have hlen : l.length = s.size := by rw [hl]; exact Array.length_toList
  have HLEN := hidden hlen
  rw [← hl] at hall ⊢
  have HL := hidden hl
  have HALL := hidden hall
  clear hl hlen hall
  go_enter Tryd.func32, Tryd.ntmps32
  go_wp2_with fail
  go_loop [4, 5] (fun a i => ∃ k n : Nat, k ≤ s.size ∧ n ≤ 9223372036854775807 ∧ a = .int .i64 (n : Int) ∧ i = .int .i64 (k : Int) ∧ Hid (num (l.take k) = some n)) (fun _ i => s.size - (intOf i).toNat)
  case atStart => exact ⟨0, 0, Nat.zero_le _, by omega, rfl, rfl, (show num (l.take 0) = some 0 from rfl)⟩
  case round =>
    obtain ⟨k, n, hk, hn, rfl, rfl, hK⟩ := hrel
    by_cases hlt : k < s.size
    · have hkl : Hid (k < l.length) := by show k < l.length; rw [HLEN.out]; exact hlt
      have hb := bt_of HL.out hlt
      have hu : s[k].toNat < 256 := UInt8.toNat_lt _
      have hd := dgt_u8 s[k].toNat hu
      have hd9 : (s[k].toNat + 208) % 256 ≤ 9 := by
        have h9 := HALL.out k hkl.out
        rw [hb] at h9
        unfold isDg at h9
        simp only [Bool.and_eq_true, decide_eq_true_eq] at h9
        omega
      obtain ⟨d, hdd⟩ : ∃ d, d = (s[k].toNat + 208) % 256 := ⟨_, rfl⟩
      rw [← hdd] at hd hd9
      have HD : Hid (d = dgt (l.getD k 0)) := by
        show d = dgt (l.getD k 0)
        unfold dgt
        rw [show (l.getD k 0).toNat = bt l k from rfl, hb]
        exact hdd
      clear hdd hb hu
      by_cases hfit : n * 10 + d ≤ 9223372036854775807
      · have HN : Hid (num (l.take (k + 1)) = some (n * 10 + d)) := by
          show num (l.take (k + 1)) = some (n * 10 + d)
          rw [num_next hkl.out, hK.out, HD.out]
          unfold nstep
          rw [← HD.out]
          exact if_pos hfit
        have hle : ¬ (922337203685477580 : Int) < (n : Int) := by omega
        by_cases heq : n = 922337203685477580
        · have he1 : ((n : Int) == 922337203685477580) = true := by rw [heq]; rfl
          have hd7 : ¬ (7 : Int) < (d : Int) := by omega
          have HEQ := hidden heq
          clear heq
          go_wp2_with fail
          go_round
          case rel => exact ⟨k + 1, n * 10 + d, by omega, hfit, by go_num, by go_num, HN⟩
          case measure => simp [intOf]; omega
        · have he1 : ((n : Int) == 922337203685477580) = false := by simp; omega
          have HEQ := hidden heq
          clear heq
          go_wp2_with fail
          go_round
          case rel => exact ⟨k + 1, n * 10 + d, by omega, hfit, by go_num, by go_num, HN⟩
          case measure => simp [intOf]; omega
      · have HN : Hid (num l = none) := by
          show num l = none
          refine num_stop (k := k + 1) ?_
          rw [num_next hkl.out, hK.out]
          unfold nstep
          rw [← HD.out]
          exact if_neg hfit
        by_cases hgt : 922337203685477580 < n
        · have hle : (922337203685477580 : Int) < (n : Int) := by omega
          go_wp2_with fail
          go_ret2
          refine ⟨?_, rfl⟩
          unfold numV
          rw [HN.out]
          rfl
        · have hle : ¬ (922337203685477580 : Int) < (n : Int) := by omega
          have he1 : ((n : Int) == 922337203685477580) = true := by simp; omega
          have hd7 : (7 : Int) < (d : Int) := by omega
          go_wp2_with fail
          go_ret2
          refine ⟨?_, rfl⟩
          unfold numV
          rw [HN.out]
          rfl
    · obtain rfl : k = s.size := by omega
      go_wp2_with fail
      go_ret2
      refine ⟨?_, rfl⟩
      have h := hK.out
      rw [List.take_of_length_le (by rw [HLEN.out]; exact Nat.le_refl _)] at h
      unfold numV
      rw [h]
      rfl
/-- signs of two bytes, and of one -/
def twos : List (List UInt8) := [[124, 124], [38, 38], [61, 61], [33, 61], [60, 61], [62, 61], [43, 37], [45, 37], [42, 37]]
def ones : List UInt8 := [60, 62, 43, 45, 42, 47, 37, 33, 61, 40, 41, 123, 125, 91, 93, 44, 59]
def twoCells : Array Value := (twos.map txt).toArray
theorem twos_at {j : Nat} (hj : j < 9) : twoCells[j]? = some (txt (twos.getD j [])) := by
  unfold twoCells
  have hj' : j < twos.length := hj
  rw [List.getElem?_toArray, List.getElem?_map, List.getElem?_eq_getElem hj', List.getD_eq_getElem?_getD, List.getElem?_eq_getElem hj']
  rfl
theorem sgn_two {a b : UInt8} {j : Nat} (hj : j < 9) (h : [a, b] = twos.getD j []) : sgn a.toNat b.toNat = 2 := by
  have : j = 0 ∨ j = 1 ∨ j = 2 ∨ j = 3 ∨ j = 4 ∨ j = 5 ∨ j = 6 ∨ j = 7 ∨ j = 8 := by omega
  rcases this with rfl | rfl | rfl | rfl | rfl | rfl | rfl | rfl | rfl <;> (injection h with h1 h2; injection h2 with h2 _; subst h1 h2; decide)
theorem un_eq {a : UInt8} (n : UInt8) (h : a.toNat = n.toNat) : a = n := UInt8.toNat_inj.1 h
theorem not_two {a b : UInt8} (h : ∀ j, j < 9 → [a, b] ≠ twos.getD j []) :
    (a.toNat = 124 ∨ a.toNat = 38 → b.toNat ≠ a.toNat) ∧ (a.toNat = 43 ∨ a.toNat = 45 ∨ a.toNat = 42 → b.toNat ≠ 37) ∧ (a.toNat = 61 ∨ a.toNat = 33 ∨ a.toNat = 60 ∨ a.toNat = 62 → b.toNat ≠ 61) := by
  refine ⟨?_, ?_, ?_⟩
  · rintro (g | g) e
    · rw [un_eq 124 g, un_eq 124 (e.trans g)] at h; exact h 0 (by omega) rfl
    · rw [un_eq 38 g, un_eq 38 (e.trans g)] at h; exact h 1 (by omega) rfl
  · rintro (g | g | g) e
    · rw [un_eq 43 g, un_eq 37 e] at h; exact h 6 (by omega) rfl
    · rw [un_eq 45 g, un_eq 37 e] at h; exact h 7 (by omega) rfl
    · rw [un_eq 42 g, un_eq 37 e] at h; exact h 8 (by omega) rfl
  · rintro (g | g | g | g) e
    · rw [un_eq 61 g, un_eq 61 e] at h; exact h 2 (by omega) rfl
    · rw [un_eq 33 g, un_eq 61 e] at h; exact h 3 (by omega) rfl
    · rw [un_eq 60 g, un_eq 61 e] at h; exact h 4 (by omega) rfl
    · rw [un_eq 62 g, un_eq 61 e] at h; exact h 5 (by omega) rfl
theorem sgn_one {a b : UInt8} (h : ∀ j, j < 9 → [a, b] ≠ twos.getD j []) {j : Nat} (hj : j < 17) (he : a = ones.getD j 0) : sgn a.toNat b.toNat = 1 := by
  obtain ⟨h1, h2, h3⟩ := not_two h
  have : j = 0 ∨ j = 1 ∨ j = 2 ∨ j = 3 ∨ j = 4 ∨ j = 5 ∨ j = 6 ∨ j = 7 ∨ j = 8 ∨ j = 9 ∨ j = 10 ∨ j = 11 ∨ j = 12 ∨ j = 13 ∨ j = 14 ∨ j = 15 ∨ j = 16 := by omega
  obtain ⟨B, hB⟩ : ∃ B, B = b.toNat := ⟨_, rfl⟩
  rw [← hB] at h1 h2 h3 ⊢
  unfold sgn
  rcases this with rfl | rfl | rfl | rfl | rfl | rfl | rfl | rfl | rfl | rfl | rfl | rfl | rfl | rfl | rfl | rfl | rfl <;> (obtain ⟨A, hA⟩ : ∃ A, A = a.toNat := ⟨_, rfl⟩; rw [← hA] at h1 h2 h3 ⊢; rw [he] at hA; simp only [ones, List.getD_cons_zero, List.getD_cons_succ] at hA; simp at hA; subst hA; simp at h1 h2 h3 ⊢; try assumption)
theorem sgn_none {a b : UInt8} (h : ∀ j, j < 9 → [a, b] ≠ twos.getD j []) (ho : ∀ j, j < 17 → a ≠ ones.getD j 0) : sgn a.toNat b.toNat = 0 := by
  obtain ⟨h1, _, _⟩ := not_two h
  have k : ∀ n : UInt8, (∃ j, j < 17 ∧ ones.getD j 0 = n) → a.toNat ≠ n.toNat := by
    rintro n ⟨j, hj, e⟩ g
    exact ho j hj (by rw [e]; exact un_eq n g)
  have e0 := k 60 ⟨0, by omega, rfl⟩
  have e1 := k 62 ⟨1, by omega, rfl⟩
  have e2 := k 43 ⟨2, by omega, rfl⟩
  have e3 := k 45 ⟨3, by omega, rfl⟩
  have e4 := k 42 ⟨4, by omega, rfl⟩
  have e5 := k 47 ⟨5, by omega, rfl⟩
  have e6 := k 37 ⟨6, by omega, rfl⟩
  have e7 := k 33 ⟨7, by omega, rfl⟩
  have e8 := k 61 ⟨8, by omega, rfl⟩
  have e9 := k 40 ⟨9, by omega, rfl⟩
  have e10 := k 41 ⟨10, by omega, rfl⟩
  have e11 := k 123 ⟨11, by omega, rfl⟩
  have e12 := k 125 ⟨12, by omega, rfl⟩
  have e13 := k 91 ⟨13, by omega, rfl⟩
  have e14 := k 93 ⟨14, by omega, rfl⟩
  have e15 := k 44 ⟨15, by omega, rfl⟩
  have e16 := k 59 ⟨16, by omega, rfl⟩
  simp only [UInt8.reduceToNat] at e0 e1 e2 e3 e4 e5 e6 e7 e8 e9 e10 e11 e12 e13 e14 e15 e16
  unfold sgn
  by_cases g : a.toNat = 124 ∨ a.toNat = 38
  · rw [if_pos g, if_neg (h1 g)]
  · rw [if_neg g, if_neg (by omega), if_neg (by omega), if_neg (by omega)]
theorem ones_size : (⟨ones.toArray⟩ : ByteArray).size = 17 := rfl
end Go.Proofs.YtnmeijcaaohnpaaDoor
