/- The walk through measure. -/
import Derived.Test.YtjmhmoigheomdaaDoorLexWord
import Derived.Test.YtjmhmoigheomdaaDoorLexSign
namespace Go.Proofs.YtjmhmoigheomdaaDoor
open Go.RowKit
set_option linter.unusedVariables false

theorem bt_drop (l : List UInt8) (k : Nat) : bt (l.drop k) 0 = bt l k := by
  unfold bt
  rw [List.getD_eq_getElem?_getD, List.getD_eq_getElem?_getD, List.getElem?_drop]
  rfl
theorem tok_letter {l : List UInt8} {k : Nat} (h : k < l.length) (hc : isLt (bt l k) = true) : k0 (l.drop k) = 1 ∧ ln (l.drop k) = rn isWb (l.drop k) := by
  rw [drop_at h]
  exact ⟨if_pos hc, if_pos hc⟩
theorem tok_digit {l : List UInt8} {k : Nat} (h : k < l.length) (hc : isLt (bt l k) = false) (hd : isDg (bt l k) = true) : k0 (l.drop k) = 2 ∧ ln (l.drop k) = rn isDg (l.drop k) := by
  have hc' : ¬ isLt (l.getD k 0).toNat = true := by rw [show (l.getD k 0).toNat = bt l k from rfl, hc]; decide
  rw [drop_at h]
  exact ⟨(if_neg hc').trans (if_pos hd), (if_neg hc').trans (if_pos hd)⟩
theorem tok_sign {l : List UInt8} {k : Nat} (h : k < l.length) (hc : isLt (bt l k) = false) (hd : isDg (bt l k) = false) : k0 (l.drop k) = 4 ∧ ln (l.drop k) = sgn (bt l k) (bt l (k + 1)) := by
  have hc' : ¬ isLt (l.getD k 0).toNat = true := by rw [show (l.getD k 0).toNat = bt l k from rfl, hc]; decide
  have hd' : ¬ isDg (l.getD k 0).toNat = true := by rw [show (l.getD k 0).toNat = bt l k from rfl, hd]; decide
  rw [drop_at h]
  refine ⟨(if_neg hc').trans (if_neg hd'), ((if_neg hc').trans (if_neg hd')).trans ?_⟩
  rw [bt_drop]
  rfl
theorem measure_any (s : ByteArray) (q : Nat) (w : World) (hs : s.size ≤ 1000000000) (hq : q < s.size) :
    Calls Tryd.prog 12 #[.string s, .int .i64 (q : Int)] w fun e w' => e = .returned (.tuple #[.int .i64 (k0 (s.data.toList.drop q) : Int), .int .i64 ((q + ln (s.data.toList.drop q) : Nat) : Int)]) ∧ w' = w := by
  obtain ⟨l, hl⟩ : ∃ l, l = s.data.toList := ⟨_, rfl⟩
  have hlen : l.length = s.size := by rw [hl]; exact Array.length_toList
  have hkl : Hid (q < l.length) := by show q < l.length; rw [hlen]; exact hq
  rw [← hl]
  have HL := hidden hl
  have hb := hidden (bt_of hl hq)
  obtain ⟨K, hK⟩ : ∃ K, K = k0 (l.drop q) := ⟨_, rfl⟩
  obtain ⟨M, hM⟩ : ∃ M, M = q + ln (l.drop q) := ⟨_, rfl⟩
  rw [← hK, ← hM]
  have HK := hidden hK
  have HM := hidden hM
  clear hl hlen hK hM
  go_enter Tryd.func12, Tryd.ntmps12
  go_wp2_with fail
  refine (letter_any s[q].toNat w).mono ?_
  rintro e w1 ⟨rfl, hw1⟩
  rw [hw1, ← hb.out]; clear hw1 w1
  cases hc : isLt (bt l q) with
  | true =>
    have HC := hidden hc
    clear hc
    go_wp2_with fail
    refine (runEnd_word s q w hs (by omega)).mono ?_
    rintro e w1 ⟨rfl, hw1⟩
    rw [hw1, ← HL.out]; clear hw1 w1
    obtain ⟨h1, h2⟩ := tok_letter hkl.out HC.out
    rw [← h2, ← HM.out]
    obtain rfl : K = 1 := by rw [HK.out, h1]
    clear h1 h2
    go_wp2_with fail
    go_ret2
    exact ⟨rfl, rfl⟩
  | false =>
    have HC := hidden hc
    clear hc
    go_wp2_with fail
    refine (digit_any (bt l q) w).mono ?_
    rintro e w1 ⟨rfl, hw1⟩
    rw [hw1]; clear hw1 w1
    cases hd : isDg (bt l q) with
    | true =>
      have HD := hidden hd
      clear hd
      go_wp2_with fail
      refine (runEnd_digit s q w hs (by omega)).mono ?_
      rintro e w1 ⟨rfl, hw1⟩
      rw [hw1, ← HL.out]; clear hw1 w1
      obtain ⟨h1, h2⟩ := tok_digit hkl.out HC.out HD.out
      rw [← h2, ← HM.out]
      obtain rfl : K = 2 := by rw [HK.out, h1]
      clear h1 h2
      go_wp2_with fail
      go_ret2
      exact ⟨rfl, rfl⟩
    | false =>
      have HD := hidden hd
      clear hd
      go_wp2_with fail
      refine (signEnd_any s q w hs hq).mono ?_
      rintro e w1 ⟨rfl, hw1⟩
      rw [hw1, ← HL.out]; clear hw1 w1
      obtain ⟨h1, h2⟩ := tok_sign hkl.out HC.out HD.out
      rw [← h2, ← HM.out]
      obtain rfl : K = 4 := by rw [HK.out, h1]
      clear h1 h2
      go_wp2_with fail
      go_ret2
      exact ⟨rfl, rfl⟩
end Go.Proofs.YtjmhmoigheomdaaDoor
