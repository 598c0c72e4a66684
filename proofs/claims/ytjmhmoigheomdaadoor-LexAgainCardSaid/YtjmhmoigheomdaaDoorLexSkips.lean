/- The walks through skip and number. -/
import Derived.Test.YtjmhmoigheomdaaDoorLexSkip
namespace Go.Proofs.YtjmhmoigheomdaaDoor
open Go.RowKit
set_option linter.unusedVariables false

set_option maxHeartbeats 4000000 in
theorem skip_any (s : ByteArray) (q : Nat) (w : World) (hs : s.size ≤ 1000000000) (hq : q ≤ s.size) :
    Calls Tryd.prog 9 #[.string s, .int .i64 (q : Int)] w fun e w' => e = .returned (.int .i64 ((q + skp false (s.data.toList.drop q) : Nat) : Int)) ∧ w' = w := by
  obtain ⟨l, hl⟩ : ∃ l, l = s.data.toList := ⟨_, rfl⟩
  have hlen : l.length = s.size := by rw [hl]; exact Array.length_toList
  have HLEN := hidden hlen
  rw [← hl]
  have HL := hidden hl
  obtain ⟨m, hm⟩ : ∃ m, m = q + skp false (l.drop q) := ⟨_, rfl⟩
  have HM := hidden hm
  rw [← hm]
  clear hl hlen hm
  go_enter Tryd.func9, Tryd.ntmps9
  go_wp2_with fail
  go_loop [1] (fun i => ∃ k : Nat, k ≤ s.size ∧ i = .int .i64 (k : Int) ∧ Hid (m = k + skp false (l.drop k))) (fun i => s.size - (intOf i).toNat)
  case atStart => exact ⟨q, hq, rfl, HM⟩
  case round =>
    obtain ⟨k, hk, rfl, hK⟩ := hrel
    by_cases hlt : k < s.size
    · have hkl : Hid (k < l.length) := by show k < l.length; rw [HLEN.out]; exact hlt
      have hb := bt_of HL.out hlt
      obtain ⟨c, hc⟩ : ∃ c, c = bt l k := ⟨_, rfl⟩
      rw [← hc] at hb
      have HC := hidden hc
      clear hc
      by_cases h35 : c = 35
      · have t1 : ((s[k].toNat : Int) == 35) = true := by rw [← hb, h35]; rfl
        have H35 := hidden h35
        have HB := hidden hb
        clear h35 hb
        have hN : Hid (m = k + 1 + skp true (l.drop (k + 1))) := by
          show m = k + 1 + skp true (l.drop (k + 1))
          rw [hK.out, skp_hash hkl.out (by rw [← HC.out, H35.out])]; omega
        go_wp2_with fail
        go_loop [1] (fun i => ∃ j : Nat, k ≤ j ∧ j < s.size ∧ i = .int .i64 (j : Int) ∧ Hid (m = j + 1 + skp true (l.drop (j + 1)))) (fun i => s.size - (intOf i).toNat)
        case atStart => exact ⟨k, Nat.le_refl _, hlt, rfl, hN⟩
        case round =>
          obtain ⟨j, hkj, hjs, rfl, hJ⟩ := hrel
          by_cases hjn : j + 1 < s.size
          · have hjl : Hid (j + 1 < l.length) := by show j + 1 < l.length; rw [HLEN.out]; exact hjn
            have hb := bt_of HL.out hjn
            by_cases h10 : bt l (j + 1) = 10
            · have t2 : ((s[j + 1].toNat : Int) != 10) = false := by rw [← hb, h10]; rfl
              have hX : Hid (m = j + 1 + skp false (l.drop (j + 1))) := by
                show m = j + 1 + skp false (l.drop (j + 1))
                rw [hJ.out, skp_out hjl.out h10]
              clear hb h10
              go_wp2_with fail
              refine ⟨⟨j + 1, by omega, by go_num, hX⟩, ?_⟩
              simp [intOf]; omega
            · have t2 : ((s[j + 1].toNat : Int) != 10) = true := by rw [← hb]; simp; omega
              have hX : Hid (m = j + 1 + 1 + skp true (l.drop (j + 1 + 1))) := by
                show m = j + 1 + 1 + skp true (l.drop (j + 1 + 1))
                rw [hJ.out, skp_in hjl.out h10]; omega
              clear hb h10
              go_wp2_with fail
              refine ⟨⟨j + 1, by omega, by omega, by go_num, hX⟩, ?_⟩
              simp [intOf]; omega
          · have hX : Hid (m = j + 1 + skp false (l.drop (j + 1))) := by
              show m = j + 1 + skp false (l.drop (j + 1))
              rw [hJ.out, skp_end (by rw [HLEN.out]; omega), skp_end (by rw [HLEN.out]; omega)]
            go_wp2_with fail
            refine ⟨⟨j + 1, by omega, by go_num, hX⟩, ?_⟩
            simp [intOf]; omega
      · have t1 : ((s[k].toNat : Int) == 35) = false := by rw [← hb]; simp; omega
        have H35 := hidden h35
        clear h35
        cases hbl : isBl c with
        | true =>
          have hN : Hid (m = k + 1 + skp false (l.drop (k + 1))) := by
            show m = k + 1 + skp false (l.drop (k + 1))
            rw [hK.out, skp_bl hkl.out (by rw [← HC.out]; exact H35.out) (by rw [← HC.out]; exact hbl)]
            omega
          have hcase : c = 32 ∨ c = 9 ∨ c = 10 ∨ c = 13 := by
            unfold isBl at hbl
            simp at hbl
            omega
          clear hbl
          rcases hcase with h | h | h | h
          · have t2 : ((s[k].toNat : Int) == 32) = true := by rw [← hb, h]; rfl
            clear h hb
            go_wp2_with fail
            refine ⟨⟨k + 1, by omega, by go_num, hN⟩, ?_⟩
            simp [intOf]; omega
          · have t2 : ((s[k].toNat : Int) == 32) = false := by rw [← hb, h]; rfl
            have t3 : ((s[k].toNat : Int) == 9) = true := by rw [← hb, h]; rfl
            clear h hb
            go_wp2_with fail
            refine ⟨⟨k + 1, by omega, by go_num, hN⟩, ?_⟩
            simp [intOf]; omega
          · have t2 : ((s[k].toNat : Int) == 32) = false := by rw [← hb, h]; rfl
            have t3 : ((s[k].toNat : Int) == 9) = false := by rw [← hb, h]; rfl
            have t4 : ((s[k].toNat : Int) == 10) = true := by rw [← hb, h]; rfl
            clear h hb
            go_wp2_with fail
            refine ⟨⟨k + 1, by omega, by go_num, hN⟩, ?_⟩
            simp [intOf]; omega
          · have t2 : ((s[k].toNat : Int) == 32) = false := by rw [← hb, h]; rfl
            have t3 : ((s[k].toNat : Int) == 9) = false := by rw [← hb, h]; rfl
            have t4 : ((s[k].toNat : Int) == 10) = false := by rw [← hb, h]; rfl
            have t5 : ((s[k].toNat : Int) == 13) = true := by rw [← hb, h]; rfl
            clear h hb
            go_wp2_with fail
            refine ⟨⟨k + 1, by omega, by go_num, hN⟩, ?_⟩
            simp [intOf]; omega
        | false =>
          have hN : Hid (m = k) := by
            show m = k
            rw [hK.out, skp_no hkl.out (by rw [← HC.out]; exact H35.out) (by rw [← HC.out, hbl]; decide)]
            rfl
          unfold isBl at hbl
          simp at hbl
          have t2 : ((s[k].toNat : Int) == 32) = false := by rw [← hb]; simp; omega
          have t3 : ((s[k].toNat : Int) == 9) = false := by rw [← hb]; simp; omega
          have t4 : ((s[k].toNat : Int) == 10) = false := by rw [← hb]; simp; omega
          have t5 : ((s[k].toNat : Int) == 13) = false := by rw [← hb]; simp; omega
          clear hbl hb
          go_wp2_with fail
          go_ret
          refine ⟨?_, rfl⟩
          rw [hN.out]
          rfl
    · obtain rfl : k = s.size := by omega
      go_wp2_with fail
      go_ret
      refine ⟨?_, rfl⟩
      rw [hK.out, skp_end (by rw [HLEN.out]; exact Nat.le_refl _)]
      rfl

/-- the number's part up to k -/
theorem num_next {l : List UInt8} {k : Nat} (h : k < l.length) : num (l.take (k + 1)) = nstep (num (l.take k)) (l.getD k 0) := by
  unfold num
  rw [take_next h, List.foldl_append]
  rfl
theorem num_none : ∀ l : List UInt8, l.foldl nstep none = none
  | [] => rfl
  | c :: cs => num_none cs
theorem num_stop {l : List UInt8} {k : Nat} (h : num (l.take k) = none) : num l = none := by
  have e : num l = (l.drop k).foldl nstep (num (l.take k)) := by
    unfold num
    rw [← List.foldl_append, List.take_append_drop]
  rw [e, h, num_none]
theorem num_le {l : List UInt8} : ∀ {n k : Nat}, num (l.take k) = some n → n ≤ 9223372036854775807
  | n, 0, h => by
    simp [num] at h
    omega
  | n, k + 1, h => by
    rcases Nat.lt_or_ge k l.length with g | g
    · rw [num_next g] at h
      unfold nstep at h
      split at h
      · cases h
      · split at h
        · injection h with h; omega
        · cases h
    · rw [List.take_of_length_le (by omega)] at h
      refine num_le (l := l) (k := k) ?_
      rw [List.take_of_length_le g]
      exact h
/-- what number tells -/
def numV (l : List UInt8) : Value := match num l with
  | some n => .tuple #[.int .i64 (n : Int), .bool true]
  | none => .tuple #[.int .i64 0, .bool false]
theorem dgt_u8 (n : Nat) (h : n < 256) : IntKind.u8.wrap ((n : Int) - 48) = (((n + 208) % 256 : Nat) : Int) := by
  rw [IntKind.wrap_u8]; omega
theorem number_any (s : ByteArray) (w : World) (hs : s.size ≤ 1000000000) :
    Calls Tryd.prog 13 #[.string s] w fun e w' => e = .returned (numV s.data.toList) ∧ w' = w := by
  obtain ⟨l, hl⟩ : ∃ l, l = s.data.toList := ⟨_, rfl⟩
  have hlen : l.length = s.size := by rw [hl]; exact Array.length_toList
  have HLEN := hidden hlen
  rw [← hl]
  have HL := hidden hl
  clear hl hlen
  go_enter Tryd.func13, Tryd.ntmps13
  go_wp2_with fail
  go_loop [4, 9] (fun a i => ∃ k n : Nat, k ≤ s.size ∧ n ≤ 9223372036854775807 ∧ a = .int .i64 (n : Int) ∧ i = .int .i64 (k : Int) ∧ Hid (num (l.take k) = some n)) (fun _ i => s.size - (intOf i).toNat)
  case atStart => exact ⟨0, 0, Nat.zero_le _, by omega, rfl, rfl, (show num (l.take 0) = some 0 from rfl)⟩
  case round =>
    obtain ⟨k, n, hk, hn, rfl, rfl, hK⟩ := hrel
    by_cases hlt : k < s.size
    · have hkl : Hid (k < l.length) := by show k < l.length; rw [HLEN.out]; exact hlt
      have hb := bt_of HL.out hlt
      have hu : s[k].toNat < 256 := UInt8.toNat_lt _
      have hd := dgt_u8 s[k].toNat hu
      obtain ⟨d, hdd⟩ : ∃ d, d = (s[k].toNat + 208) % 256 := ⟨_, rfl⟩
      have hd255 : d ≤ 255 := by omega
      rw [← hdd] at hd
      have HD : Hid (d = dgt (l.getD k 0)) := by
        show d = dgt (l.getD k 0)
        unfold dgt
        rw [show (l.getD k 0).toNat = bt l k from rfl, hb]
        exact hdd
      clear hdd hb hu
      have hq : (9223372036854775807 - (d : Int)).tdiv 10 = (((9223372036854775807 - d) / 10 : Nat) : Int) := by
        rw [Int.tdiv_eq_ediv_of_nonneg (by omega)]
        omega
      by_cases hfit : n * 10 + d ≤ 9223372036854775807
      · have HN : Hid (num (l.take (k + 1)) = some (n * 10 + d)) := by
          show num (l.take (k + 1)) = some (n * 10 + d)
          rw [num_next hkl.out, hK.out, HD.out]
          unfold nstep
          rw [← HD.out]
          exact if_pos hfit
        have hle : (n : Int) ≤ (9223372036854775807 - (d : Int)) / 10 := by omega
        go_wp2_with fail
        go_round
        case rel => exact ⟨k + 1, n * 10 + d, by omega, hfit, by go_num, by go_num, HN⟩
        case measure => simp [intOf]; omega
      · have HN : Hid (num l = none) := by
          show num l = none
          refine num_stop (k := k + 1) ?_
          rw [num_next hkl.out, hK.out]
          unfold nstep
          rw [← HD.out]
          exact if_neg hfit
        have hle : (9223372036854775807 - (d : Int)) / 10 < (n : Int) := by omega
        go_wp2_with fail
        go_ret2
        refine ⟨?_, rfl⟩
        unfold numV
        rw [HN.out]
        rfl
    · obtain rfl : k = s.size := by omega
      go_wp2_with fail
      go_ret2
      refine ⟨?_, rfl⟩
      have h := hK.out
      rw [List.take_of_length_le (by rw [HLEN.out]; exact Nat.le_refl _)] at h
      unfold numV
      rw [h]
      rfl
end Go.Proofs.YtjmhmoigheomdaaDoor
