/- The walks through Sum, and the sum by definition. -/
import Derived.Test.YtpcfhihmkddojaaRows
import Derived.Test.YtpcfhihmkddojaaArithLeafs
import Derived.Test.YtpcfhihmkddojaaArithBits
import Derived.WalkKit
namespace Go.Proofs.Ytpcfhihmkddojaa
open Go.RowKit
set_option linter.unusedVariables false

def tot (zs : List Int) (k : Nat) : Int := (zs.take k).sum
theorem tot_zero (zs : List Int) : tot zs 0 = 0 := by simp [tot]
theorem tot_succ (zs : List Int) (k : Nat) (hk : k < zs.length) : tot zs (k + 1) = tot zs k + zs[k]?.getD 0 := by
  unfold tot
  rw [List.take_add_one, List.sum_append, List.getElem?_eq_getElem hk]
  simp

theorem sum_fit {T s r n : Int} (hT : T = s + 18446744073709551616 * r) (hi : inI (s + n)) : T + n = wrap64 (s + n) + 18446744073709551616 * r := by
  rw [wrap64_inI hi]; omega
theorem sum_neg {T s r n : Int} (hs : inI s) (hn : inI n) (hT : T = s + 18446744073709551616 * r) (hi : ¬ inI (s + n)) (h : n < 0) : T + n = wrap64 (s + n) + 18446744073709551616 * (r + -1) := by
  unfold inI at *; unfold wrap64; omega
theorem sum_pos {T s r n : Int} (hs : inI s) (hn : inI n) (hT : T = s + 18446744073709551616 * r) (hi : ¬ inI (s + n)) (h : ¬ n < 0) : T + n = wrap64 (s + n) + 18446744073709551616 * (r + 1) := by
  unfold inI at *; unfold wrap64; omega

set_option maxHeartbeats 400000 in
theorem sum_some (b off len cap : Nat) (zs : List Int) (w : World) (hz : len ≤ zs.length) (hbig : len ≤ 9223372036854775807)
    (hn : ∀ j : Nat, -9223372036854775808 ≤ zs[j]?.getD 0 ∧ zs[j]?.getD 0 ≤ 9223372036854775807)
    (hc : ∀ j, j < len → w.cell? ⟨b, off + j, none⟩ = some (.int .i64 (zs[j]?.getD 0))) :
    Calls Try.prog 19 #[.slice (some ⟨b, off, none⟩) len cap] w fun e w' => e = .returned (.tuple #[.int .i64 (valS (tot zs len)), .bool (okS (tot zs len))]) ∧ w' = w := by
  have HN := hidden hn
  have HC := hidden hc
  clear hn hc
  go_enter Try.func19, Try.ntmps19
  go_wp2
  go_loop [4, 5, 12] (fun ss rs is => ∃ (k : Nat) (s r : Int), k ≤ len ∧ is = .int .i64 (k : Int) ∧ ss = .int .i64 s ∧ rs = .int .i64 r ∧ Hid (tot zs k = s + 18446744073709551616 * r) ∧ -9223372036854775808 ≤ s ∧ s ≤ 9223372036854775807 ∧ -(k : Int) ≤ r ∧ r ≤ (k : Int))
    (fun _ _ i => len - (intOf i).toNat)
  case atStart =>
    exact ⟨0, 0, 0, by omega, rfl, rfl, rfl, tot_zero zs, by omega, by omega, by omega, by omega⟩
  case round =>
    obtain ⟨k, s, r, hk, rfl, rfl, rfl, hT, hs1, hs2, hr1, hr2⟩ := hrel
    have hcell : k < len → w.cell? ⟨b, off + k, none⟩ = some (.int .i64 (zs[k]?.getD 0)) := fun h => HC.out k h
    go_wp2_with fail
    · have hlt : k < len := by assumption
      have hn1 := HN.out k
      refine (add_any s (zs[k]?.getD 0) _ hs1 hs2 hn1.1 hn1.2).mono ?_
      rintro e w' ⟨rfl, rfl⟩
      have hw1 := inI_wrap64 (s + zs[k]?.getD 0)
      have hsucc := tot_succ zs k (by omega)
      by_cases hi : inI (s + zs[k]?.getD 0)
      · have HR := hidden (sum_fit hT.out hi)
        rw [← hsucc] at HR
        have HW := hidden hw1
        have HS := hidden (wrap64_inI hi)
        clear hw1 hsucc
        rw [valS_in hi, okS_in hi]
        have hi1 := hi.1
        have hi2 := hi.2
        go_wp2_with fail
        have HS2 := HS.out
        rw [HS2] at HR HW
        go_round
        case rel => exact ⟨k + 1, s + zs[k]?.getD 0, r, by omega, by go_num, rfl, rfl, HR, hi1, hi2, by omega, by omega⟩
        case measure => simp [intOf]; omega
      · by_cases hneg : zs[k]?.getD 0 < 0
        · have HR := hidden (sum_neg ⟨hs1, hs2⟩ hn1 hT.out hi hneg)
          rw [← hsucc] at HR
          have HW := hidden hw1
          clear hw1 hsucc
          rw [valS_out hi, okS_out hi]
          have HI := hidden hi
          clear hi
          go_wp2_with fail
          refine (sign_any (zs[k]?.getD 0) _).mono ?_
          rintro e w' ⟨rfl, rfl⟩
          rw [if_pos hneg]
          go_wp2_with fail
          go_round
          case rel => exact ⟨k + 1, wrap64 (s + zs[k]?.getD 0), r + -1, by omega, by go_num, rfl, rfl, HR, HW.out.1, HW.out.2, by omega, by omega⟩
          case measure => simp [intOf]; omega
        · have HR := hidden (sum_pos ⟨hs1, hs2⟩ hn1 hT.out hi hneg)
          rw [← hsucc] at HR
          have HW := hidden hw1
          clear hw1 hsucc
          rw [valS_out hi, okS_out hi]
          have HI := hidden hi
          clear hi
          go_wp2_with fail
          refine (sign_any (zs[k]?.getD 0) _).mono ?_
          rintro e w' ⟨rfl, rfl⟩
          rw [if_neg (by omega)]
          go_wp2_with fail
          go_round
          case rel => exact ⟨k + 1, wrap64 (s + zs[k]?.getD 0), r + 1, by omega, by go_num, rfl, rfl, HR, HW.out.1, HW.out.2, by omega, by omega⟩
          case measure => simp [intOf]; omega
    · have hge : ¬ k < len := by assumption
      have hr : (r != 0) = true := by assumption
      have hr0 : ¬ r = 0 := by simpa using hr
      have hkl : k = len := by omega
      go_ret2
      have h1 := hT.out
      rw [hkl] at h1
      exact ⟨told_out rfl rfl (by rw [h1]; unfold inI; omega), rfl⟩
    · have hge : ¬ k < len := by assumption
      have hr : (r != 0) = false := by assumption
      have hr0 : r = 0 := by simpa using hr
      have hkl : k = len := by omega
      go_ret2
      have h1 := hT.out
      rw [hkl, hr0] at h1
      have h2 : s = tot zs len := by omega
      exact ⟨told_in h2 rfl (by rw [← h2]; exact ⟨hs1, hs2⟩), rfl⟩

theorem sum_none (a : Option Addr) (cap : Nat) (w : World) :
    Calls Try.prog 19 #[.slice a 0 cap] w fun e w' => e = .returned (.tuple #[.int .i64 0, .bool true]) ∧ w' = w := by
  go_enter Try.func19, Try.ntmps19
  go_wp2
  refine wp_loop_rounds 1 ?_
  rw [rounds_succ]
  go_wp2
  go_ret2
  exact ⟨rfl, rfl⟩

theorem rsum_none (a : Option Addr) (cap : Nat) (w : World) :
    Calls Try.prog 20 #[.slice a 0 cap] w fun e w' => e = .returned (.tuple #[.int .i64 0, .bool true]) ∧ w' = w := by
  have h0 : bits .and .i64 0 4294967295 = 0 := by decide
  go_enter Try.func20, Try.ntmps20
  go_wp2
  refine wp_loop_rounds 1 ?_
  rw [rounds_succ]
  go_wp2
  go_ret2
  exact ⟨rfl, rfl⟩

set_option maxHeartbeats 400000 in
theorem rsum_some (b off len cap : Nat) (zs : List Int) (w : World) (hz : len ≤ zs.length) (hbig : len ≤ 1000)
    (hn : ∀ j : Nat, -9223372036854775808 ≤ zs[j]?.getD 0 ∧ zs[j]?.getD 0 ≤ 9223372036854775807)
    (hc : ∀ j, j < len → w.cell? ⟨b, off + j, none⟩ = some (.int .i64 (zs[j]?.getD 0))) :
    Calls Try.prog 20 #[.slice (some ⟨b, off, none⟩) len cap] w fun e w' => e = .returned (.tuple #[.int .i64 (valS (tot zs len)), .bool (okS (tot zs len))]) ∧ w' = w := by
  have HN := hidden hn
  have HC := hidden hc
  clear hn hc
  go_enter Try.func20, Try.ntmps20
  go_wp2
  go_loop [4, 5, 6] (fun us ls is => ∃ (k : Nat) (u l : Int), k ≤ len ∧ is = .int .i64 (k : Int) ∧ us = .int .i64 u ∧ ls = .int .i64 l ∧ Hid (tot zs k = 4294967296 * u + l) ∧ 0 ≤ l ∧ l ≤ 4294967296 * (k : Int) ∧ -(2147483648 * (k : Int)) ≤ u ∧ u ≤ 2147483648 * (k : Int))
    (fun _ _ i => len - (intOf i).toNat)
  case atStart =>
    exact ⟨0, 0, 0, by omega, rfl, rfl, rfl, tot_zero zs, by omega, by omega, by omega, by omega⟩
  case round =>
    obtain ⟨k, u, l, hk, rfl, rfl, rfl, hT, hl1, hl2, hu1, hu2⟩ := hrel
    have hcell : k < len → w.cell? ⟨b, off + k, none⟩ = some (.int .i64 (zs[k]?.getD 0)) := fun h => HC.out k h
    have hn1 := HN.out k
    have hand := i64_and32 (zs[k]?.getD 0)
    have hand2 := i64_and32 l
    go_wp2
    · have hlt : k < len := by assumption
      have HR : Hid (tot zs (k + 1) = 4294967296 * (u + zs[k]?.getD 0 / 4294967296) + (l + zs[k]?.getD 0 % 4294967296)) := by
        have h1 := hT.out
        show _ = _
        rw [tot_succ zs k (by omega), h1]; omega
      go_round
      case rel => exact ⟨k + 1, u + zs[k]?.getD 0 / 4294967296, l + zs[k]?.getD 0 % 4294967296, by omega, by go_num, rfl, rfl, HR, by omega, by omega, by omega, by omega⟩
      case measure => simp [intOf]; omega
    all_goals have hge : ¬ k < len := by assumption
    all_goals have hkl : k = len := by omega
    all_goals go_ret2
    all_goals have h1 := hT.out
    all_goals rw [hkl] at h1
    all_goals first
      | exact ⟨told_out rfl rfl (by rw [h1]; unfold inI; omega), rfl⟩
      | exact ⟨told_in (by rw [h1]; omega) rfl (by rw [h1]; unfold inI; omega), rfl⟩
      | exact ⟨told_in (by rw [h1]; unfold wrap64; omega) rfl (by rw [h1]; unfold inI; omega), rfl⟩

end Go.Proofs.Ytpcfhihmkddojaa
