/- The walk through PlaceBack: over every text it answers true. -/
import Derived.Test.YtbfejllcdalnhaaPlaceTellsWalk
namespace Go.Proofs.Ytbfejllcdalnhaa
open Go.RowKit
set_option linter.unusedVariables false

/-- the line of the place ahead of k -/
def mm (l : List UInt8) : Nat → Nat
  | 0 => 0
  | k + 1 => 1 + nl l k
/-- and its column -/
def nn (l : List UInt8) : Nat → Nat
  | 0 => 0
  | k + 1 => k - st l k + 1
theorem mm_le (l : List UInt8) : ∀ k, mm l k ≤ k + 1
  | 0 => Nat.zero_le _
  | k + 1 => by have := nl_le l k; show 1 + nl l k ≤ _; omega
theorem nn_le (l : List UInt8) : ∀ k, nn l k ≤ k + 1
  | 0 => Nat.zero_le _
  | k + 1 => by show k - st l k + 1 ≤ _; omega
/-- a place is in the line of the one ahead of it, one column on, or at the next line's beginning -/
theorem next_place (l : List UInt8) : ∀ k, (mm l k = 1 + nl l k ∧ k - st l k + 1 = nn l k + 1) ∨ (mm l k + 1 = 1 + nl l k ∧ k - st l k + 1 = 1)
  | 0 => .inr ⟨rfl, rfl⟩
  | k + 1 => by
    have h := st_le l k
    show (1 + nl l k = 1 + nl l (k + 1) ∧ k + 1 - st l (k + 1) + 1 = k - st l k + 1 + 1) ∨ (1 + nl l k + 1 = 1 + nl l (k + 1) ∧ k + 1 - st l (k + 1) + 1 = 1)
    by_cases hb : bt l k = 10
    · right; rw [nl_hit hb, st_hit hb]; omega
    · left; rw [nl_miss hb, st_miss hb]; omega
theorem back_long (s : ByteArray) (w : World) (hs : 200 < s.size) :
    Calls Try.prog 4 #[.string s] w fun e w' => e = .returned (.bool true) ∧ Below w.heap.size w w' := by
  have hs' : (200 : Int) < (s.size : Int) := by omega
  go_enter Try.func4, Try.ntmps4
  go_wp2_with fail
  refine (works_true w).mono ?_
  rintro e w1 ⟨rfl, hb⟩
  have HB := hidden hb
  clear hb
  go_wp2_with fail
  go_ret
  exact ⟨rfl, HB.out⟩
set_option maxRecDepth 100000 in
set_option maxHeartbeats 4000000 in
theorem back_short (s : ByteArray) (w : World) (hs : s.size ≤ 200) :
    Calls Try.prog 4 #[.string s] w fun e w' => e = .returned (.bool true) ∧ Below w.heap.size w w' := by
  obtain ⟨l, hl⟩ : ∃ l, l = s.data.toList := ⟨_, rfl⟩
  have hlen : l.length = s.size := by rw [hl]; exact Array.length_toList
  have HLEN := hidden hlen
  have HL := hidden hl
  obtain ⟨m, hm⟩ : ∃ m, m = 1 + nl l s.size := ⟨_, rfl⟩
  have hm0 : 0 < m := by omega
  have hms : m ≤ 201 := by have := nl_le l s.size; omega
  have HM := hidden hm
  clear hl hlen hm
  go_enter Try.func4, Try.ntmps4
  go_wp2_with fail
  refine (works_true w).mono ?_
  rintro e w1 ⟨rfl, hb⟩
  have HW1 := hidden hb
  clear hb
  go_wp2_with fail
  go_loopw [3, 4, 5] (fun a b i wr => ∃ k M N : Nat, k ≤ s.size + 1 ∧ M ≤ k + 1 ∧ N ≤ k + 1 ∧ i = .int .i64 (k : Int) ∧ a = .int .i64 (M : Int) ∧ b = .int .i64 (N : Int) ∧ Hid (M = mm l k) ∧ Hid (N = nn l k) ∧ Hid (Below w.heap.size w wr)) (fun _ _ i _ => s.size + 1 - (intOf i).toNat)
  case atStart => exact ⟨0, 0, 0, by omega, by omega, by omega, rfl, rfl, rfl, rfl, rfl, HW1⟩
  case round =>
    obtain ⟨k, M, N, hk, hMk, hNk, rfl, rfl, rfl, hM, hN, hW⟩ := hrel
    by_cases hle : k ≤ s.size
    · have hkl : Hid (k ≤ l.length) := by show k ≤ l.length; rw [HLEN.out]; exact hle
      go_wp2_with fail
      refine (p_of_some s k wr (by omega) hle).mono ?_
      rintro e w2 ⟨rfl, hb⟩
      rw [← HL.out]
      obtain ⟨n, hn⟩ : ∃ n, n = 1 + nl l k := ⟨_, rfl⟩
      obtain ⟨c, hc⟩ : ∃ c, c = k - st l k + 1 := ⟨_, rfl⟩
      have hst := hidden (st_le l k)
      rw [← hn, ← hc]
      have HN := hidden hn
      have HC := hidden hc
      have HW2 := hidden (below_then hW.out hb)
      clear hn hc hb
      go_wp2_with fail
      refine (p_at s n c w2 (by omega)).mono ?_
      rintro e w3 ⟨y, u, rfl, hA, hb⟩
      rw [← HL.out] at hA
      obtain ⟨rfl, rfl⟩ : y = (k : Int) ∧ u = true := by
        refine AtIs.here hkl.out ?_
        have e1 : (1 + nl l k : Int) = (n : Int) := by have := HN.out; omega
        have e2 : (k : Int) - st l k + 1 = (c : Int) := by have := HC.out; have := hst.out; omega
        rw [e1, e2]
        exact hA
      have HW3 := hidden (below_then HW2.out hb)
      clear hA hb HW2
      have hnx : (M = n ∧ c = N + 1) ∨ (M + 1 = n ∧ c = 1) := by rw [HN.out, HC.out, hM.out, hN.out]; exact next_place l k
      rcases hnx with ⟨rfl, rfl⟩ | ⟨rfl, rfl⟩
      · go_wp2_with fail
        go_roundw
        case rel => exact ⟨k + 1, M, N + 1, by omega, by omega, by omega, by go_num, rfl, by go_num, (show M = mm l (k + 1) from HN.out), (show N + 1 = nn l (k + 1) from HC.out), HW3⟩
        case measure => simp [intOf]; omega
      · go_wp2_with fail
        go_roundw
        case rel => exact ⟨k + 1, M + 1, 1, by omega, by omega, by omega, by go_num, by go_num, rfl, (show M + 1 = mm l (k + 1) from HN.out), (show 1 = nn l (k + 1) from HC.out), HW3⟩
        case measure => simp [intOf]; omega
    · obtain rfl : k = s.size + 1 := by omega
      obtain rfl : M = m := by rw [hM.out, HM.out]; rfl
      have HW := hW
      clear hM hN hMk hNk hW
      obtain ⟨wa, rfl⟩ : ∃ wa, wa = wr := ⟨_, rfl⟩
      go_wp2_with fail
      refine (p_line_some s 1 wa (by omega) (by omega) (by omega)).mono ?_
      rintro e w2 ⟨t0, rfl, hE, hl0, hb⟩
      rw [← HL.out] at hE hl0
      obtain ⟨S0, hS0⟩ : ∃ S, S = (⟨(cut s.data.toList (st s.data.toList t0) t0).toArray⟩ : ByteArray) := ⟨_, rfl⟩
      rw [← hS0]
      rw [← HL.out, st_same l (show nl l t0 = nl l 0 by show nl l t0 = 0; omega)] at hS0
      have HS0 : Hid (S0 = ⟨(l.take t0).toArray⟩) := hS0
      have h0s : S0.size ≤ 200 := by
        have := end_le hE
        rw [HLEN.out] at this
        rw [hS0]
        show (cut l 0 t0).toArray.size ≤ 200
        rw [List.size_toArray, cut_length (by rw [HLEN.out]; exact this)]
        omega
      have HE := hidden hE
      have HL0 : Hid (2 + nl l t0 = 2) := by show 2 + nl l t0 = 2; omega
      have HW2 := hidden (below_then HW.out hb)
      clear hE hl0 hS0 hb HW
      go_wp2_with fail
      go_loopw [11, 13] (fun c i wr => ∃ (j t : Nat) (S : ByteArray), 2 ≤ j ∧ j ≤ M + 1 ∧ i = .int .i64 (j : Int) ∧ c = .string S ∧ S.size ≤ 200 ∧ Hid (S = ⟨(l.take t).toArray⟩) ∧ Hid (isEnd l t) ∧ Hid (2 + nl l t = j) ∧ Hid (Below w.heap.size w wr)) (fun _ i _ => 1000 - (intOf i).toNat)
      case atStart => exact ⟨2, t0, S0, by omega, by omega, rfl, rfl, h0s, HS0, HE, HL0, HW2⟩
      case round =>
        obtain ⟨j, t, S, hj2, hjM, rfl, rfl, hSs, hS, hE, hJ, hW⟩ := hrel
        clear HS0 h0s HE HL0 HW2
        go_wp2_with fail
        refine (p_lines s wr (by omega)).mono ?_
        rintro e w3 ⟨rfl, hb⟩
        rw [← HL.out, ← HM.out]
        have HW3 := hidden (below_then hW.out hb)
        clear hb hW
        by_cases hjle : j ≤ M
        · go_wp2_with fail
          refine (p_line_some s j w3 (by omega) (by omega) (by rw [← HL.out]; have := HM.out; omega)).mono ?_
          rintro e w4 ⟨u, rfl, hE', hj', hb⟩
          rw [← HL.out] at hE' hj'
          obtain ⟨T, hT⟩ : ∃ T, T = (⟨(cut s.data.toList (st s.data.toList u) u).toArray⟩ : ByteArray) := ⟨_, rfl⟩
          rw [← hT]
          rw [← HL.out] at hT
          have hu := end_le hE'
          rw [HLEN.out] at hu
          have hTs : T.size ≤ 200 := by
            rw [hT]
            show (cut l (st l u) u).toArray.size ≤ 200
            rw [List.size_toArray, cut_length (by rw [HLEN.out]; exact hu)]
            omega
          have ht10 : bt l t = 10 := by
            rcases hE.out with e | e
            · exfalso
              have h1 := hJ.out
              have h2 := HM.out
              rw [e, HLEN.out] at h1
              omega
            · exact e
          have hJN : Hid (S ++ ⟨#[10]⟩ ++ T = ⟨(l.take u).toArray⟩) := by
            show S ++ ⟨#[10]⟩ ++ T = _
            rw [← join_next ht10 hE' (by have := hJ.out; omega), hS.out, hT]
            show ByteArray.mk (l.take t).toArray ++ ByteArray.mk ([10] : List UInt8).toArray ++ ByteArray.mk (cut l (st l u) u).toArray = _
            rw [ByteArray.mk_append_mk, ByteArray.mk_append_mk]
          have hJs : Hid ((S ++ ⟨#[10]⟩ ++ T).size ≤ 200) := by
            show (S ++ ⟨#[10]⟩ ++ T).size ≤ 200
            rw [hJN.out]
            show (l.take u).toArray.size ≤ 200
            rw [List.size_toArray, List.length_take]
            omega
          have HE' := hidden hE'
          have HJ' : Hid (2 + nl l u = j + 1) := by show 2 + nl l u = j + 1; omega
          have HW4 := hidden (below_then HW3.out hb)
          clear hT ht10 hE' hj' hb HW3 hu
          go_wp2_with fail
          go_roundw
          case rel => exact ⟨j + 1, u, S ++ ⟨#[10]⟩ ++ T, by omega, by omega, by go_num, rfl, hJs.out, hJN, HE', HJ', HW4⟩
          case measure => simp [intOf]; omega
        · obtain rfl : j = M + 1 := by omega
          have hts : t = s.size := by
            have h1 := hJ.out
            have h2 := HM.out
            have h3 := end_one (l := l) (t := s.size) (q := t) (.inl HLEN.out.symm) hE.out (by omega)
            exact h3
          have hSS : S = s := by
            rw [hS.out, hts, List.take_of_length_le (by rw [HLEN.out]; exact Nat.le_refl _), HL.out]
          subst hSS
          clear hts hS hE hJ
          go_wp2_with fail
          refine (p_line_none S ((M : Int) + 1) w3 (by omega) (.inr (by rw [← HL.out]; have := HM.out; omega))).mono ?_
          rintro e w4 ⟨rfl, hb⟩
          have HW4 := hidden (below_then HW3.out hb)
          clear hb HW3
          go_wp2_with fail
          refine (p_lines S w4 (by omega)).mono ?_
          rintro e w5 ⟨rfl, hb⟩
          rw [← HL.out, ← HM.out]
          have HW5 := hidden (below_then HW4.out hb)
          clear hb HW4
          go_wp2_with fail
          go_ret
          exact ⟨rfl, HW5.out⟩
theorem back_walk (s : ByteArray) (w : World) (hs : s.size ≤ maxLen) :
    Calls Try.prog 4 #[.string s] w fun e w' => e = .returned (.bool true) ∧ Below w.heap.size w w' := by
  rcases Nat.lt_or_ge 200 s.size with h | h
  · exact back_long s w h
  · exact back_short s w h
end Go.Proofs.Ytbfejllcdalnhaa
