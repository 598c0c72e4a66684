/- The walks through the quotient by definition, bit by bit, and what it leaves. -/
import Derived.Test.YtpcfhihmkddojaaRows
import Derived.Test.YtpcfhihmkddojaaArithLeafs
import Derived.Test.YtpcfhihmkddojaaArithBits
import Derived.WalkKit
namespace Go.Proofs.Ytpcfhihmkddojaa
open Go.RowKit
set_option linter.unusedVariables false

set_option maxHeartbeats 400000 in
theorem rdiv_nn (x0 y : Int) (w : World) (ha1 : -9223372036854775808 ≤ x0) (ha2 : x0 ≤ 0) (hb1 : -9223372036854775808 ≤ y) (hb2 : y < 0) (hk : okD x0 y = true) :
    Calls Try.prog 15 #[.int .i64 x0, .int .i64 y] w fun e w' => e = .returned (.tuple #[.int .i64 (dq x0 y), .bool true]) ∧ w' = w := by
  have hQ0 := dq_le (x0 := x0) (y := y) (by omega) hb2
  have hQ1 : dq x0 y ≤ 9223372036854775807 := dq_lt ha2 ha1 hb2 hk
  have hQz : x0 = 0 → dq x0 y = 0 := by omega
  have HQ : Hid ((0 ≤ dq x0 y ∧ dq x0 y ≤ -x0) ∧ (dq x0 y ≤ 9223372036854775807) ∧ (x0 = 0 → dq x0 y = 0)) := ⟨hQ0, hQ1, hQz⟩
  clear hQ0 hQ1 hQz
  go_enter Try.func15, Try.ntmps15
  go_wp2_with (go_at_call 22; refine (rfits_any x0 y _ (by omega) (by omega) (by omega) (by omega)).mono ?_)
  rintro e w' ⟨rfl, rfl⟩
  go_wp2
  go_loop [6, 8, 9] (fun xs qs is => ∃ (k : Nat) (x q : Int), k ≤ 63 ∧ is = .int .i64 ((k : Int) - 1) ∧ xs = .int .i64 x ∧ qs = .int .i64 q ∧ Hid (x0 = x - y * q) ∧ Hid (y * 2 ^ k ≤ x) ∧ x ≤ 0 ∧ -9223372036854775808 ≤ x ∧ q ≤ 0 ∧ -9223372036854775808 ≤ q)
    (fun _ _ i => (intOf i + 1).toNat)
  case atStart =>
    exact ⟨63, x0, 0, by omega, rfl, rfl, rfl, by show x0 = x0 - y * 0; omega, by show y * 2 ^ 63 ≤ x0; omega, by omega, by omega, by omega, by omega⟩
  case round =>
    obtain ⟨k, x, q, hk, rfl, rfl, rfl, h1, h2, hx1, hx2, hq1, hq2⟩ := hrel
    rcases k with _ | j
    · have HE := hidden (div_end h1.out h2.out hx1 hb2)
      go_wp2
      all_goals go_ret2
      all_goals refine ⟨told_pair ?_ rfl, rfl⟩
      all_goals obtain ⟨hQ0, hQ1, hQz⟩ := HQ.out
      all_goals obtain ⟨hA, hB⟩ := HE.out
      all_goals try have ht := beq_dec (p := x0 < 0) (q := 0 < y) (by assumption)
      all_goals try have ht := beq_dec_not (p := x0 < 0) (q := 0 < y) (by assumption)
      all_goals try have ht := beq_dec (p := 0 < x0) (q := 0 < y) (by assumption)
      all_goals try have ht := beq_dec_not (p := 0 < x0) (q := 0 < y) (by assumption)
      all_goals first
        | (have hxy : x ≤ y := by assumption
           have e := hA hxy
           show _ = _
           rw [e]
           generalize dq x0 y = Q at *
           unfold wrap64; omega)
        | (have hxy : y < x := by assumption
           have e := hB hxy
           generalize dq x0 y = Q at *
           unfold wrap64; omega)
        | (have hxy : y < x := by assumption
           have e := hB hxy
           generalize dq x0 y = Q at *
           omega)
    · have ej : ((j + 1 : Nat) : Int) - 1 = (j : Int) := by omega
      rw [ej]; clear ej
      go_wp2
      · have ht : -9223372036854775807 / 2 ^ j ≤ y := by assumption
        have hz : x ≤ wrap64 (y * 2 ^ j) := by assumption
        obtain ⟨e1, e2, n1, n2, n3, n4, n5, n6⟩ := div_step (by omega) h1.out h2.out (by omega) hx1 hx2 hb2 hq1 ht hz
        go_round
        case rel => exact ⟨j, x - y * 2 ^ j, q - 2 ^ j, by omega, by go_num, congrArg _ e1, congrArg _ e2, n1, n2, n3, n4, n5, n6⟩
        case measure => simp [intOf]
      · have ht : -9223372036854775807 / 2 ^ j ≤ y := by assumption
        have hz : wrap64 (y * 2 ^ j) < x := by assumption
        have n2 := div_stay (by omega) hb2 ht hz
        go_round
        case rel => exact ⟨j, x, q, by omega, by go_num, rfl, rfl, h1, n2, hx1, hx2, hq1, hq2⟩
        case measure => simp [intOf]
      · have ht : ¬ -9223372036854775807 / 2 ^ j ≤ y := by assumption
        have n2 : y * 2 ^ j ≤ x := Int.le_trans (div_far ht) hx2
        go_round
        case rel => exact ⟨j, x, q, by omega, by go_num, rfl, rfl, h1, n2, hx1, hx2, hq1, hq2⟩
        case measure => simp [intOf]

set_option maxHeartbeats 400000 in
theorem rdiv_np (x0 y : Int) (w : World) (ha1 : -9223372036854775808 ≤ x0) (ha2 : x0 ≤ 0) (hb1 : -9223372036854775807 ≤ y) (hb2 : y < 0) (hk : okD x0 (-y) = true) :
    Calls Try.prog 15 #[.int .i64 x0, .int .i64 (-y)] w fun e w' => e = .returned (.tuple #[.int .i64 (-dq x0 y), .bool true]) ∧ w' = w := by
  have hQ0 := dq_le (x0 := x0) (y := y) (by omega) hb2
  have hQ1 : dq x0 y ≤ 9223372036854775808 := by omega
  have hQz : x0 = 0 → dq x0 y = 0 := by omega
  have HQ : Hid ((0 ≤ dq x0 y ∧ dq x0 y ≤ -x0) ∧ (dq x0 y ≤ 9223372036854775808) ∧ (x0 = 0 → dq x0 y = 0)) := ⟨hQ0, hQ1, hQz⟩
  clear hQ0 hQ1 hQz
  go_enter Try.func15, Try.ntmps15
  go_wp2_with (go_at_call 22; refine (rfits_any x0 (-y) _ (by omega) (by omega) (by omega) (by omega)).mono ?_)
  rintro e w' ⟨rfl, rfl⟩
  go_wp2
  go_loop [6, 8, 9] (fun xs qs is => ∃ (k : Nat) (x q : Int), k ≤ 63 ∧ is = .int .i64 ((k : Int) - 1) ∧ xs = .int .i64 x ∧ qs = .int .i64 q ∧ Hid (x0 = x - y * q) ∧ Hid (y * 2 ^ k ≤ x) ∧ x ≤ 0 ∧ -9223372036854775808 ≤ x ∧ q ≤ 0 ∧ -9223372036854775808 ≤ q)
    (fun _ _ i => (intOf i + 1).toNat)
  case atStart =>
    exact ⟨63, x0, 0, by omega, rfl, rfl, rfl, by show x0 = x0 - y * 0; omega, by show y * 2 ^ 63 ≤ x0; omega, by omega, by omega, by omega, by omega⟩
  case round =>
    obtain ⟨k, x, q, hk, rfl, rfl, rfl, h1, h2, hx1, hx2, hq1, hq2⟩ := hrel
    rcases k with _ | j
    · have HE := hidden (div_end h1.out h2.out hx1 hb2)
      go_wp2
      all_goals go_ret2
      all_goals refine ⟨told_pair ?_ rfl, rfl⟩
      all_goals obtain ⟨hQ0, hQ1, hQz⟩ := HQ.out
      all_goals obtain ⟨hA, hB⟩ := HE.out
      all_goals try have ht := beq_dec (p := x0 < 0) (q := 0 < y) (by assumption)
      all_goals try have ht := beq_dec_not (p := x0 < 0) (q := 0 < y) (by assumption)
      all_goals try have ht := beq_dec (p := 0 < x0) (q := 0 < y) (by assumption)
      all_goals try have ht := beq_dec_not (p := 0 < x0) (q := 0 < y) (by assumption)
      all_goals first
        | (have hxy : x ≤ y := by assumption
           have e := hA hxy
           show _ = _
           rw [e]
           generalize dq x0 y = Q at *
           unfold wrap64; omega)
        | (have hxy : y < x := by assumption
           have e := hB hxy
           generalize dq x0 y = Q at *
           unfold wrap64; omega)
        | (have hxy : y < x := by assumption
           have e := hB hxy
           generalize dq x0 y = Q at *
           omega)
    · have ej : ((j + 1 : Nat) : Int) - 1 = (j : Int) := by omega
      rw [ej]; clear ej
      go_wp2
      · have ht : -9223372036854775807 / 2 ^ j ≤ y := by assumption
        have hz : x ≤ wrap64 (y * 2 ^ j) := by assumption
        obtain ⟨e1, e2, n1, n2, n3, n4, n5, n6⟩ := div_step (by omega) h1.out h2.out (by omega) hx1 hx2 hb2 hq1 ht hz
        go_round
        case rel => exact ⟨j, x - y * 2 ^ j, q - 2 ^ j, by omega, by go_num, congrArg _ e1, congrArg _ e2, n1, n2, n3, n4, n5, n6⟩
        case measure => simp [intOf]
      · have ht : -9223372036854775807 / 2 ^ j ≤ y := by assumption
        have hz : wrap64 (y * 2 ^ j) < x := by assumption
        have n2 := div_stay (by omega) hb2 ht hz
        go_round
        case rel => exact ⟨j, x, q, by omega, by go_num, rfl, rfl, h1, n2, hx1, hx2, hq1, hq2⟩
        case measure => simp [intOf]
      · have ht : ¬ -9223372036854775807 / 2 ^ j ≤ y := by assumption
        have n2 : y * 2 ^ j ≤ x := Int.le_trans (div_far ht) hx2
        go_round
        case rel => exact ⟨j, x, q, by omega, by go_num, rfl, rfl, h1, n2, hx1, hx2, hq1, hq2⟩
        case measure => simp [intOf]

set_option maxHeartbeats 400000 in
theorem rdiv_pn (x0 y : Int) (w : World) (ha1 : -9223372036854775807 ≤ x0) (ha2 : x0 < 0) (hb1 : -9223372036854775808 ≤ y) (hb2 : y < 0) (hk : okD (-x0) y = true) :
    Calls Try.prog 15 #[.int .i64 (-x0), .int .i64 y] w fun e w' => e = .returned (.tuple #[.int .i64 (-dq x0 y), .bool true]) ∧ w' = w := by
  have hQ0 := dq_le (x0 := x0) (y := y) (by omega) hb2
  have hQ1 : dq x0 y ≤ 9223372036854775808 := by omega
  have hQz : x0 = 0 → dq x0 y = 0 := by omega
  have HQ : Hid ((0 ≤ dq x0 y ∧ dq x0 y ≤ -x0) ∧ (dq x0 y ≤ 9223372036854775808) ∧ (x0 = 0 → dq x0 y = 0)) := ⟨hQ0, hQ1, hQz⟩
  clear hQ0 hQ1 hQz
  go_enter Try.func15, Try.ntmps15
  go_wp2_with (go_at_call 22; refine (rfits_any (-x0) y _ (by omega) (by omega) (by omega) (by omega)).mono ?_)
  rintro e w' ⟨rfl, rfl⟩
  go_wp2
  go_loop [6, 8, 9] (fun xs qs is => ∃ (k : Nat) (x q : Int), k ≤ 63 ∧ is = .int .i64 ((k : Int) - 1) ∧ xs = .int .i64 x ∧ qs = .int .i64 q ∧ Hid (x0 = x - y * q) ∧ Hid (y * 2 ^ k ≤ x) ∧ x ≤ 0 ∧ -9223372036854775808 ≤ x ∧ q ≤ 0 ∧ -9223372036854775808 ≤ q)
    (fun _ _ i => (intOf i + 1).toNat)
  case atStart =>
    exact ⟨63, x0, 0, by omega, rfl, rfl, rfl, by show x0 = x0 - y * 0; omega, by show y * 2 ^ 63 ≤ x0; omega, by omega, by omega, by omega, by omega⟩
  case round =>
    obtain ⟨k, x, q, hk, rfl, rfl, rfl, h1, h2, hx1, hx2, hq1, hq2⟩ := hrel
    rcases k with _ | j
    · have HE := hidden (div_end h1.out h2.out hx1 hb2)
      go_wp2
      all_goals go_ret2
      all_goals refine ⟨told_pair ?_ rfl, rfl⟩
      all_goals obtain ⟨hQ0, hQ1, hQz⟩ := HQ.out
      all_goals obtain ⟨hA, hB⟩ := HE.out
      all_goals try have ht := beq_dec (p := x0 < 0) (q := 0 < y) (by assumption)
      all_goals try have ht := beq_dec_not (p := x0 < 0) (q := 0 < y) (by assumption)
      all_goals try have ht := beq_dec (p := 0 < x0) (q := 0 < y) (by assumption)
      all_goals try have ht := beq_dec_not (p := 0 < x0) (q := 0 < y) (by assumption)
      all_goals first
        | (have hxy : x ≤ y := by assumption
           have e := hA hxy
           show _ = _
           rw [e]
           generalize dq x0 y = Q at *
           unfold wrap64; omega)
        | (have hxy : y < x := by assumption
           have e := hB hxy
           generalize dq x0 y = Q at *
           unfold wrap64; omega)
        | (have hxy : y < x := by assumption
           have e := hB hxy
           generalize dq x0 y = Q at *
           omega)
    · have ej : ((j + 1 : Nat) : Int) - 1 = (j : Int) := by omega
      rw [ej]; clear ej
      go_wp2
      · have ht : -9223372036854775807 / 2 ^ j ≤ y := by assumption
        have hz : x ≤ wrap64 (y * 2 ^ j) := by assumption
        obtain ⟨e1, e2, n1, n2, n3, n4, n5, n6⟩ := div_step (by omega) h1.out h2.out (by omega) hx1 hx2 hb2 hq1 ht hz
        go_round
        case rel => exact ⟨j, x - y * 2 ^ j, q - 2 ^ j, by omega, by go_num, congrArg _ e1, congrArg _ e2, n1, n2, n3, n4, n5, n6⟩
        case measure => simp [intOf]
      · have ht : -9223372036854775807 / 2 ^ j ≤ y := by assumption
        have hz : wrap64 (y * 2 ^ j) < x := by assumption
        have n2 := div_stay (by omega) hb2 ht hz
        go_round
        case rel => exact ⟨j, x, q, by omega, by go_num, rfl, rfl, h1, n2, hx1, hx2, hq1, hq2⟩
        case measure => simp [intOf]
      · have ht : ¬ -9223372036854775807 / 2 ^ j ≤ y := by assumption
        have n2 : y * 2 ^ j ≤ x := Int.le_trans (div_far ht) hx2
        go_round
        case rel => exact ⟨j, x, q, by omega, by go_num, rfl, rfl, h1, n2, hx1, hx2, hq1, hq2⟩
        case measure => simp [intOf]

set_option maxHeartbeats 400000 in
theorem rdiv_pp (x0 y : Int) (w : World) (ha1 : -9223372036854775807 ≤ x0) (ha2 : x0 < 0) (hb1 : -9223372036854775807 ≤ y) (hb2 : y < 0) (hk : okD (-x0) (-y) = true) :
    Calls Try.prog 15 #[.int .i64 (-x0), .int .i64 (-y)] w fun e w' => e = .returned (.tuple #[.int .i64 (dq x0 y), .bool true]) ∧ w' = w := by
  have hQ0 := dq_le (x0 := x0) (y := y) (by omega) hb2
  have hQ1 : dq x0 y ≤ 9223372036854775807 := by omega
  have hQz : x0 = 0 → dq x0 y = 0 := by omega
  have HQ : Hid ((0 ≤ dq x0 y ∧ dq x0 y ≤ -x0) ∧ (dq x0 y ≤ 9223372036854775807) ∧ (x0 = 0 → dq x0 y = 0)) := ⟨hQ0, hQ1, hQz⟩
  clear hQ0 hQ1 hQz
  go_enter Try.func15, Try.ntmps15
  go_wp2_with (go_at_call 22; refine (rfits_any (-x0) (-y) _ (by omega) (by omega) (by omega) (by omega)).mono ?_)
  rintro e w' ⟨rfl, rfl⟩
  go_wp2
  go_loop [6, 8, 9] (fun xs qs is => ∃ (k : Nat) (x q : Int), k ≤ 63 ∧ is = .int .i64 ((k : Int) - 1) ∧ xs = .int .i64 x ∧ qs = .int .i64 q ∧ Hid (x0 = x - y * q) ∧ Hid (y * 2 ^ k ≤ x) ∧ x ≤ 0 ∧ -9223372036854775808 ≤ x ∧ q ≤ 0 ∧ -9223372036854775808 ≤ q)
    (fun _ _ i => (intOf i + 1).toNat)
  case atStart =>
    exact ⟨63, x0, 0, by omega, rfl, rfl, rfl, by show x0 = x0 - y * 0; omega, by show y * 2 ^ 63 ≤ x0; omega, by omega, by omega, by omega, by omega⟩
  case round =>
    obtain ⟨k, x, q, hk, rfl, rfl, rfl, h1, h2, hx1, hx2, hq1, hq2⟩ := hrel
    rcases k with _ | j
    · have HE := hidden (div_end h1.out h2.out hx1 hb2)
      go_wp2
      all_goals go_ret2
      all_goals refine ⟨told_pair ?_ rfl, rfl⟩
      all_goals obtain ⟨hQ0, hQ1, hQz⟩ := HQ.out
      all_goals obtain ⟨hA, hB⟩ := HE.out
      all_goals try have ht := beq_dec (p := x0 < 0) (q := 0 < y) (by assumption)
      all_goals try have ht := beq_dec_not (p := x0 < 0) (q := 0 < y) (by assumption)
      all_goals try have ht := beq_dec (p := 0 < x0) (q := 0 < y) (by assumption)
      all_goals try have ht := beq_dec_not (p := 0 < x0) (q := 0 < y) (by assumption)
      all_goals first
        | (have hxy : x ≤ y := by assumption
           have e := hA hxy
           show _ = _
           rw [e]
           generalize dq x0 y = Q at *
           unfold wrap64; omega)
        | (have hxy : y < x := by assumption
           have e := hB hxy
           generalize dq x0 y = Q at *
           unfold wrap64; omega)
        | (have hxy : y < x := by assumption
           have e := hB hxy
           generalize dq x0 y = Q at *
           omega)
    · have ej : ((j + 1 : Nat) : Int) - 1 = (j : Int) := by omega
      rw [ej]; clear ej
      go_wp2
      · have ht : -9223372036854775807 / 2 ^ j ≤ y := by assumption
        have hz : x ≤ wrap64 (y * 2 ^ j) := by assumption
        obtain ⟨e1, e2, n1, n2, n3, n4, n5, n6⟩ := div_step (by omega) h1.out h2.out (by omega) hx1 hx2 hb2 hq1 ht hz
        go_round
        case rel => exact ⟨j, x - y * 2 ^ j, q - 2 ^ j, by omega, by go_num, congrArg _ e1, congrArg _ e2, n1, n2, n3, n4, n5, n6⟩
        case measure => simp [intOf]
      · have ht : -9223372036854775807 / 2 ^ j ≤ y := by assumption
        have hz : wrap64 (y * 2 ^ j) < x := by assumption
        have n2 := div_stay (by omega) hb2 ht hz
        go_round
        case rel => exact ⟨j, x, q, by omega, by go_num, rfl, rfl, h1, n2, hx1, hx2, hq1, hq2⟩
        case measure => simp [intOf]
      · have ht : ¬ -9223372036854775807 / 2 ^ j ≤ y := by assumption
        have n2 : y * 2 ^ j ≤ x := Int.le_trans (div_far ht) hx2
        go_round
        case rel => exact ⟨j, x, q, by omega, by go_num, rfl, rfl, h1, n2, hx1, hx2, hq1, hq2⟩
        case measure => simp [intOf]


theorem rdiv_any (a b : Int) (w : World) (ha1 : -9223372036854775808 ≤ a) (ha2 : a ≤ 9223372036854775807) (hb1 : -9223372036854775808 ≤ b) (hb2 : b ≤ 9223372036854775807) :
    Calls Try.prog 15 #[.int .i64 a, .int .i64 b] w fun e w' => e = .returned (.tuple #[.int .i64 (valD a b), .bool (okD a b)]) ∧ w' = w := by
  rcases hk : okD a b with _ | _
  · have ev : valD a b = 0 := by simp [valD, hk]
    rw [ev]; clear ev
    go_enter Try.func15, Try.ntmps15
    go_wp2_with (go_at_call 22; refine (rfits_any a b _ ha1 ha2 hb1 hb2).mono ?_)
    rintro e w' ⟨rfl, rfl⟩
    go_wp2
    go_ret2
    exact ⟨rfl, rfl⟩
  · have hb0 := (okD_true hk).1
    rw [valD_ok hk]
    by_cases ha : a ≤ 0
    · by_cases hb : b < 0
      · rw [tdiv_dq ha]
        exact rdiv_nn a b w ha1 ha hb1 hb hk
      · have h := rdiv_np a (-b) w ha1 ha (by omega) (by omega) (by rw [Int.neg_neg]; exact hk)
        rw [Int.neg_neg] at h
        have e : a.tdiv b = -dq a (-b) := by rw [← tdiv_dq ha, Int.tdiv_neg, Int.neg_neg]
        rw [e]; exact h
    · by_cases hb : b < 0
      · have h := rdiv_pn (-a) b w (by omega) (by omega) hb1 hb (by rw [Int.neg_neg]; exact hk)
        rw [Int.neg_neg] at h
        have e : a.tdiv b = -dq (-a) b := by rw [← tdiv_dq (by omega), Int.neg_tdiv, Int.neg_neg]
        rw [e]; exact h
      · have h := rdiv_pp (-a) (-b) w (by omega) (by omega) (by omega) (by omega) (by rw [Int.neg_neg, Int.neg_neg]; exact hk)
        rw [Int.neg_neg, Int.neg_neg] at h
        have e : a.tdiv b = dq (-a) (-b) := by rw [← tdiv_dq (by omega), Int.neg_tdiv_neg]
        rw [e]; exact h

theorem rmod_any (a b : Int) (w : World) (ha1 : -9223372036854775808 ≤ a) (ha2 : a ≤ 9223372036854775807) (hb1 : -9223372036854775808 ≤ b) (hb2 : b ≤ 9223372036854775807) :
    Calls Try.prog 17 #[.int .i64 a, .int .i64 b] w fun e w' => e = .returned (.tuple #[.int .i64 (valM a b), .bool (okD a b)]) ∧ w' = w := by
  rcases hk : okD a b with _ | _
  · have ev : valM a b = 0 := by simp [valM, hk]
    rw [ev]; clear ev
    go_enter Try.func17, Try.ntmps17
    go_wp2_with (go_at_call 15; refine (rdiv_any a b _ ha1 ha2 hb1 hb2).mono ?_)
    rintro e w' ⟨rfl, rfl⟩
    go_wp2
    go_ret2
    exact ⟨rfl, rfl⟩
  · go_enter Try.func17, Try.ntmps17
    go_wp2_with (go_at_call 15; refine (rdiv_any a b _ ha1 ha2 hb1 hb2).mono ?_)
    rintro e w' ⟨rfl, rfl⟩
    go_wp2
    go_ret2
    refine ⟨told_pair ?_ rfl, rfl⟩
    exact mod_end ⟨ha1, ha2⟩ hk

end Go.Proofs.Ytpcfhihmkddojaa
