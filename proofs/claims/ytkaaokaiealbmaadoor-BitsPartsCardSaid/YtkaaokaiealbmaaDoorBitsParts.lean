/- Proved: what is in a set is in just one of And and Less with any other set, and both together are all of it (statement BitsParts); the table of math/bits is as the program's text lays it (tied). -/
import Derived.Test.YtkaaokaiealbmaaDoorBitsDoor
import Derived.Test.YtkaaokaiealbmaaDoorCards
import Derived.Test.YtkaaokaiealbmaaDoorTie
import Derived.SevenTiedAt
namespace Go.Proofs.YtkaaokaiealbmaaDoor
open Go.ChangeShapes Go.WideShapes Go.ChangeAt Go.RowKit
set_option linter.unusedVariables false

set_option maxHeartbeats 1600000 in
set_option maxRecDepth 100000 in
/-- what the calls on i tell; three ways -/
theorem parts_tf (x y : Option Addr) (n c m c' : Nat) (A B : Nat → Nat) (i : Int) (w : World) (hT : Tab w) (hn : n ≤ 6) (hm : m ≤ 6) (hi : i ≤ 9223372036854775807) (hA : ∀ j, A j < 18446744073709551616) (hB : ∀ j, B j < 18446744073709551616)
    (hx : Rows' .u64 w x n (fun j => (A j : Int))) (hy : Rows' .u64 w y m (fun j => (B j : Int))) (hcx : x = none → n = 0 ∧ c = 0) (hcy : y = none → m = 0 ∧ c' = 0)
    (hp : hasB (min n m) (fun j => A j &&& B j) i = true) (hq : hasB n (fun j => A j &&& (18446744073709551615 - wd m B j)) i = false) (hr : hasB n A i = true) :
    Calls Tryd.prog 6 #[.slice x n c, .slice y m c', .int .i64 i] w fun e w' => e = .returned (.bool true) ∧ Below w.heap.size w w' := by
  have HT := hidden hT
  have HA := hidden hA
  have HB := hidden hB
  have HX := hidden hx
  have HY := hidden hy
  have HCX := hidden hcx
  have HCY := hidden hcy
  have HP : Hid (∀ j, A j &&& B j < 18446744073709551616) := fun j => Nat.lt_of_le_of_lt Nat.and_le_left (hA j)
  have HQ : Hid (∀ j, A j &&& (18446744073709551615 - wd m B j) < 18446744073709551616) := fun j => Nat.lt_of_le_of_lt Nat.and_le_left (hA j)
  have HS := hidden (parts_same n m A B hA hB)
  have HC := hidden (parts_count n m A B hB)
  have HPP := hidden hp
  have HQQ := hidden hq
  have HRR := hidden hr
  clear hT hA hB hx hy hcx hcy hp hq hr
  go_enter Tryd.func6, Tryd.ntmps6
  go_wp2_with fail
  refine (copied_any x n c _ w (by omega) HCX.out HX.out).mono ?_
  rintro e w1 ⟨g1, c1, rfl, hg1, hM1, hB1⟩
  have HM1a := hidden hM1
  have HB1 := hidden hB1
  clear hM1 hB1
  go_wp2_with fail
  refine (copied_any y m c' _ w1 (by omega) HCY.out (HY.out.below HB1.out)).mono ?_
  rintro e w2 ⟨g2, c2, rfl, hg2, hM2, hB2⟩
  have HM1b := hidden (HM1a.out.below hB2)
  have HM2 := hidden hM2
  have HB2 := hidden (HB1.out.trans (hB2.mono HB1.out.size))
  clear hM2 hB2 HM1a
  go_wp2_with fail
  refine (and_any n c1 m c2 _ _ A B w2 (by omega) (by omega) HA.out HB.out HM1b.out.rows HM2.out.rows).mono ?_
  rintro e w3 ⟨g3, rfl, hg3, hM3, hB3⟩
  have HM1c := hidden (HM1b.out.below hB3)
  have HM2c := hidden (HM2.out.below hB3)
  have HM3a := hidden hM3
  have HB3 := hidden (HB2.out.trans (hB3.mono HB2.out.size))
  clear hM3 hB3 HM1b HM2
  go_wp2_with fail
  refine (less_any n c1 m c2 _ _ A B w3 (by omega) (by omega) HA.out HB.out HM1c.out.rows HM2c.out.rows).mono ?_
  rintro e w4 ⟨g4, rfl, hg4, hM4, hB4⟩
  have HM1 := hidden (HM1c.out.below hB4)
  have HM3 := hidden (HM3a.out.below hB4)
  have HM4 := hidden hM4
  have HB4 := hidden (HB3.out.trans (hB4.mono HB3.out.size))
  clear hM4 hB4 HM1c HM2c HM3a hg1 hg2 hg3 hg4
  go_wp2_with fail
  refine (has_any _ (min n m) (min n m) (fun j => A j &&& B j) i (w4) (by omega) hi HP.out HM3.out.rows).mono ?_
  rintro e wq ⟨rfl, q0, hwq⟩
  rw [HPP.out, hwq]
  clear hwq wq
  go_wp2_with fail
  refine (has_any _ n c1 A i (w4.drewN (q0)) (by omega) hi HA.out HM1.out.rows).mono ?_
  rintro e wq ⟨rfl, q1, hwq⟩
  rw [HRR.out, hwq]
  clear hwq wq
  go_wp2_with fail
  refine (has_any _ (min n m) (min n m) (fun j => A j &&& B j) i (w4.drewN (q0 + q1)) (by omega) hi HP.out HM3.out.rows).mono ?_
  rintro e wq ⟨rfl, q2, hwq⟩
  rw [HPP.out, hwq]
  clear hwq wq
  go_wp2_with fail
  refine (has_any _ n n (fun j => A j &&& (18446744073709551615 - wd m B j)) i (w4.drewN (q0 + q1 + q2)) (by omega) hi HQ.out HM4.out.rows).mono ?_
  rintro e wq ⟨rfl, q3, hwq⟩
  rw [HQQ.out, hwq]
  clear hwq wq
  go_wp2_with fail
  refine (or_any (min n m) (min n m) n n _ _ (fun j => A j &&& B j) (fun j => A j &&& (18446744073709551615 - wd m B j)) (w4.drewN (q0 + q1 + q2 + q3)) (by omega) (by omega) HP.out HQ.out HM3.out.rows HM4.out.rows).mono ?_
  rintro e w5 ⟨g5, rfl, hg5, hM5, hB5⟩
  have hB5 : Below w4.heap.size w4 w5 := (below_drewN w4 _ _).trans hB5
  have HB5 := hidden (HB4.out.trans (hB5.mono HB4.out.size))
  have HM5 := hidden hM5
  have HM35 := hidden (HM3.out.below hB5)
  have HM45 := hidden (HM4.out.below hB5)
  have HM15 := hidden (HM1.out.below hB5)
  clear hM5 hB5 hg5 HM3 HM4 HM1
  go_wp2_with fail
  refine (same_any _ _ (max (min n m) n) n _ c1 _ A w5 (by omega) (by omega) HM5.out.rows HM15.out.rows).mono ?_
  rintro e w6 ⟨rfl, hw6⟩
  rw [hw6, HS.out]
  clear hw6 w6
  go_wp2_with fail
  refine (count_any _ (min n m) (min n m) (fun j => A j &&& B j) w5 (by omega) HP.out HM35.out.rows).mono ?_
  rintro e w6 ⟨rfl, hw6⟩
  rw [hw6]
  clear hw6 w6
  go_wp2_with fail
  refine (count_any _ n n (fun j => A j &&& (18446744073709551615 - wd m B j)) w5 (by omega) HQ.out HM45.out.rows).mono ?_
  rintro e w6 ⟨rfl, hw6⟩
  rw [hw6]
  clear hw6 w6
  have hl1 := tally_le (min n m) (fun j => A j &&& B j)
  have hl2 := tally_le n (fun j => A j &&& (18446744073709551615 - wd m B j))
  go_wp2_with fail
  refine (count_any _ n c1 A w5 (by omega) HA.out HM15.out.rows).mono ?_
  rintro e w6 ⟨rfl, hw6⟩
  rw [hw6]
  clear hw6 w6
  obtain ⟨t1, ht1⟩ : ∃ t, t = tally (min n m) (fun j => A j &&& B j) := ⟨_, rfl⟩
  obtain ⟨t2, ht2⟩ : ∃ t, t = tally n (fun j => A j &&& (18446744073709551615 - wd m B j)) := ⟨_, rfl⟩
  have hct := HC.out
  rw [← ht1, ← ht2] at hct
  rw [← ht1] at hl1
  rw [← ht2] at hl2
  rw [← ht1, ← ht2, ← hct]
  clear ht1 ht2 hct
  have heq : (((t1 : Int) + (t2 : Int)) == ((t1 + t2 : Nat) : Int)) = true := by simp
  go_wp2_with fail
  refine (works_any w5 (HT.out.below HB5.out)).mono ?_
  rintro e w6 ⟨rfl, hb6⟩
  have HB6 := hidden (HB5.out.trans (hb6.mono HB5.out.size))
  clear hb6
  go_wp2_with fail
  go_ret
  exact ⟨rfl, HB6.out⟩

set_option maxHeartbeats 1600000 in
set_option maxRecDepth 100000 in
/-- what the calls on i tell; three ways -/
theorem parts_ft (x y : Option Addr) (n c m c' : Nat) (A B : Nat → Nat) (i : Int) (w : World) (hT : Tab w) (hn : n ≤ 6) (hm : m ≤ 6) (hi : i ≤ 9223372036854775807) (hA : ∀ j, A j < 18446744073709551616) (hB : ∀ j, B j < 18446744073709551616)
    (hx : Rows' .u64 w x n (fun j => (A j : Int))) (hy : Rows' .u64 w y m (fun j => (B j : Int))) (hcx : x = none → n = 0 ∧ c = 0) (hcy : y = none → m = 0 ∧ c' = 0)
    (hp : hasB (min n m) (fun j => A j &&& B j) i = false) (hq : hasB n (fun j => A j &&& (18446744073709551615 - wd m B j)) i = true) (hr : hasB n A i = true) :
    Calls Tryd.prog 6 #[.slice x n c, .slice y m c', .int .i64 i] w fun e w' => e = .returned (.bool true) ∧ Below w.heap.size w w' := by
  have HT := hidden hT
  have HA := hidden hA
  have HB := hidden hB
  have HX := hidden hx
  have HY := hidden hy
  have HCX := hidden hcx
  have HCY := hidden hcy
  have HP : Hid (∀ j, A j &&& B j < 18446744073709551616) := fun j => Nat.lt_of_le_of_lt Nat.and_le_left (hA j)
  have HQ : Hid (∀ j, A j &&& (18446744073709551615 - wd m B j) < 18446744073709551616) := fun j => Nat.lt_of_le_of_lt Nat.and_le_left (hA j)
  have HS := hidden (parts_same n m A B hA hB)
  have HC := hidden (parts_count n m A B hB)
  have HPP := hidden hp
  have HQQ := hidden hq
  have HRR := hidden hr
  clear hT hA hB hx hy hcx hcy hp hq hr
  go_enter Tryd.func6, Tryd.ntmps6
  go_wp2_with fail
  refine (copied_any x n c _ w (by omega) HCX.out HX.out).mono ?_
  rintro e w1 ⟨g1, c1, rfl, hg1, hM1, hB1⟩
  have HM1a := hidden hM1
  have HB1 := hidden hB1
  clear hM1 hB1
  go_wp2_with fail
  refine (copied_any y m c' _ w1 (by omega) HCY.out (HY.out.below HB1.out)).mono ?_
  rintro e w2 ⟨g2, c2, rfl, hg2, hM2, hB2⟩
  have HM1b := hidden (HM1a.out.below hB2)
  have HM2 := hidden hM2
  have HB2 := hidden (HB1.out.trans (hB2.mono HB1.out.size))
  clear hM2 hB2 HM1a
  go_wp2_with fail
  refine (and_any n c1 m c2 _ _ A B w2 (by omega) (by omega) HA.out HB.out HM1b.out.rows HM2.out.rows).mono ?_
  rintro e w3 ⟨g3, rfl, hg3, hM3, hB3⟩
  have HM1c := hidden (HM1b.out.below hB3)
  have HM2c := hidden (HM2.out.below hB3)
  have HM3a := hidden hM3
  have HB3 := hidden (HB2.out.trans (hB3.mono HB2.out.size))
  clear hM3 hB3 HM1b HM2
  go_wp2_with fail
  refine (less_any n c1 m c2 _ _ A B w3 (by omega) (by omega) HA.out HB.out HM1c.out.rows HM2c.out.rows).mono ?_
  rintro e w4 ⟨g4, rfl, hg4, hM4, hB4⟩
  have HM1 := hidden (HM1c.out.below hB4)
  have HM3 := hidden (HM3a.out.below hB4)
  have HM4 := hidden hM4
  have HB4 := hidden (HB3.out.trans (hB4.mono HB3.out.size))
  clear hM4 hB4 HM1c HM2c HM3a hg1 hg2 hg3 hg4
  go_wp2_with fail
  refine (has_any _ (min n m) (min n m) (fun j => A j &&& B j) i (w4) (by omega) hi HP.out HM3.out.rows).mono ?_
  rintro e wq ⟨rfl, q0, hwq⟩
  rw [HPP.out, hwq]
  clear hwq wq
  go_wp2_with fail
  refine (has_any _ n n (fun j => A j &&& (18446744073709551615 - wd m B j)) i (w4.drewN (q0)) (by omega) hi HQ.out HM4.out.rows).mono ?_
  rintro e wq ⟨rfl, q1, hwq⟩
  rw [HQQ.out, hwq]
  clear hwq wq
  go_wp2_with fail
  refine (has_any _ n c1 A i (w4.drewN (q0 + q1)) (by omega) hi HA.out HM1.out.rows).mono ?_
  rintro e wq ⟨rfl, q2, hwq⟩
  rw [HRR.out, hwq]
  clear hwq wq
  go_wp2_with fail
  refine (has_any _ (min n m) (min n m) (fun j => A j &&& B j) i (w4.drewN (q0 + q1 + q2)) (by omega) hi HP.out HM3.out.rows).mono ?_
  rintro e wq ⟨rfl, q3, hwq⟩
  rw [HPP.out, hwq]
  clear hwq wq
  go_wp2_with fail
  refine (or_any (min n m) (min n m) n n _ _ (fun j => A j &&& B j) (fun j => A j &&& (18446744073709551615 - wd m B j)) (w4.drewN (q0 + q1 + q2 + q3)) (by omega) (by omega) HP.out HQ.out HM3.out.rows HM4.out.rows).mono ?_
  rintro e w5 ⟨g5, rfl, hg5, hM5, hB5⟩
  have hB5 : Below w4.heap.size w4 w5 := (below_drewN w4 _ _).trans hB5
  have HB5 := hidden (HB4.out.trans (hB5.mono HB4.out.size))
  have HM5 := hidden hM5
  have HM35 := hidden (HM3.out.below hB5)
  have HM45 := hidden (HM4.out.below hB5)
  have HM15 := hidden (HM1.out.below hB5)
  clear hM5 hB5 hg5 HM3 HM4 HM1
  go_wp2_with fail
  refine (same_any _ _ (max (min n m) n) n _ c1 _ A w5 (by omega) (by omega) HM5.out.rows HM15.out.rows).mono ?_
  rintro e w6 ⟨rfl, hw6⟩
  rw [hw6, HS.out]
  clear hw6 w6
  go_wp2_with fail
  refine (count_any _ (min n m) (min n m) (fun j => A j &&& B j) w5 (by omega) HP.out HM35.out.rows).mono ?_
  rintro e w6 ⟨rfl, hw6⟩
  rw [hw6]
  clear hw6 w6
  go_wp2_with fail
  refine (count_any _ n n (fun j => A j &&& (18446744073709551615 - wd m B j)) w5 (by omega) HQ.out HM45.out.rows).mono ?_
  rintro e w6 ⟨rfl, hw6⟩
  rw [hw6]
  clear hw6 w6
  have hl1 := tally_le (min n m) (fun j => A j &&& B j)
  have hl2 := tally_le n (fun j => A j &&& (18446744073709551615 - wd m B j))
  go_wp2_with fail
  refine (count_any _ n c1 A w5 (by omega) HA.out HM15.out.rows).mono ?_
  rintro e w6 ⟨rfl, hw6⟩
  rw [hw6]
  clear hw6 w6
  obtain ⟨t1, ht1⟩ : ∃ t, t = tally (min n m) (fun j => A j &&& B j) := ⟨_, rfl⟩
  obtain ⟨t2, ht2⟩ : ∃ t, t = tally n (fun j => A j &&& (18446744073709551615 - wd m B j)) := ⟨_, rfl⟩
  have hct := HC.out
  rw [← ht1, ← ht2] at hct
  rw [← ht1] at hl1
  rw [← ht2] at hl2
  rw [← ht1, ← ht2, ← hct]
  clear ht1 ht2 hct
  have heq : (((t1 : Int) + (t2 : Int)) == ((t1 + t2 : Nat) : Int)) = true := by simp
  go_wp2_with fail
  refine (works_any w5 (HT.out.below HB5.out)).mono ?_
  rintro e w6 ⟨rfl, hb6⟩
  have HB6 := hidden (HB5.out.trans (hb6.mono HB5.out.size))
  clear hb6
  go_wp2_with fail
  go_ret
  exact ⟨rfl, HB6.out⟩

set_option maxHeartbeats 1600000 in
set_option maxRecDepth 100000 in
/-- what the calls on i tell; three ways -/
theorem parts_ff (x y : Option Addr) (n c m c' : Nat) (A B : Nat → Nat) (i : Int) (w : World) (hT : Tab w) (hn : n ≤ 6) (hm : m ≤ 6) (hi : i ≤ 9223372036854775807) (hA : ∀ j, A j < 18446744073709551616) (hB : ∀ j, B j < 18446744073709551616)
    (hx : Rows' .u64 w x n (fun j => (A j : Int))) (hy : Rows' .u64 w y m (fun j => (B j : Int))) (hcx : x = none → n = 0 ∧ c = 0) (hcy : y = none → m = 0 ∧ c' = 0)
    (hp : hasB (min n m) (fun j => A j &&& B j) i = false) (hq : hasB n (fun j => A j &&& (18446744073709551615 - wd m B j)) i = false) (hr : hasB n A i = false) :
    Calls Tryd.prog 6 #[.slice x n c, .slice y m c', .int .i64 i] w fun e w' => e = .returned (.bool true) ∧ Below w.heap.size w w' := by
  have HT := hidden hT
  have HA := hidden hA
  have HB := hidden hB
  have HX := hidden hx
  have HY := hidden hy
  have HCX := hidden hcx
  have HCY := hidden hcy
  have HP : Hid (∀ j, A j &&& B j < 18446744073709551616) := fun j => Nat.lt_of_le_of_lt Nat.and_le_left (hA j)
  have HQ : Hid (∀ j, A j &&& (18446744073709551615 - wd m B j) < 18446744073709551616) := fun j => Nat.lt_of_le_of_lt Nat.and_le_left (hA j)
  have HS := hidden (parts_same n m A B hA hB)
  have HC := hidden (parts_count n m A B hB)
  have HPP := hidden hp
  have HQQ := hidden hq
  have HRR := hidden hr
  clear hT hA hB hx hy hcx hcy hp hq hr
  go_enter Tryd.func6, Tryd.ntmps6
  go_wp2_with fail
  refine (copied_any x n c _ w (by omega) HCX.out HX.out).mono ?_
  rintro e w1 ⟨g1, c1, rfl, hg1, hM1, hB1⟩
  have HM1a := hidden hM1
  have HB1 := hidden hB1
  clear hM1 hB1
  go_wp2_with fail
  refine (copied_any y m c' _ w1 (by omega) HCY.out (HY.out.below HB1.out)).mono ?_
  rintro e w2 ⟨g2, c2, rfl, hg2, hM2, hB2⟩
  have HM1b := hidden (HM1a.out.below hB2)
  have HM2 := hidden hM2
  have HB2 := hidden (HB1.out.trans (hB2.mono HB1.out.size))
  clear hM2 hB2 HM1a
  go_wp2_with fail
  refine (and_any n c1 m c2 _ _ A B w2 (by omega) (by omega) HA.out HB.out HM1b.out.rows HM2.out.rows).mono ?_
  rintro e w3 ⟨g3, rfl, hg3, hM3, hB3⟩
  have HM1c := hidden (HM1b.out.below hB3)
  have HM2c := hidden (HM2.out.below hB3)
  have HM3a := hidden hM3
  have HB3 := hidden (HB2.out.trans (hB3.mono HB2.out.size))
  clear hM3 hB3 HM1b HM2
  go_wp2_with fail
  refine (less_any n c1 m c2 _ _ A B w3 (by omega) (by omega) HA.out HB.out HM1c.out.rows HM2c.out.rows).mono ?_
  rintro e w4 ⟨g4, rfl, hg4, hM4, hB4⟩
  have HM1 := hidden (HM1c.out.below hB4)
  have HM3 := hidden (HM3a.out.below hB4)
  have HM4 := hidden hM4
  have HB4 := hidden (HB3.out.trans (hB4.mono HB3.out.size))
  clear hM4 hB4 HM1c HM2c HM3a hg1 hg2 hg3 hg4
  go_wp2_with fail
  refine (has_any _ (min n m) (min n m) (fun j => A j &&& B j) i (w4) (by omega) hi HP.out HM3.out.rows).mono ?_
  rintro e wq ⟨rfl, q0, hwq⟩
  rw [HPP.out, hwq]
  clear hwq wq
  go_wp2_with fail
  refine (has_any _ n n (fun j => A j &&& (18446744073709551615 - wd m B j)) i (w4.drewN (q0)) (by omega) hi HQ.out HM4.out.rows).mono ?_
  rintro e wq ⟨rfl, q1, hwq⟩
  rw [HQQ.out, hwq]
  clear hwq wq
  go_wp2_with fail
  refine (has_any _ n c1 A i (w4.drewN (q0 + q1)) (by omega) hi HA.out HM1.out.rows).mono ?_
  rintro e wq ⟨rfl, q2, hwq⟩
  rw [HRR.out, hwq]
  clear hwq wq
  go_wp2_with fail
  refine (has_any _ (min n m) (min n m) (fun j => A j &&& B j) i (w4.drewN (q0 + q1 + q2)) (by omega) hi HP.out HM3.out.rows).mono ?_
  rintro e wq ⟨rfl, q3, hwq⟩
  rw [HPP.out, hwq]
  clear hwq wq
  go_wp2_with fail
  refine (or_any (min n m) (min n m) n n _ _ (fun j => A j &&& B j) (fun j => A j &&& (18446744073709551615 - wd m B j)) (w4.drewN (q0 + q1 + q2 + q3)) (by omega) (by omega) HP.out HQ.out HM3.out.rows HM4.out.rows).mono ?_
  rintro e w5 ⟨g5, rfl, hg5, hM5, hB5⟩
  have hB5 : Below w4.heap.size w4 w5 := (below_drewN w4 _ _).trans hB5
  have HB5 := hidden (HB4.out.trans (hB5.mono HB4.out.size))
  have HM5 := hidden hM5
  have HM35 := hidden (HM3.out.below hB5)
  have HM45 := hidden (HM4.out.below hB5)
  have HM15 := hidden (HM1.out.below hB5)
  clear hM5 hB5 hg5 HM3 HM4 HM1
  go_wp2_with fail
  refine (same_any _ _ (max (min n m) n) n _ c1 _ A w5 (by omega) (by omega) HM5.out.rows HM15.out.rows).mono ?_
  rintro e w6 ⟨rfl, hw6⟩
  rw [hw6, HS.out]
  clear hw6 w6
  go_wp2_with fail
  refine (count_any _ (min n m) (min n m) (fun j => A j &&& B j) w5 (by omega) HP.out HM35.out.rows).mono ?_
  rintro e w6 ⟨rfl, hw6⟩
  rw [hw6]
  clear hw6 w6
  go_wp2_with fail
  refine (count_any _ n n (fun j => A j &&& (18446744073709551615 - wd m B j)) w5 (by omega) HQ.out HM45.out.rows).mono ?_
  rintro e w6 ⟨rfl, hw6⟩
  rw [hw6]
  clear hw6 w6
  have hl1 := tally_le (min n m) (fun j => A j &&& B j)
  have hl2 := tally_le n (fun j => A j &&& (18446744073709551615 - wd m B j))
  go_wp2_with fail
  refine (count_any _ n c1 A w5 (by omega) HA.out HM15.out.rows).mono ?_
  rintro e w6 ⟨rfl, hw6⟩
  rw [hw6]
  clear hw6 w6
  obtain ⟨t1, ht1⟩ : ∃ t, t = tally (min n m) (fun j => A j &&& B j) := ⟨_, rfl⟩
  obtain ⟨t2, ht2⟩ : ∃ t, t = tally n (fun j => A j &&& (18446744073709551615 - wd m B j)) := ⟨_, rfl⟩
  have hct := HC.out
  rw [← ht1, ← ht2] at hct
  rw [← ht1] at hl1
  rw [← ht2] at hl2
  rw [← ht1, ← ht2, ← hct]
  clear ht1 ht2 hct
  have heq : (((t1 : Int) + (t2 : Int)) == ((t1 + t2 : Nat) : Int)) = true := by simp
  go_wp2_with fail
  refine (works_any w5 (HT.out.below HB5.out)).mono ?_
  rintro e w6 ⟨rfl, hb6⟩
  have HB6 := hidden (HB5.out.trans (hb6.mono HB5.out.size))
  clear hb6
  go_wp2_with fail
  go_ret
  exact ⟨rfl, HB6.out⟩

theorem parts_small (x y : Option Addr) (n c m c' : Nat) (A B : Nat → Nat) (i : Int) (w : World) (hT : Tab w) (hn : n ≤ 6) (hm : m ≤ 6) (hi : i ≤ 9223372036854775807) (hA : ∀ j, A j < 18446744073709551616) (hB : ∀ j, B j < 18446744073709551616)
    (hx : Rows' .u64 w x n (fun j => (A j : Int))) (hy : Rows' .u64 w y m (fun j => (B j : Int))) (hcx : x = none → n = 0 ∧ c = 0) (hcy : y = none → m = 0 ∧ c' = 0) :
    Calls Tryd.prog 6 #[.slice x n c, .slice y m c', .int .i64 i] w fun e w' => e = .returned (.bool true) ∧ Below w.heap.size w w' := by
  obtain ⟨hp, hq⟩ := parts_has n m A B hB i
  cases hr : hasB n A i
  · rw [hr] at hp hq
    exact parts_ff x y n c m c' A B i w hT hn hm hi hA hB hx hy hcx hcy hp hq hr
  · cases hs : hasB m B i
    · rw [hr, hs] at hp hq
      exact parts_ft x y n c m c' A B i w hT hn hm hi hA hB hx hy hcx hcy hp hq hr
    · rw [hr, hs] at hp hq
      exact parts_tf x y n c m c' A B i w hT hn hm hi hA hB hx hy hcx hcy hp hq hr
theorem parts_long (x y : Option Addr) (n c m c' : Nat) (i : Int) (w : World) (hT : Tab w) (hn : n ≤ 9223372036854775807) (hm : m ≤ 9223372036854775807) (h : 6 < n ∨ 6 < m) :
    Calls Tryd.prog 6 #[.slice x n c, .slice y m c', .int .i64 i] w fun e w' => e = .returned (.bool true) ∧ Below w.heap.size w w' := by
  have HT := hidden hT
  clear hT
  by_cases h6 : 6 < n
  · go_enter Tryd.func6, Tryd.ntmps6
    go_wp2_with fail
    refine (works_any _ HT.out).mono ?_
    rintro e w6 ⟨rfl, hb6⟩
    have HB6 := hidden hb6
    clear hb6
    go_wp2_with fail
    go_ret
    exact ⟨rfl, HB6.out⟩
  · have h7 : 6 < m := by omega
    have h8 : n ≤ 6 := by omega
    clear h h6
    go_enter Tryd.func6, Tryd.ntmps6
    go_wp2_with fail
    refine (works_any _ HT.out).mono ?_
    rintro e w6 ⟨rfl, hb6⟩
    have HB6 := hidden hb6
    clear hb6
    go_wp2_with fail
    go_ret
    exact ⟨rfl, HB6.out⟩
theorem parts_walk (a0 : Option Addr) (len0 cap0 : Nat) (z0 : List Int) (a1 : Option Addr) (len1 cap1 : Nat) (z1 : List Int) (a2 : Int) (w : World) (hT : Tab w) (w0 : IsRow .u64 w a0 len0 cap0 z0) (w1 : IsRow .u64 w a1 len1 cap1 z1) (w2 : (Lit.int .i64 a2).wf = true) :
    Calls Tryd.prog 6 #[.slice a0 len0 cap0, .slice a1 len1 cap1, .int .i64 a2] w fun e w' => e = .returned (.bool true) ∧ Below w.heap.size w w' := by
  by_cases h : 6 < len0 ∨ 6 < len1
  · exact parts_long a0 a1 len0 cap0 len1 cap1 a2 w hT w0.len.2 w1.len.2 h
  · exact parts_small a0 a1 len0 cap0 len1 cap1 (wordsIn z0) (wordsIn z1) a2 w hT (by omega) (by omega) (bounds_i64 w2).2 (wordsIn_lt w0) (wordsIn_lt w1) w0.words w1.words w0.none w1.none

set_option maxRecDepth 100000 in
theorem parts_lifted (os : Os) (started : os.Started) (H : Type) (enc : TypeId × Value → H) :
    ReturnsInHanded {} Tryd.checked os 6 .any (fun w args => (Rows.bitsPartsSpec.pre enc Tryd.prog Tryd.f6 [] false w args ∧ laidMetH Tryd.prog laid1 w) ∧ sizedMet enc Tryd.prog Tryd.f6 (OpenSpec.ofChange Rows.bitsPartsSpec) false w args)
      (Rows.bitsPartsSpec.post enc Tryd.prog Tryd.f6 false true false false) := by
  refine returnsInHanded_of_change_and (C := Tryd.checked) (X := fun w _ => laidMetH Tryd.prog laid1 w) (fun _ _ _ hh h => h.of_heap hh) own started (by kernel_rfl) Tryd.func6
    (ChangeSpec.witness_shaped (enc := enc) (C := Tryd.checked) (os := os) (X := fun w _ => laidMetH Tryd.prog laid1 w) false (World.doorLaid Tryd.prog 400 os) #[.slice none 0 0, .slice none 0 0, .int .i64 0] 8 rfl (World.shaped_of_RefB (by kernel_rfl) (by kernel_rfl)) (by kernel_rfl) (by kernel_rfl) (by kernel_rfl) (door_met os _)) ?_
  intro W base args ds gs before hval0 hW _ _ hL _
  have hT := of_laid hL
  have hval : ∀ (j : Nat) t v, Tryd.f6.params[j]? = some t → args[j]? = some v → Value.okWide Tryd.prog W .any base t v := hval0
  have hW' := hW
  obtain ⟨p, q, hA0, hV, rfl, hfz, hnd⟩ := hW
  have hA : DataW.TrodAll enc Tryd.prog W 0 (fun _ => true) true Tryd.f6.params.toList args.toList ds p := hA0
  rw [Tryd.params6] at hA hval
  obtain ⟨v0, vs0, d0, ds0, p0, q0, hargs, rfl, rfl, h0, r0⟩ := trodAll_cons hA
  obtain ⟨v1, vs1, d1, ds1, p1, q1, rfl, rfl, rfl, h1, r1⟩ := trodAll_cons r0
  obtain ⟨v2, vs2, d2, ds2, p2, q2, rfl, rfl, rfl, h2, r2⟩ := trodAll_cons r1
  obtain ⟨rfl, rfl, rfl⟩ := trodAll_nil r2
  obtain rfl : args = #[v0, v1, v2] := by cases args; simp_all
  obtain ⟨rfl, rfl⟩ := trodVars_none hV
  obtain ⟨a0, len0, cap0, rfl⟩ := okWide_slice Tryd.underlying23 (hval 0 23 v0 rfl rfl)
  have k0 := h0
  have lt0 : ∀ x ∈ p0, x.block < W.heap.size := by obtain ⟨m, hm⟩ := k0; exact DataW.trod_lt m _ _ _ hm
  obtain ⟨z0, w0⟩ : ∃ zs, IsRow .u64 W a0 len0 cap0 zs := by
    obtain ⟨fuel, hf⟩ := h0
    rcases open_ints Tryd.underlying23 Tryd.underlying48 (by kernel_rfl) hf with ⟨hcs, _⟩ | ⟨x, l, c, zs, hcs, _, hl, hm, hz, _, hcell, hwz⟩
    · simp [Value.cells] at hcs
      obtain ⟨rfl, rfl, rfl⟩ := hcs
      exact ⟨[], .inl ⟨rfl, rfl, rfl, rfl⟩⟩
    · simp [Value.cells] at hcs
      obtain ⟨rfl, rfl, rfl⟩ := hcs
      exact ⟨zs, .inr ⟨_, rfl, hl, hm, by simpa using hz, hcell, hwz⟩⟩
  obtain ⟨a1, len1, cap1, rfl⟩ := okWide_slice Tryd.underlying23 (hval 1 23 v1 rfl rfl)
  have k1 := h1
  have lt1 : ∀ x ∈ p1, x.block < W.heap.size := by obtain ⟨m, hm⟩ := k1; exact DataW.trod_lt m _ _ _ hm
  obtain ⟨z1, w1⟩ : ∃ zs, IsRow .u64 W a1 len1 cap1 zs := by
    obtain ⟨fuel, hf⟩ := h1
    rcases open_ints Tryd.underlying23 Tryd.underlying48 (by kernel_rfl) hf with ⟨hcs, _⟩ | ⟨x, l, c, zs, hcs, _, hl, hm, hz, _, hcell, hwz⟩
    · simp [Value.cells] at hcs
      obtain ⟨rfl, rfl, rfl⟩ := hcs
      exact ⟨[], .inl ⟨rfl, rfl, rfl, rfl⟩⟩
    · simp [Value.cells] at hcs
      obtain ⟨rfl, rfl, rfl⟩ := hcs
      exact ⟨zs, .inr ⟨_, rfl, hl, hm, by simpa using hz, hcell, hwz⟩⟩
  obtain ⟨a2, rfl, rfl, rfl, w2⟩ := open_int Tryd.underlying3 (hval 2 3 v2 rfl rfl) h2
  clear hA0 hval0
  refine (parts_walk a0 len0 cap0 z0 a1 len1 cap1 z1 a2 W hT w0 w1 w2).mono fun e W' ⟨he, bel⟩ => ?_
  subst he
  exact ⟨_, rfl, _, _, _, [], _, [], hW', trodAll_mk1 (shut_bool Tryd.underlying4 _), (trodAll_cons_mk (Below.trod laidOut (by kernel_rfl) (of_decide_eq_true (by kernel_rfl)) k0 bel lt0) (trodAll_cons_mk (Below.trod laidOut (by kernel_rfl) (of_decide_eq_true (by kernel_rfl)) k1 bel lt1) (trodAll_cons_mk (shut_int Tryd.underlying3 w2) trodAll_mk0))), rfl, bel.frame _, fun h => by cases h⟩

theorem parts_over : Rows.BitsPartsSaid :=
  OpenClaim.holds_of_wide 6 Tryd.f6 rfl rfl rfl rfl rfl rfl rfl ⟨rfl, rfl, rfl, rfl, rfl⟩ rfl rfl rfl rfl rfl (by kernel_rfl) Tryd.func6 (by kernel_rfl)
    (of_decide_eq_true (by kernel_rfl)) (by unfold Func.isWrapper; first | (rw [if_pos (by decide +kernel)]; kernel_rfl) | (rw [if_neg (by decide +kernel)]; exact ⟨rfl, rfl⟩))
    (fun os started H enc _ => parts_lifted os started H enc)

/-- the statement: the card, tied to the program's text -/
theorem parts_holds : Rows.BitsPartsCardSaid :=
  Claim7.holds_tied_plain_at .later [] [.data] true Rows.bitsPartsCard.stood.harness false
    parts_over (fun _ h => by cases h) (by kernel_rfl) (fun _ h => by cases h) bitsParts_row_tie rfl ⟨rfl, rfl⟩ (by kernel_rfl) rfl
    (fun f fn hf hfn => by
      obtain rfl : f = 6 := Option.some.inj ((show Tryd.prog.funcNamed "balustrade/balustradelaw02.BitsParts" = some 6 by kernel_rfl).symm.trans hf) |>.symm
      obtain rfl : fn = Tryd.f6 := (Option.some.inj (Tryd.func6.symm.trans hfn)).symm
      exact ⟨by kernel_rfl, fun j t ht => by
        rw [Tryd.params6] at ht
        have hm : t ∈ [23, 23, 3] := by simpa using Array.mem_of_getElem? ht
        have hall : ([23, 23, 3].all fun u => !Tryd.prog.wantsStandIn u) = true := by kernel_rfl
        exact (show Tryd.prog.wantsStandIn t = false by simpa using List.all_eq_true.1 hall t hm)⟩)
    (by kernel_rfl)
#print axioms parts_holds
end Go.Proofs.YtkaaokaiealbmaaDoor
