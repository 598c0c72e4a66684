/- Proved: the sets of none, of all and of some numbers of any width, and whether any set may be, are as the document says (statement BitsMakes); the table of math/bits is as the program's text lays it (tied). -/
import Derived.Test.YtkaaokaiealbmaaDoorBitsDoor
import Derived.Test.YtkaaokaiealbmaaDoorBitsMore
import Derived.Test.YtkaaokaiealbmaaDoorCards
import Derived.Test.YtkaaokaiealbmaaDoorTie
import Derived.SevenTiedAt
namespace Go.Proofs.YtkaaokaiealbmaaDoor
open Go.ChangeShapes Go.WideShapes Go.ChangeAt Go.RowKit
set_option linter.unusedVariables false

/-- what the statement holds on to -/
structure Env2 (w0 w : World) (al : Option Addr) (u : Nat) : Prop where
  ra : Rows' .i64 w al u (fun j => (upTo u).getD j 0)
  below : Below w0.heap.size w0 w
theorem Env2.go {w0 w w' : World} {al : Option Addr} {u : Nat} (h : Env2 w0 w al u) (hb : Below w.heap.size w w') : Env2 w0 w' al u :=
  ⟨h.ra.below hb, h.below.trans (hb.mono h.below.size)⟩

set_option maxHeartbeats 1600000 in
set_option maxRecDepth 100000 in
theorem makes_not (u : Int) (x y : Option Addr) (n c m c' : Nat) (f : Nat → Int) (A : Nat → Nat) (w : World) (hT : Tab w) (hn : n ≤ 30) (hm : m ≤ 8) (hu : isW u = false) (hu2 : u < 0 ∨ 65536 < u) (hA : ∀ j, A j < 18446744073709551616)
    (hf : ∀ j, j < n → f j ≤ 9223372036854775807) (hx : Rows' .i64 w x n f) (hy : Rows' .u64 w y m (fun j => (A j : Int))) (hcy : y = none → m = 0 ∧ c' = 0) :
    Calls Tryd.prog 3 #[.int .i64 u, .slice x n c, .slice y m c'] w fun e w' => e = .returned (.bool true) ∧ Below w.heap.size w w' := by
  have HT := hidden hT
  have HA := hidden hA
  have HF := hidden hf
  have HX := hidden hx
  have HY := hidden hy
  have HCY := hidden hcy
  have hnil := eql_nil
  clear hT hA hf hx hy hcy
  rcases hu2 with hu2 | hu2
  · have hu3 : ¬ 512 < u := by omega
    go_enter Tryd.func3, Tryd.ntmps3
    go_wp2_with fail
    refine (may_any u _).mono ?_
    rintro e w1 ⟨rfl, hw1⟩
    rw [hw1, hu]
    clear hw1 w1
    go_wp2_with fail
    refine (new_not u _ hu).mono ?_
    rintro e w1 ⟨rfl, hw1⟩
    rw [hw1]
    clear hw1 w1
    go_wp2_with fail
    refine (full_not u _ hu).mono ?_
    rintro e w1 ⟨rfl, hw1⟩
    rw [hw1]
    clear hw1 w1
    go_wp2_with fail
    refine (of_not u x n c f _ hu (by omega) HX.out HF.out).mono ?_
    rintro e w1 ⟨rfl, q1, hw1⟩
    rw [hw1]
    clear hw1 w1
    go_wp2_with fail
    refine (copied_any y m c' _ (w.drewN q1) (by omega) HCY.out HY.out).mono ?_
    rintro e w2 ⟨g2, c2, rfl, _, hM2, hB2⟩
    have HB2 : Hid (Below w.heap.size w w2) := (below_drewN w q1 _).trans hB2
    clear hM2 hB2
    go_wp2_with fail
    refine (right_not _ m c2 u w2 hu).mono ?_
    rintro e w1 ⟨rfl, q2, hw1⟩
    rw [hw1]
    clear hw1 w1
    go_wp2_with fail
    refine (works_any (w2.drewN q2) (HT.out.below (HB2.out.trans (below_drewN _ _ _)))).mono ?_
    rintro e w6 ⟨rfl, hb6⟩
    have HB6 := hidden (HB2.out.trans (((below_drewN w2 q2 _).trans hb6).mono HB2.out.size))
    clear hb6
    go_wp2_with fail
    go_ret
    exact ⟨rfl, HB6.out⟩
  · have hu3 : 512 < u := by omega
    have hu4 : ¬ u ≤ 65536 := by omega
    go_enter Tryd.func3, Tryd.ntmps3
    go_wp2_with fail
    refine (may_any u _).mono ?_
    rintro e w1 ⟨rfl, hw1⟩
    rw [hw1, hu]
    clear hw1 w1
    go_wp2_with fail
    refine (new_not u _ hu).mono ?_
    rintro e w1 ⟨rfl, hw1⟩
    rw [hw1]
    clear hw1 w1
    go_wp2_with fail
    refine (full_not u _ hu).mono ?_
    rintro e w1 ⟨rfl, hw1⟩
    rw [hw1]
    clear hw1 w1
    go_wp2_with fail
    refine (of_not u x n c f _ hu (by omega) HX.out HF.out).mono ?_
    rintro e w1 ⟨rfl, q1, hw1⟩
    rw [hw1]
    clear hw1 w1
    go_wp2_with fail
    refine (copied_any y m c' _ (w.drewN q1) (by omega) HCY.out HY.out).mono ?_
    rintro e w2 ⟨g2, c2, rfl, _, hM2, hB2⟩
    have HB2 : Hid (Below w.heap.size w w2) := (below_drewN w q1 _).trans hB2
    clear hM2 hB2
    go_wp2_with fail
    refine (right_not _ m c2 u w2 hu).mono ?_
    rintro e w1 ⟨rfl, q2, hw1⟩
    rw [hw1]
    clear hw1 w1
    go_wp2_with fail
    refine (works_any (w2.drewN q2) (HT.out.below (HB2.out.trans (below_drewN _ _ _)))).mono ?_
    rintro e w6 ⟨rfl, hb6⟩
    have HB6 := hidden (HB2.out.trans (((below_drewN w2 q2 _).trans hb6).mono HB2.out.size))
    clear hb6
    go_wp2_with fail
    go_ret
    exact ⟨rfl, HB6.out⟩

set_option maxHeartbeats 3200000 in
set_option maxRecDepth 100000 in
theorem makes_eq (u N : Nat) (x y : Option Addr) (n c m c' : Nat) (f : Nat → Int) (A : Nat → Nat) (w : World) (hT : Tab w) (hn : n ≤ 30) (hm : m ≤ 8) (hu : u ≤ 512) (hN : N = (u + 63) / 64) (hmN : m = N) (hA : ∀ j, A j < 18446744073709551616)
    (hf : ∀ j, j < n → f j ≤ 9223372036854775807) (hx : Rows' .i64 w x n f) (hy : Rows' .u64 w y m (fun j => (A j : Int))) (hcy : y = none → m = 0 ∧ c' = 0) :
    Calls Tryd.prog 3 #[.int .i64 (u : Int), .slice x n c, .slice y m c'] w fun e w' => e = .returned (.bool true) ∧ Below w.heap.size w w' := by
  have HT := hidden hT
  have HA := hidden hA
  have HF := hidden hf
  have HX := hidden hx
  have HY := hidden hy
  have HCY := hidden hcy
  have hNl : N ≤ 8 := by omega
  have hW := isW_in (x := (u : Int)) (by omega) (by omega)
  have HNN := hidden hN
  have hmN' : ((m : Int) == (N : Int)) = true := by simp [hmN]
  have HMN := hidden hmN
  clear hT hA hf hx hy hcy hN hmN
  go_enter Tryd.func3, Tryd.ntmps3
  go_wp2_with fail
  refine (may_any u _).mono ?_
  rintro e w1 ⟨rfl, hw1⟩
  rw [hw1, hW]
  clear hw1 w1
  go_wp2_with fail
  refine (many_any u _ (by omega)).mono ?_
  rintro e w1 ⟨rfl, hw1⟩
  rw [hw1, ← HNN.out]
  clear hw1 w1
  go_wp2_with fail
  go_loopw [8, 9] (fun v i wr => ∃ k : Nat, k ≤ u ∧ i = .int .i64 (k : Int) ∧ Hid (Built w wr v (upTo k))) (fun _ i _ => u - (intOf i).toNat)
  case atStart => exact ⟨0, by omega, rfl, Built.start w _ rfl⟩
  case round =>
    obtain ⟨k, hk, rfl, hB⟩ := hrel
    by_cases hku : k < u
    · have hki : (k : Int) < (u : Int) := by omega
      have hlen := upTo_length k
      have HS := hidden (upTo_succ k)
      go_wp2_with (at_builtin; refine wpList_push rfl (.tmp 63) (.tmp 65) rfl w _ _ _ _ rfl rfl hB.out (by omega) ?_; intro v1 w1 hb1)
      have HB1 := hidden hb1
      clear hb1
      go_wp2_with fail
      go_roundw
      case rel => exact ⟨k + 1, by omega, by go_num, by rw [HS.out]; exact HB1⟩
      case measure => simp [intOf]; omega
    · have : k = u := by omega
      subst this
      obtain ⟨u, hu'⟩ : ∃ u', u' = k := ⟨_, rfl⟩
      subst hu'
      obtain ⟨al, cl, rfl, hRl, _, _⟩ := hB.out.shape
      rw [upTo_length] at hRl
      rw [upTo_length]
      have HE := hidden (show Env2 w wr al u from ⟨hRl, hB.out.below⟩)
      have HB := hidden hB.out.below
      clear hRl hB
      go_wp2_with fail
      refine (rlist_any y m c' A wr (by omega) HA.out (HY.out.below HB.out)).mono ?_
      rintro e w3 ⟨v3, rfl, hL3⟩
      obtain ⟨ax, cx, rfl, hRx, _, _⟩ := hL3.shape
      have hlx := setL_le m A
      have HE3 := hidden (HE.out.go hL3.below)
      have HRT := hidden (makes_right u m A (by rw [HMN.out]; exact HNN.out))
      obtain ⟨X, hX⟩ : ∃ X, X = setL m A := ⟨_, rfl⟩
      rw [← hX] at hRx hlx HRT
      rw [← hX]
      obtain ⟨p, hp⟩ : ∃ p, p = X.length := ⟨_, rfl⟩
      rw [← hp] at hRx hlx HRT
      rw [← hp]
      have HRx := hidden hRx
      clear hL3 hRx hX hp HE HB
      go_wp2_with fail
      refine (out_any ax al p cx u cl _ _ w3 (by omega) (by omega) HRx.out HE3.out.ra).mono ?_
      rintro e w4 ⟨v4, rfl, hL4⟩
      obtain ⟨au, cu, rfl, hRu, _, _⟩ := hL4.shape
      have hlu := keep_length (fun x => !isIn u (fun j => (upTo u).getD j 0) x) (fun j => X.getD j 0) p
      rw [upTo_length] at HRT
      obtain ⟨r, hr⟩ : ∃ r, r = (keep (fun x => !isIn u (fun j => (upTo u).getD j 0) x) (fun j => X.getD j 0) p).length := ⟨_, rfl⟩
      rw [← hr] at HRT hlu
      rw [← hr]
      have HE4 := hidden (HE3.out.go hL4.below)
      have hr0 : ((r : Int) == 0) = rightB m A u := by
        rw [HRT.out]
        by_cases h : r = 0
        · rw [h]; simp
        · rw [decide_eq_false h]; simp; omega
      clear hL4 hRu hr HE3 HRx HRT
      obtain ⟨b, hb⟩ : ∃ b, b = rightB m A u := ⟨_, rfl⟩
      rw [← hb] at hr0
      have HBB := hidden hb
      clear hb
      go_wp2_with fail
      refine (new_any u N _ (by omega) HNN.out).mono ?_
      rintro e w5 ⟨rfl, hw5⟩
      have HM5 : Hid (Mine .u64 48 w5 w4.heap.size N (fun _ => 0)) := by rw [hw5]; exact zeros_mine w4 N
      have hB5 : Below w4.heap.size w4 w5 := by rw [hw5]; exact zeros_below w4 N
      have HE5 := hidden (HE4.out.go hB5)
      obtain ⟨g5, hg5⟩ : ∃ g, g = w4.heap.size := ⟨_, rfl⟩
      rw [← hg5] at HM5
      rw [← hg5]
      clear hw5 hB5 hg5 HE4
      go_wp2_with fail
      refine (rwords_any N none 0 0 (fun j => ([] : List Int).getD j 0) w5 (by omega) (by omega) (fun h => absurd h (by omega))).mono ?_
      rintro e w6 ⟨g6, rfl, _, hM6, hB6⟩
      have HM6 := hidden hM6
      have HM56 := hidden (HM5.out.below hB6)
      have HE6 := hidden (HE5.out.go hB6)
      clear hM6 hB6 HM5 HE5
      go_wp2_with fail
      refine (words_any _ _ N N _ _ _ _ w6 (by omega) (by omega) HM56.out.rows HM6.out.rows).mono ?_
      rintro e wq ⟨rfl, q1, hwq⟩
      rw [makes_new N, hwq, decide_eq_true (rfl : N = N), Bool.true_and]
      clear hwq wq HM56 HM6
      go_wp2_with fail
      refine (full_any u N (w6.drewN q1) (by omega) HNN.out).mono ?_
      rintro e w7 ⟨g7, rfl, _, hM7, hB7⟩
      have hB7 : Below w6.heap.size w6 w7 := (below_drewN w6 _ _).trans hB7
      have HM7 := hidden hM7
      have HE7 := hidden (HE6.out.go hB7)
      clear hM7 hB7 HE6
      go_wp2_with fail
      refine (rwords_any N al u cl _ w7 (by omega) (by omega) HE7.out.ra).mono ?_
      rintro e w8 ⟨g8, rfl, _, hM8, hB8⟩
      have HM8 := hidden hM8
      have HM78 := hidden (HM7.out.below hB8)
      have HE8 := hidden (HE7.out.go hB8)
      clear hM8 hB8 HM7 HE7
      go_wp2_with fail
      refine (words_any _ _ N N _ _ _ _ w8 (by omega) (by omega) HM78.out.rows HM8.out.rows).mono ?_
      rintro e wq ⟨rfl, q2, hwq⟩
      have hfull := makes_full u N
      rw [upTo_length] at hfull
      rw [hfull, hwq, decide_eq_true (rfl : N = N), Bool.true_and]
      clear hwq wq HM78 HM8 hfull
      go_wp2_with fail
      refine (of_any u N x n c f (w8.drewN q2) (by omega) HNN.out (by omega) (HX.out.below (HE8.out.below.trans (below_drewN _ _ _))) HF.out).mono ?_
      rintro e w9 ⟨g9, rfl, _, hM9, hB9⟩
      have hB9 : Below w8.heap.size w8 w9 := (below_drewN w8 _ _).trans hB9
      have HM9 := hidden hM9
      have HE9 := hidden (HE8.out.go hB9)
      clear hM9 hB9 HE8
      go_wp2_with fail
      refine (rbelow_any x n c f (u : Int) w9 (by omega) (HX.out.below HE9.out.below)).mono ?_
      rintro e w10 ⟨v10, xs, rfl, hL10, hl10, hm10⟩
      obtain ⟨ab, cb, rfl, hRb, _, _⟩ := hL10.shape
      have HW3 := hidden (makes_of u N f n xs hm10)
      have HM910 := hidden (HM9.out.below hL10.below)
      have HE10 := hidden (HE9.out.go hL10.below)
      obtain ⟨r, hr⟩ : ∃ r, r = xs.length := ⟨_, rfl⟩
      rw [← hr] at HW3 hRb hl10
      rw [← hr]
      have HRb := hidden hRb
      clear hL10 hm10 hRb hr HM9 HE9
      go_wp2_with fail
      refine (rwords_any N ab r cb _ w10 (by omega) (by omega) HRb.out).mono ?_
      rintro e w11 ⟨g11, rfl, _, hM11, hB11⟩
      have HM11 := hidden hM11
      have HM911 := hidden (HM910.out.below hB11)
      have HE11 := hidden (HE10.out.go hB11)
      clear hM11 hB11 HM910 HE10
      go_wp2_with fail
      refine (words_any _ _ N N _ _ _ _ w11 (by omega) (by omega) HM911.out.rows HM11.out.rows).mono ?_
      rintro e wq ⟨rfl, q3, hwq⟩
      rw [HW3.out, hwq, decide_eq_true (rfl : N = N), Bool.true_and]
      clear hwq wq HM911 HM11 HW3
      go_wp2_with fail
      refine (copied_any y m c' _ (w11.drewN q3) (by omega) HCY.out (HY.out.below (HE11.out.below.trans (below_drewN _ _ _)))).mono ?_
      rintro e w12 ⟨g12, c12, rfl, _, hM12, hB12⟩
      have hB12 : Below w11.heap.size w11 w12 := (below_drewN w11 _ _).trans hB12
      have HM12 := hidden hM12
      have HE12 := hidden (HE11.out.go hB12)
      clear hM12 hB12 HE11
      go_wp2_with fail
      refine (right_any _ m c12 u A w12 (by omega) (by omega) HA.out HM12.out.rows).mono ?_
      rintro e wq ⟨rfl, q4, hwq⟩
      rw [← HBB.out, hwq]
      clear hwq wq HM12
      have hbb : (b == b) = true := by simp
      go_wp2_with fail
      refine (works_any (w12.drewN q4) (HT.out.below (HE12.out.below.trans (below_drewN _ _ _)))).mono ?_
      rintro e w16 ⟨rfl, hb16⟩
      have HB16 := hidden (HE12.out.below.trans (((below_drewN w12 q4 _).trans hb16).mono HE12.out.below.size))
      clear hb16
      go_wp2_with fail
      go_ret
      exact ⟨rfl, HB16.out⟩

set_option maxHeartbeats 3200000 in
set_option maxRecDepth 100000 in
theorem makes_ne (u N : Nat) (x y : Option Addr) (n c m c' : Nat) (f : Nat → Int) (A : Nat → Nat) (w : World) (hT : Tab w) (hn : n ≤ 30) (hm : m ≤ 8) (hu : u ≤ 512) (hN : N = (u + 63) / 64) (hmN : m ≠ N) (hA : ∀ j, A j < 18446744073709551616)
    (hf : ∀ j, j < n → f j ≤ 9223372036854775807) (hx : Rows' .i64 w x n f) (hy : Rows' .u64 w y m (fun j => (A j : Int))) (hcy : y = none → m = 0 ∧ c' = 0) :
    Calls Tryd.prog 3 #[.int .i64 (u : Int), .slice x n c, .slice y m c'] w fun e w' => e = .returned (.bool true) ∧ Below w.heap.size w w' := by
  have HT := hidden hT
  have HA := hidden hA
  have HF := hidden hf
  have HX := hidden hx
  have HY := hidden hy
  have HCY := hidden hcy
  have hNl : N ≤ 8 := by omega
  have hW := isW_in (x := (u : Int)) (by omega) (by omega)
  have HNN := hidden hN
  have hmN' : ((m : Int) == (N : Int)) = false := by simp; omega
  have hmN2 := hidden hmN
  clear hT hA hf hx hy hcy hN hmN
  go_enter Tryd.func3, Tryd.ntmps3
  go_wp2_with fail
  refine (may_any u _).mono ?_
  rintro e w1 ⟨rfl, hw1⟩
  rw [hw1, hW]
  clear hw1 w1
  go_wp2_with fail
  refine (many_any u _ (by omega)).mono ?_
  rintro e w1 ⟨rfl, hw1⟩
  rw [hw1, ← HNN.out]
  clear hw1 w1
  go_wp2_with fail
  go_loopw [8, 9] (fun v i wr => ∃ k : Nat, k ≤ u ∧ i = .int .i64 (k : Int) ∧ Hid (Built w wr v (upTo k))) (fun _ i _ => u - (intOf i).toNat)
  case atStart => exact ⟨0, by omega, rfl, Built.start w _ rfl⟩
  case round =>
    obtain ⟨k, hk, rfl, hB⟩ := hrel
    by_cases hku : k < u
    · have hki : (k : Int) < (u : Int) := by omega
      have hlen := upTo_length k
      have HS := hidden (upTo_succ k)
      go_wp2_with (at_builtin; refine wpList_push rfl (.tmp 63) (.tmp 65) rfl w _ _ _ _ rfl rfl hB.out (by omega) ?_; intro v1 w1 hb1)
      have HB1 := hidden hb1
      clear hb1
      go_wp2_with fail
      go_roundw
      case rel => exact ⟨k + 1, by omega, by go_num, by rw [HS.out]; exact HB1⟩
      case measure => simp [intOf]; omega
    · have : k = u := by omega
      subst this
      obtain ⟨u, hu'⟩ : ∃ u', u' = k := ⟨_, rfl⟩
      subst hu'
      obtain ⟨al, cl, rfl, hRl, _, _⟩ := hB.out.shape
      rw [upTo_length] at hRl
      rw [upTo_length]
      have HE := hidden (show Env2 w wr al u from ⟨hRl, hB.out.below⟩)
      have HB := hidden hB.out.below
      clear hRl hB
      go_wp2_with fail
      obtain ⟨b, hb⟩ : ∃ b, b = rightB m A u := ⟨_, rfl⟩
      have hbf : b = false := by
        rw [hb]; unfold rightB
        rw [decide_eq_false (fun h => hmN2.out (h.trans HNN.out.symm))]
        rfl
      have HBB := hidden hb
      clear hb
      subst hbf
      have HE4 := HE
      clear HB
      go_wp2_with fail
      refine (new_any u N _ (by omega) HNN.out).mono ?_
      rintro e w5 ⟨rfl, hw5⟩
      have HM5 : Hid (Mine .u64 48 w5 wr.heap.size N (fun _ => 0)) := by rw [hw5]; exact zeros_mine wr N
      have hB5 : Below wr.heap.size wr w5 := by rw [hw5]; exact zeros_below wr N
      have HE5 := hidden (HE4.out.go hB5)
      obtain ⟨g5, hg5⟩ : ∃ g, g = wr.heap.size := ⟨_, rfl⟩
      rw [← hg5] at HM5
      rw [← hg5]
      clear hw5 hB5 hg5 HE4
      go_wp2_with fail
      refine (rwords_any N none 0 0 (fun j => ([] : List Int).getD j 0) w5 (by omega) (by omega) (fun h => absurd h (by omega))).mono ?_
      rintro e w6 ⟨g6, rfl, _, hM6, hB6⟩
      have HM6 := hidden hM6
      have HM56 := hidden (HM5.out.below hB6)
      have HE6 := hidden (HE5.out.go hB6)
      clear hM6 hB6 HM5 HE5
      go_wp2_with fail
      refine (words_any _ _ N N _ _ _ _ w6 (by omega) (by omega) HM56.out.rows HM6.out.rows).mono ?_
      rintro e wq ⟨rfl, q1, hwq⟩
      rw [makes_new N, hwq, decide_eq_true (rfl : N = N), Bool.true_and]
      clear hwq wq HM56 HM6
      go_wp2_with fail
      refine (full_any u N (w6.drewN q1) (by omega) HNN.out).mono ?_
      rintro e w7 ⟨g7, rfl, _, hM7, hB7⟩
      have hB7 : Below w6.heap.size w6 w7 := (below_drewN w6 _ _).trans hB7
      have HM7 := hidden hM7
      have HE7 := hidden (HE6.out.go hB7)
      clear hM7 hB7 HE6
      go_wp2_with fail
      refine (rwords_any N al u cl _ w7 (by omega) (by omega) HE7.out.ra).mono ?_
      rintro e w8 ⟨g8, rfl, _, hM8, hB8⟩
      have HM8 := hidden hM8
      have HM78 := hidden (HM7.out.below hB8)
      have HE8 := hidden (HE7.out.go hB8)
      clear hM8 hB8 HM7 HE7
      go_wp2_with fail
      refine (words_any _ _ N N _ _ _ _ w8 (by omega) (by omega) HM78.out.rows HM8.out.rows).mono ?_
      rintro e wq ⟨rfl, q2, hwq⟩
      have hfull := makes_full u N
      rw [upTo_length] at hfull
      rw [hfull, hwq, decide_eq_true (rfl : N = N), Bool.true_and]
      clear hwq wq HM78 HM8 hfull
      go_wp2_with fail
      refine (of_any u N x n c f (w8.drewN q2) (by omega) HNN.out (by omega) (HX.out.below (HE8.out.below.trans (below_drewN _ _ _))) HF.out).mono ?_
      rintro e w9 ⟨g9, rfl, _, hM9, hB9⟩
      have hB9 : Below w8.heap.size w8 w9 := (below_drewN w8 _ _).trans hB9
      have HM9 := hidden hM9
      have HE9 := hidden (HE8.out.go hB9)
      clear hM9 hB9 HE8
      go_wp2_with fail
      refine (rbelow_any x n c f (u : Int) w9 (by omega) (HX.out.below HE9.out.below)).mono ?_
      rintro e w10 ⟨v10, xs, rfl, hL10, hl10, hm10⟩
      obtain ⟨ab, cb, rfl, hRb, _, _⟩ := hL10.shape
      have HW3 := hidden (makes_of u N f n xs hm10)
      have HM910 := hidden (HM9.out.below hL10.below)
      have HE10 := hidden (HE9.out.go hL10.below)
      obtain ⟨r, hr⟩ : ∃ r, r = xs.length := ⟨_, rfl⟩
      rw [← hr] at HW3 hRb hl10
      rw [← hr]
      have HRb := hidden hRb
      clear hL10 hm10 hRb hr HM9 HE9
      go_wp2_with fail
      refine (rwords_any N ab r cb _ w10 (by omega) (by omega) HRb.out).mono ?_
      rintro e w11 ⟨g11, rfl, _, hM11, hB11⟩
      have HM11 := hidden hM11
      have HM911 := hidden (HM910.out.below hB11)
      have HE11 := hidden (HE10.out.go hB11)
      clear hM11 hB11 HM910 HE10
      go_wp2_with fail
      refine (words_any _ _ N N _ _ _ _ w11 (by omega) (by omega) HM911.out.rows HM11.out.rows).mono ?_
      rintro e wq ⟨rfl, q3, hwq⟩
      rw [HW3.out, hwq, decide_eq_true (rfl : N = N), Bool.true_and]
      clear hwq wq HM911 HM11 HW3
      go_wp2_with fail
      refine (copied_any y m c' _ (w11.drewN q3) (by omega) HCY.out (HY.out.below (HE11.out.below.trans (below_drewN _ _ _)))).mono ?_
      rintro e w12 ⟨g12, c12, rfl, _, hM12, hB12⟩
      have hB12 : Below w11.heap.size w11 w12 := (below_drewN w11 _ _).trans hB12
      have HM12 := hidden hM12
      have HE12 := hidden (HE11.out.go hB12)
      clear hM12 hB12 HE11
      go_wp2_with fail
      refine (right_any _ m c12 u A w12 (by omega) (by omega) HA.out HM12.out.rows).mono ?_
      rintro e wq ⟨rfl, q4, hwq⟩
      rw [← HBB.out, hwq]
      clear hwq wq HM12
      have hbb : (false == false) = true := by simp
      go_wp2_with fail
      refine (works_any (w12.drewN q4) (HT.out.below (HE12.out.below.trans (below_drewN _ _ _)))).mono ?_
      rintro e w16 ⟨rfl, hb16⟩
      have HB16 := hidden (HE12.out.below.trans (((below_drewN w12 q4 _).trans hb16).mono HE12.out.below.size))
      clear hb16
      go_wp2_with fail
      go_ret
      exact ⟨rfl, HB16.out⟩

theorem makes_long (u : Int) (x y : Option Addr) (n c m c' : Nat) (w : World) (hT : Tab w) (hn : n ≤ 9223372036854775807) (hm : m ≤ 9223372036854775807) (h : 30 < n ∨ 8 < m ∨ (512 < u ∧ u ≤ 65536)) :
    Calls Tryd.prog 3 #[.int .i64 u, .slice x n c, .slice y m c'] w fun e w' => e = .returned (.bool true) ∧ Below w.heap.size w w' := by
  have HT := hidden hT
  clear hT
  by_cases h6 : 30 < n
  · clear h
    go_enter Tryd.func3, Tryd.ntmps3
    go_wp2_with fail
    refine (works_any _ HT.out).mono ?_
    rintro e w6 ⟨rfl, hb6⟩
    have HB6 := hidden hb6
    clear hb6
    go_wp2_with fail
    go_ret
    exact ⟨rfl, HB6.out⟩
  · by_cases h7 : 8 < m
    · clear h
      go_enter Tryd.func3, Tryd.ntmps3
      go_wp2_with fail
      refine (works_any _ HT.out).mono ?_
      rintro e w6 ⟨rfl, hb6⟩
      have HB6 := hidden hb6
      clear hb6
      go_wp2_with fail
      go_ret
      exact ⟨rfl, HB6.out⟩
    · have h8 : 512 < u := by omega
      have h9 : u ≤ 65536 := by omega
      clear h
      go_enter Tryd.func3, Tryd.ntmps3
      go_wp2_with fail
      refine (works_any _ HT.out).mono ?_
      rintro e w6 ⟨rfl, hb6⟩
      have HB6 := hidden hb6
      clear hb6
      go_wp2_with fail
      go_ret
      exact ⟨rfl, HB6.out⟩

theorem makes_walk (u : Int) (a0 : Option Addr) (len0 cap0 : Nat) (z0 : List Int) (a1 : Option Addr) (len1 cap1 : Nat) (z1 : List Int) (w : World) (hT : Tab w) (wu : (Lit.int .i64 u).wf = true) (w0 : IsRow .i64 w a0 len0 cap0 z0) (w1 : IsRow .u64 w a1 len1 cap1 z1) :
    Calls Tryd.prog 3 #[.int .i64 u, .slice a0 len0 cap0, .slice a1 len1 cap1] w fun e w' => e = .returned (.bool true) ∧ Below w.heap.size w w' := by
  by_cases h : 30 < len0 ∨ 8 < len1 ∨ (512 < u ∧ u ≤ 65536)
  · exact makes_long u a0 a1 len0 cap0 len1 cap1 w hT w0.len.2 w1.len.2 h
  · have hf : ∀ j, j < len0 → z0.getD j 0 ≤ 9223372036854775807 := fun j hj => (bounds_i64 (w0.fits j (Nat.lt_of_lt_of_le hj w0.len.1))).2
    by_cases hu : 0 ≤ u ∧ u ≤ 512
    · obtain ⟨U, rfl⟩ : ∃ U : Nat, u = (U : Int) := ⟨u.toNat, by omega⟩
      by_cases hm : len1 = (U + 63) / 64
      · exact makes_eq U ((U + 63) / 64) a0 a1 len0 cap0 len1 cap1 _ (wordsIn z1) w hT (by omega) (by omega) (by omega) rfl hm (wordsIn_lt w1) hf w0.rows w1.words w1.none
      · exact makes_ne U ((U + 63) / 64) a0 a1 len0 cap0 len1 cap1 _ (wordsIn z1) w hT (by omega) (by omega) (by omega) rfl hm (wordsIn_lt w1) hf w0.rows w1.words w1.none
    · have hu2 : u < 0 ∨ 65536 < u := by omega
      have hW : isW u = false := by
        rcases hu2 with h1 | h1
        · exact isW_low h1
        · exact isW_high h1
      exact makes_not u a0 a1 len0 cap0 len1 cap1 _ (wordsIn z1) w hT (by omega) (by omega) hW hu2 (wordsIn_lt w1) hf w0.rows w1.words w1.none

set_option maxRecDepth 100000 in
theorem makes_lifted (os : Os) (started : os.Started) (H : Type) (enc : TypeId × Value → H) :
    ReturnsInHanded {} Tryd.checked os 3 .any (fun w args => (Rows.bitsMakesSpec.pre enc Tryd.prog Tryd.f3 [] false w args ∧ laidMetH Tryd.prog laid1 w) ∧ sizedMet enc Tryd.prog Tryd.f3 (OpenSpec.ofChange Rows.bitsMakesSpec) false w args)
      (Rows.bitsMakesSpec.post enc Tryd.prog Tryd.f3 false true false false) := by
  refine returnsInHanded_of_change_and (C := Tryd.checked) (X := fun w _ => laidMetH Tryd.prog laid1 w) (fun _ _ _ hh h => h.of_heap hh) own started (by kernel_rfl) Tryd.func3
    (ChangeSpec.witness_shaped (enc := enc) (C := Tryd.checked) (os := os) (X := fun w _ => laidMetH Tryd.prog laid1 w) false (World.doorLaid Tryd.prog 400 os) #[.int .i64 0, .slice none 0 0, .slice none 0 0] 8 rfl (World.shaped_of_RefB (by kernel_rfl) (by kernel_rfl)) (by kernel_rfl) (by kernel_rfl) (by kernel_rfl) (door_met os _)) ?_
  intro W base args ds gs before hval0 hW _ _ hL _
  have hT := of_laid hL
  have hval : ∀ (j : Nat) t v, Tryd.f3.params[j]? = some t → args[j]? = some v → Value.okWide Tryd.prog W .any base t v := hval0
  have hW' := hW
  obtain ⟨p, q, hA0, hV, rfl, hfz, hnd⟩ := hW
  have hA : DataW.TrodAll enc Tryd.prog W 0 (fun _ => true) true Tryd.f3.params.toList args.toList ds p := hA0
  rw [Tryd.params3] at hA hval
  obtain ⟨v0, vs0, d0, ds0, p0, q0, hargs, rfl, rfl, h0, r0⟩ := trodAll_cons hA
  obtain ⟨v1, vs1, d1, ds1, p1, q1, rfl, rfl, rfl, h1, r1⟩ := trodAll_cons r0
  obtain ⟨v2, vs2, d2, ds2, p2, q2, rfl, rfl, rfl, h2, r2⟩ := trodAll_cons r1
  obtain ⟨rfl, rfl, rfl⟩ := trodAll_nil r2
  obtain rfl : args = #[v0, v1, v2] := by cases args; simp_all
  obtain ⟨rfl, rfl⟩ := trodVars_none hV
  obtain ⟨a0, rfl, rfl, rfl, w0⟩ := open_int Tryd.underlying3 (hval 0 3 v0 rfl rfl) h0
  obtain ⟨a1, len1, cap1, rfl⟩ := okWide_slice Tryd.underlying22 (hval 1 22 v1 rfl rfl)
  have k1 := h1
  have lt1 : ∀ x ∈ p1, x.block < W.heap.size := by obtain ⟨m, hm⟩ := k1; exact DataW.trod_lt m _ _ _ hm
  obtain ⟨z1, w1⟩ : ∃ zs, IsRow .i64 W a1 len1 cap1 zs := by
    obtain ⟨fuel, hf⟩ := h1
    rcases open_ints Tryd.underlying22 Tryd.underlying3 (by kernel_rfl) hf with ⟨hcs, _⟩ | ⟨x, l, c, zs, hcs, _, hl, hm, hz, _, hcell, hwz⟩
    · simp [Value.cells] at hcs
      obtain ⟨rfl, rfl, rfl⟩ := hcs
      exact ⟨[], .inl ⟨rfl, rfl, rfl, rfl⟩⟩
    · simp [Value.cells] at hcs
      obtain ⟨rfl, rfl, rfl⟩ := hcs
      exact ⟨zs, .inr ⟨_, rfl, hl, hm, by simpa using hz, hcell, hwz⟩⟩
  obtain ⟨a2, len2, cap2, rfl⟩ := okWide_slice Tryd.underlying23 (hval 2 23 v2 rfl rfl)
  have k2 := h2
  have lt2 : ∀ x ∈ p2, x.block < W.heap.size := by obtain ⟨m, hm⟩ := k2; exact DataW.trod_lt m _ _ _ hm
  obtain ⟨z2, w2⟩ : ∃ zs, IsRow .u64 W a2 len2 cap2 zs := by
    obtain ⟨fuel, hf⟩ := h2
    rcases open_ints Tryd.underlying23 Tryd.underlying48 (by kernel_rfl) hf with ⟨hcs, _⟩ | ⟨x, l, c, zs, hcs, _, hl, hm, hz, _, hcell, hwz⟩
    · simp [Value.cells] at hcs
      obtain ⟨rfl, rfl, rfl⟩ := hcs
      exact ⟨[], .inl ⟨rfl, rfl, rfl, rfl⟩⟩
    · simp [Value.cells] at hcs
      obtain ⟨rfl, rfl, rfl⟩ := hcs
      exact ⟨zs, .inr ⟨_, rfl, hl, hm, by simpa using hz, hcell, hwz⟩⟩
  clear hA0 hval0
  refine (makes_walk a0 a1 len1 cap1 z1 a2 len2 cap2 z2 W hT w0 w1 w2).mono fun e W' ⟨he, bel⟩ => ?_
  subst he
  exact ⟨_, rfl, _, _, _, [], _, [], hW', trodAll_mk1 (shut_bool Tryd.underlying4 _), (trodAll_cons_mk (shut_int Tryd.underlying3 w0) (trodAll_cons_mk (Below.trod laidOut (by kernel_rfl) (of_decide_eq_true (by kernel_rfl)) k1 bel lt1) (trodAll_cons_mk (Below.trod laidOut (by kernel_rfl) (of_decide_eq_true (by kernel_rfl)) k2 bel lt2) trodAll_mk0))), rfl, bel.frame _, fun h => by cases h⟩

theorem makes_over : Rows.BitsMakesSaid :=
  OpenClaim.holds_of_wide 3 Tryd.f3 rfl rfl rfl rfl rfl rfl rfl ⟨rfl, rfl, rfl, rfl, rfl⟩ rfl rfl rfl rfl rfl (by kernel_rfl) Tryd.func3 (by kernel_rfl)
    (of_decide_eq_true (by kernel_rfl)) (by unfold Func.isWrapper; first | (rw [if_pos (by decide +kernel)]; kernel_rfl) | (rw [if_neg (by decide +kernel)]; exact ⟨rfl, rfl⟩))
    (fun os started H enc _ => makes_lifted os started H enc)

/-- the statement: the card, tied to the program's text -/
theorem makes_holds : Rows.BitsMakesCardSaid :=
  Claim7.holds_tied_plain_at .later [] [.data] true Rows.bitsMakesCard.stood.harness false
    makes_over (fun _ h => by cases h) (by kernel_rfl) (fun _ h => by cases h) bitsMakes_row_tie rfl ⟨rfl, rfl⟩ (by kernel_rfl) rfl
    (fun f fn hf hfn => by
      obtain rfl : f = 3 := Option.some.inj ((show Tryd.prog.funcNamed "balustrade/balustradelaw02.BitsMakes" = some 3 by kernel_rfl).symm.trans hf) |>.symm
      obtain rfl : fn = Tryd.f3 := (Option.some.inj (Tryd.func3.symm.trans hfn)).symm
      exact ⟨by kernel_rfl, fun j t ht => by
        rw [Tryd.params3] at ht
        have hm : t ∈ [3, 22, 23] := by simpa using Array.mem_of_getElem? ht
        have hall : ([3, 22, 23].all fun u => !Tryd.prog.wantsStandIn u) = true := by kernel_rfl
        exact (show Tryd.prog.wantsStandIn t = false by simpa using List.all_eq_true.1 hall t hm)⟩)
    (by kernel_rfl)
#print axioms makes_holds
end Go.Proofs.YtkaaokaiealbmaaDoor
