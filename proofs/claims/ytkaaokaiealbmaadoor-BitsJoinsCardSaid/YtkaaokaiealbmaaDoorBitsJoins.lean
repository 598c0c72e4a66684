/- Proved: what is in one of any two sets, in both, and in the first alone, and whether they have the same, is as the document says, and neither is changed (statement BitsJoins); the table of math/bits is as the program's text lays it (tied). -/
import Derived.Test.YtkaaokaiealbmaaDoorBitsDoor
import Derived.Test.YtkaaokaiealbmaaDoorBitsSets
import Derived.Test.YtkaaokaiealbmaaDoorCards
import Derived.Test.YtkaaokaiealbmaaDoorTie
import Derived.SevenTiedAt
namespace Go.Proofs.YtkaaokaiealbmaaDoor
open Go.ChangeShapes Go.WideShapes Go.ChangeAt Go.RowKit
set_option linter.unusedVariables false

/-- what the statement holds on to while it goes on -/
structure Env (w0 w : World) (g1 g2 n m : Nat) (A B : Nat → Nat) (ax ay : Option Addr) (p q : Nat) (X Y : List Int) : Prop where
  ma : Mine .u64 48 w g1 n (fun j => (A j : Int))
  mb : Mine .u64 48 w g2 m (fun j => (B j : Int))
  rx : Rows' .i64 w ax p (fun j => X.getD j 0)
  ry : Rows' .i64 w ay q (fun j => Y.getD j 0)
  below : Below w0.heap.size w0 w
theorem cells_all (X : List Int) : cellsOf .i64 X.length (fun j => X.getD j 0) = X := by
  have h := drop_cells X 0
  simpa using h
theorem Env.go {w0 w w' : World} {g1 g2 n m : Nat} {A B : Nat → Nat} {ax ay : Option Addr} {p q : Nat} {X Y : List Int} (h : Env w0 w g1 g2 n m A B ax ay p q X Y) (hb : Below w.heap.size w w') : Env w0 w' g1 g2 n m A B ax ay p q X Y :=
  ⟨h.ma.below hb, h.mb.below hb, h.rx.below hb, h.ry.below hb, h.below.trans (hb.mono h.below.size)⟩

set_option maxHeartbeats 3200000 in
set_option maxRecDepth 100000 in
theorem joins_lt (x y : Option Addr) (n c m c' : Nat) (A B : Nat → Nat) (w : World) (hT : Tab w) (hn : n ≤ 6) (hm : m ≤ 6) (hnm : n < m) (hA : ∀ j, A j < 18446744073709551616) (hB : ∀ j, B j < 18446744073709551616)
    (hx : Rows' .u64 w x n (fun j => (A j : Int))) (hy : Rows' .u64 w y m (fun j => (B j : Int))) (hcx : x = none → n = 0 ∧ c = 0) (hcy : y = none → m = 0 ∧ c' = 0) :
    Calls Tryd.prog 5 #[.slice x n c, .slice y m c'] w fun e w' => e = .returned (.bool true) ∧ Below w.heap.size w w' := by
  have HT := hidden hT
  have HA := hidden hA
  have HB := hidden hB
  have HX := hidden hx
  have HY := hidden hy
  have HCX := hidden hcx
  have HCY := hidden hcy
  clear hT hA hB hx hy hcx hcy
  have hmx : max n m = m := by omega
  have hmn : min n m = n := by omega
  have HMX := hidden hmx
  have HMN := hidden hmn
  clear hmx hmn
  go_enter Tryd.func5, Tryd.ntmps5
  go_wp2_with fail
  refine (copied_any x n c _ w (by omega) HCX.out HX.out).mono ?_
  rintro e w1 ⟨g1, c1, rfl, _, hM1, hB1⟩
  have HM1 := hidden hM1
  have HB1 := hidden hB1
  clear hM1 hB1
  go_wp2_with fail
  refine (copied_any y m c' _ w1 (by omega) HCY.out (HY.out.below HB1.out)).mono ?_
  rintro e w2 ⟨g2, c2, rfl, _, hM2, hB2⟩
  have HM1b := hidden (HM1.out.below hB2)
  have HM2 := hidden hM2
  have HB2 := hidden (HB1.out.trans (hB2.mono HB1.out.size))
  clear hM2 hB2 HM1
  go_wp2_with fail
  refine (rlist_any x n c A w2 (by omega) HA.out (HX.out.below HB2.out)).mono ?_
  rintro e w3 ⟨v, rfl, hL3⟩
  obtain ⟨ax, cx, rfl, hRx, hNx, _⟩ := hL3.shape
  have hlx := setL_le n A
  obtain ⟨X, hX⟩ : ∃ X, X = setL n A := ⟨_, rfl⟩
  have hL3b := hL3.below
  rw [← hX] at hRx hNx hlx
  rw [← hX]
  have HM1c := hidden (HM1b.out.below hL3b)
  have HM2c := hidden (HM2.out.below hL3b)
  have HB3 := hidden (HB2.out.trans (hL3b.mono HB2.out.size))
  have HRx := hidden hRx
  have HNx := hidden hNx
  have HXX := hidden hX
  obtain ⟨p, hp⟩ : ∃ p, p = X.length := ⟨_, rfl⟩
  rw [← hp] at HRx HNx hlx
  rw [← hp]
  have HP := hidden hp
  clear hL3 hL3b hRx hNx hX HM1b HM2 hp
  go_wp2_with fail
  refine (rlist_any y m c' B w3 (by omega) HB.out (HY.out.below HB3.out)).mono ?_
  rintro e w4 ⟨v, rfl, hL4⟩
  obtain ⟨ay, cy, rfl, hRy, hNy, _⟩ := hL4.shape
  have hly := setL_le m B
  obtain ⟨Y, hY⟩ : ∃ Y, Y = setL m B := ⟨_, rfl⟩
  have hL4b := hL4.below
  rw [← hY] at hRy hNy hly
  rw [← hY]
  have HRy := hidden hRy
  have HNy := hidden hNy
  have HYY := hidden hY
  obtain ⟨q, hq⟩ : ∃ q, q = Y.length := ⟨_, rfl⟩
  rw [← hq] at HRy HNy hly
  rw [← hq]
  have HQ := hidden hq
  have HE4 := hidden (show Env w w4 g1 g2 n m A B ax ay p q X Y from ⟨HM1c.out.below hL4b, HM2c.out.below hL4b, HRx.out.below hL4b, HRy.out, HB3.out.trans (hL4b.mono HB3.out.size)⟩)
  clear hL4 hL4b hRy hNy hY HM1c HM2c hq HB3 HRx HRy HB2 HB1
  go_wp2_with fail
  refine (ints_any ax p cx _ w4 (by omega) HNx.out HE4.out.rx).mono ?_
  rintro e w5 ⟨v5, rfl, hL5, hv5⟩
  have HL5 := hidden hL5
  have HV5 := hidden hv5
  have HRy5 := hidden (HE4.out.ry.below hL5.below)
  clear hL5 hv5
  go_wp2_with (at_builtin; refine wpList_whole rfl (.tmp 28) (.tmp 29) 22 22 3 .i64 Tryd.underlying22 Tryd.underlying22 infoI rfl w4 _ _ _ _ ay q cy (fun j => Y.getD j 0) rfl rfl HL5.out.1 HL5.out.2 HRy5.out HNy.out (by omega) (by rw [cellsOf_length]; omega) HV5.out ?_; intro v6 w6 hown6 hbel6 hv6)
  have hL6 : Built w4 w6 v6 (cellsOf .i64 p (fun j => X.getD j 0) ++ cellsOf .i64 q (fun j => Y.getD j 0)) := ⟨by rw [List.length_append, cellsOf_length .i64 q]; exact hown6, hbel6⟩
  have hZe : cellsOf .i64 p (fun j => X.getD j 0) ++ cellsOf .i64 q (fun j => Y.getD j 0) = X ++ Y := by rw [HP.out, HQ.out, cells_all, cells_all]
  rw [hZe] at hL6
  obtain ⟨az, cz, rfl, hRz, _, _⟩ := hL6.shape
  have hlz : (X ++ Y).length = p + q := by rw [List.length_append, HP.out, HQ.out]
  rw [hlz] at hRz
  rw [hlz]
  have HE6 := hidden (HE4.out.go hL6.below)
  have HRz := hidden hRz
  clear hown6 hbel6 hv6 hL6 hZe hRz HE4 HL5 HV5 HRy5
  have HLZ := hidden hlz
  clear hlz
  go_wp2_with fail
  refine (sorted_any az (p + q) cz _ w6 (by omega) HRz.out).mono ?_
  rintro e w7 ⟨v7, rfl, hL7⟩
  obtain ⟨ao, co, rfl, hRo, _, _⟩ := hL7.shape
  have hlo := srt_length (fun j => (X ++ Y).getD j 0) (p + q)
  have hmo : ∀ z, z ∈ srt (fun j => (X ++ Y).getD j 0) (p + q) ↔ z ∈ setL n A ∨ z ∈ setL m B := by
    intro z
    rw [mem_srt, ← HLZ.out, in_list, List.mem_append, HXX.out, HYY.out]
  obtain ⟨O, hO⟩ : ∃ O, O = srt (fun j => (X ++ Y).getD j 0) (p + q) := ⟨_, rfl⟩
  rw [← hO] at hRo hlo hmo
  rw [← hO]
  have HE7 := hidden (HE6.out.go hL7.below)
  obtain ⟨r, hr⟩ : ∃ r, r = O.length := ⟨_, rfl⟩
  have HW1 := hidden (joins_or HA.out HB.out O hmo m)
  rw [← hr] at HW1 hRo hlo
  rw [← hr]
  have HRo := hidden hRo
  clear hL7 hRo hmo hO hr HE6 HRz
  go_wp2_with fail
  refine (or_any n c1 m c2 _ _ A B w7 (by omega) (by omega) HA.out HB.out HE7.out.ma.rows HE7.out.mb.rows).mono ?_
  rintro e w8 ⟨g8, rfl, _, hM8, hB8⟩
  rw [HMX.out] at hM8
  rw [HMX.out]
  have HM8 := hidden hM8
  have HRo8 := hidden (HRo.out.below hB8)
  have HE8 := hidden (HE7.out.go hB8)
  clear hM8 hB8 HRo HE7
  go_wp2_with fail
  refine (rwords_any m ao r co _ w8 (by omega) (by omega) HRo8.out).mono ?_
  rintro e w9 ⟨g9, rfl, _, hM9, hB9⟩
  have HM9 := hidden hM9
  have HM89 := hidden (HM8.out.below hB9)
  have HE9 := hidden (HE8.out.go hB9)
  clear hM9 hB9 HRo8 HM8 HE8
  go_wp2_with fail
  refine (words_any _ _ m m _ _ _ _ w9 (by omega) (by omega) HM89.out.rows HM9.out.rows).mono ?_
  rintro e wq ⟨rfl, q1, hwq⟩
  rw [HW1.out, hwq, decide_eq_true (rfl : m = m), Bool.true_and]
  clear hwq wq HM9 HM89 HW1
  -- And
  go_wp2_with fail
  refine (and_any n c1 m c2 _ _ A B (w9.drewN q1) (by omega) (by omega) HA.out HB.out HE9.out.ma.rows HE9.out.mb.rows).mono ?_
  rintro e w10 ⟨g10, rfl, _, hM10, hB10⟩
  have hB10 : Below w9.heap.size w9 w10 := (below_drewN w9 _ _).trans hB10
  rw [HMN.out] at hM10
  rw [HMN.out]
  have HM10 := hidden hM10
  have HE10 := hidden (HE9.out.go hB10)
  clear hM10 hB10 HE9
  go_wp2_with fail
  refine (in_any ax ay p cx q cy _ _ w10 (by omega) (by omega) HE10.out.rx HE10.out.ry).mono ?_
  rintro e w11 ⟨v11, rfl, hL11⟩
  obtain ⟨ai, ci, rfl, hRi, _, _⟩ := hL11.shape
  have hli := keep_length (isIn q (fun j => Y.getD j 0)) (fun j => X.getD j 0) p
  have hmi : ∀ z, z ∈ keep (isIn q (fun j => Y.getD j 0)) (fun j => X.getD j 0) p ↔ z ∈ setL n A ∧ z ∈ setL m B := by
    intro z
    rw [mem_keep, HP.out, in_list, HQ.out, isIn_list, decide_eq_true_iff, HXX.out, HYY.out]
  obtain ⟨I, hI⟩ : ∃ I, I = keep (isIn q (fun j => Y.getD j 0)) (fun j => X.getD j 0) p := ⟨_, rfl⟩
  rw [← hI] at hRi hli hmi
  rw [← hI]
  have HM1011 := hidden (HM10.out.below hL11.below)
  have HE11 := hidden (HE10.out.go hL11.below)
  obtain ⟨r2, hr2⟩ : ∃ r, r = I.length := ⟨_, rfl⟩
  have hw2 := joins_and HA.out I hmi
  rw [HMN.out] at hw2
  have HW2 := hidden hw2
  rw [← hr2] at HW2 hRi hli
  rw [← hr2]
  have HRi := hidden hRi
  clear hL11 hRi hmi hI hr2 HE10 HM10 hw2
  go_wp2_with fail
  refine (rwords_any n ai r2 ci _ w11 (by omega) (by omega) HRi.out).mono ?_
  rintro e w12 ⟨g12, rfl, _, hM12, hB12⟩
  have HM12 := hidden hM12
  have HM1012 := hidden (HM1011.out.below hB12)
  have HE12 := hidden (HE11.out.go hB12)
  clear hM12 hB12 HRi HM1011 HE11
  go_wp2_with fail
  refine (words_any _ _ n n _ _ _ _ w12 (by omega) (by omega) HM1012.out.rows HM12.out.rows).mono ?_
  rintro e wq ⟨rfl, q2, hwq⟩
  rw [HW2.out, hwq, decide_eq_true (rfl : n = n), Bool.true_and]
  clear hwq wq HM12 HM1012 HW2
  -- Less
  go_wp2_with fail
  refine (less_any n c1 m c2 _ _ A B (w12.drewN q2) (by omega) (by omega) HA.out HB.out HE12.out.ma.rows HE12.out.mb.rows).mono ?_
  rintro e w13 ⟨g13, rfl, _, hM13, hB13⟩
  have hB13 : Below w12.heap.size w12 w13 := (below_drewN w12 _ _).trans hB13
  have HM13 := hidden hM13
  have HE13 := hidden (HE12.out.go hB13)
  clear hM13 hB13 HE12
  go_wp2_with fail
  refine (out_any ax ay p cx q cy _ _ w13 (by omega) (by omega) HE13.out.rx HE13.out.ry).mono ?_
  rintro e w14 ⟨v14, rfl, hL14⟩
  obtain ⟨au, cu, rfl, hRu, _, _⟩ := hL14.shape
  have hlu := keep_length (fun x => !isIn q (fun j => Y.getD j 0) x) (fun j => X.getD j 0) p
  have hmu : ∀ z, z ∈ keep (fun x => !isIn q (fun j => Y.getD j 0) x) (fun j => X.getD j 0) p ↔ z ∈ setL n A ∧ ¬ z ∈ setL m B := by
    intro z
    rw [mem_keep, HP.out, in_list, HQ.out, isIn_list, HXX.out, HYY.out]
    simp
  obtain ⟨U, hU⟩ : ∃ U, U = keep (fun x => !isIn q (fun j => Y.getD j 0) x) (fun j => X.getD j 0) p := ⟨_, rfl⟩
  rw [← hU] at hRu hlu hmu
  rw [← hU]
  have HM1314 := hidden (HM13.out.below hL14.below)
  have HE14 := hidden (HE13.out.go hL14.below)
  obtain ⟨r3, hr3⟩ : ∃ r, r = U.length := ⟨_, rfl⟩
  have HW3 := hidden (joins_less HA.out HB.out U hmu)
  rw [← hr3] at HW3 hRu hlu
  rw [← hr3]
  have HRu := hidden hRu
  clear hL14 hRu hmu hU hr3 HE13 HM13
  go_wp2_with fail
  refine (rwords_any n au r3 cu _ w14 (by omega) (by omega) HRu.out).mono ?_
  rintro e w15 ⟨g15, rfl, _, hM15, hB15⟩
  have HM15 := hidden hM15
  have HM1315 := hidden (HM1314.out.below hB15)
  have HE15 := hidden (HE14.out.go hB15)
  clear hM15 hB15 HRu HM1314 HE14
  go_wp2_with fail
  refine (words_any _ _ n n _ _ _ _ w15 (by omega) (by omega) HM1315.out.rows HM15.out.rows).mono ?_
  rintro e wq ⟨rfl, q3, hwq⟩
  rw [HW3.out, hwq, decide_eq_true (rfl : n = n), Bool.true_and]
  clear hwq wq HM15 HM1315 HW3
  -- Same
  go_wp2_with fail
  refine (same_any _ _ n m c1 c2 A B (w15.drewN q3) (by omega) (by omega) HE15.out.ma.rows HE15.out.mb.rows).mono ?_
  rintro e wq ⟨rfl, hwq⟩
  rw [joins_same HA.out HB.out, hwq]
  clear hwq wq
  go_wp2_with fail
  refine (sameInts_any ax ay p q cx cy _ _ (w15.drewN q3) (by omega) (by omega) HE15.out.rx HE15.out.ry).mono ?_
  rintro e wq ⟨rfl, q4, hwq⟩
  rw [hwq, HP.out, HQ.out, list_eqB, HXX.out, HYY.out]
  clear hwq wq
  obtain ⟨b, hb⟩ : ∃ b, b = decide (setL n A = setL m B) := ⟨_, rfl⟩
  rw [← hb]
  have hbb : (b == b) = true := by simp
  clear hb
  go_wp2_with fail
  refine (words_any _ x n n c1 c _ _ (w15.drewN (q3 + q4)) (by omega) (by omega) HE15.out.ma.rows (HX.out.below (HE15.out.below.trans (below_drewN _ _ _)))).mono ?_
  rintro e wq ⟨rfl, q5, hwq⟩
  rw [allEq_true (fun j _ => rfl), hwq, decide_eq_true (rfl : n = n), Bool.true_and]
  clear hwq wq
  go_wp2_with fail
  refine (words_any _ y m m c2 c' _ _ (w15.drewN (q3 + q4 + q5)) (by omega) (by omega) HE15.out.mb.rows (HY.out.below (HE15.out.below.trans (below_drewN _ _ _)))).mono ?_
  rintro e wq ⟨rfl, q6, hwq⟩
  rw [allEq_true (fun j _ => rfl), hwq, decide_eq_true (rfl : m = m), Bool.true_and]
  clear hwq wq
  go_wp2_with fail
  refine (works_any (w15.drewN (q3 + q4 + q5 + q6)) (HT.out.below (HE15.out.below.trans (below_drewN _ _ _)))).mono ?_
  rintro e w16 ⟨rfl, hb16⟩
  have HB16 := hidden (HE15.out.below.trans (((below_drewN w15 (q3 + q4 + q5 + q6) _).trans hb16).mono HE15.out.below.size))
  clear hb16
  go_wp2_with fail
  go_ret
  exact ⟨rfl, HB16.out⟩

set_option maxHeartbeats 3200000 in
set_option maxRecDepth 100000 in
theorem joins_gt (x y : Option Addr) (n c m c' : Nat) (A B : Nat → Nat) (w : World) (hT : Tab w) (hn : n ≤ 6) (hm : m ≤ 6) (hnm : m < n) (hA : ∀ j, A j < 18446744073709551616) (hB : ∀ j, B j < 18446744073709551616)
    (hx : Rows' .u64 w x n (fun j => (A j : Int))) (hy : Rows' .u64 w y m (fun j => (B j : Int))) (hcx : x = none → n = 0 ∧ c = 0) (hcy : y = none → m = 0 ∧ c' = 0) :
    Calls Tryd.prog 5 #[.slice x n c, .slice y m c'] w fun e w' => e = .returned (.bool true) ∧ Below w.heap.size w w' := by
  have HT := hidden hT
  have HA := hidden hA
  have HB := hidden hB
  have HX := hidden hx
  have HY := hidden hy
  have HCX := hidden hcx
  have HCY := hidden hcy
  clear hT hA hB hx hy hcx hcy
  have hmx : max n m = n := by omega
  have hmn : min n m = m := by omega
  have HMX := hidden hmx
  have HMN := hidden hmn
  clear hmx hmn
  go_enter Tryd.func5, Tryd.ntmps5
  go_wp2_with fail
  refine (copied_any x n c _ w (by omega) HCX.out HX.out).mono ?_
  rintro e w1 ⟨g1, c1, rfl, _, hM1, hB1⟩
  have HM1 := hidden hM1
  have HB1 := hidden hB1
  clear hM1 hB1
  go_wp2_with fail
  refine (copied_any y m c' _ w1 (by omega) HCY.out (HY.out.below HB1.out)).mono ?_
  rintro e w2 ⟨g2, c2, rfl, _, hM2, hB2⟩
  have HM1b := hidden (HM1.out.below hB2)
  have HM2 := hidden hM2
  have HB2 := hidden (HB1.out.trans (hB2.mono HB1.out.size))
  clear hM2 hB2 HM1
  go_wp2_with fail
  refine (rlist_any x n c A w2 (by omega) HA.out (HX.out.below HB2.out)).mono ?_
  rintro e w3 ⟨v, rfl, hL3⟩
  obtain ⟨ax, cx, rfl, hRx, hNx, _⟩ := hL3.shape
  have hlx := setL_le n A
  obtain ⟨X, hX⟩ : ∃ X, X = setL n A := ⟨_, rfl⟩
  have hL3b := hL3.below
  rw [← hX] at hRx hNx hlx
  rw [← hX]
  have HM1c := hidden (HM1b.out.below hL3b)
  have HM2c := hidden (HM2.out.below hL3b)
  have HB3 := hidden (HB2.out.trans (hL3b.mono HB2.out.size))
  have HRx := hidden hRx
  have HNx := hidden hNx
  have HXX := hidden hX
  obtain ⟨p, hp⟩ : ∃ p, p = X.length := ⟨_, rfl⟩
  rw [← hp] at HRx HNx hlx
  rw [← hp]
  have HP := hidden hp
  clear hL3 hL3b hRx hNx hX HM1b HM2 hp
  go_wp2_with fail
  refine (rlist_any y m c' B w3 (by omega) HB.out (HY.out.below HB3.out)).mono ?_
  rintro e w4 ⟨v, rfl, hL4⟩
  obtain ⟨ay, cy, rfl, hRy, hNy, _⟩ := hL4.shape
  have hly := setL_le m B
  obtain ⟨Y, hY⟩ : ∃ Y, Y = setL m B := ⟨_, rfl⟩
  have hL4b := hL4.below
  rw [← hY] at hRy hNy hly
  rw [← hY]
  have HRy := hidden hRy
  have HNy := hidden hNy
  have HYY := hidden hY
  obtain ⟨q, hq⟩ : ∃ q, q = Y.length := ⟨_, rfl⟩
  rw [← hq] at HRy HNy hly
  rw [← hq]
  have HQ := hidden hq
  have HE4 := hidden (show Env w w4 g1 g2 n m A B ax ay p q X Y from ⟨HM1c.out.below hL4b, HM2c.out.below hL4b, HRx.out.below hL4b, HRy.out, HB3.out.trans (hL4b.mono HB3.out.size)⟩)
  clear hL4 hL4b hRy hNy hY HM1c HM2c hq HB3 HRx HRy HB2 HB1
  go_wp2_with fail
  refine (ints_any ax p cx _ w4 (by omega) HNx.out HE4.out.rx).mono ?_
  rintro e w5 ⟨v5, rfl, hL5, hv5⟩
  have HL5 := hidden hL5
  have HV5 := hidden hv5
  have HRy5 := hidden (HE4.out.ry.below hL5.below)
  clear hL5 hv5
  go_wp2_with (at_builtin; refine wpList_whole rfl (.tmp 28) (.tmp 29) 22 22 3 .i64 Tryd.underlying22 Tryd.underlying22 infoI rfl w4 _ _ _ _ ay q cy (fun j => Y.getD j 0) rfl rfl HL5.out.1 HL5.out.2 HRy5.out HNy.out (by omega) (by rw [cellsOf_length]; omega) HV5.out ?_; intro v6 w6 hown6 hbel6 hv6)
  have hL6 : Built w4 w6 v6 (cellsOf .i64 p (fun j => X.getD j 0) ++ cellsOf .i64 q (fun j => Y.getD j 0)) := ⟨by rw [List.length_append, cellsOf_length .i64 q]; exact hown6, hbel6⟩
  have hZe : cellsOf .i64 p (fun j => X.getD j 0) ++ cellsOf .i64 q (fun j => Y.getD j 0) = X ++ Y := by rw [HP.out, HQ.out, cells_all, cells_all]
  rw [hZe] at hL6
  obtain ⟨az, cz, rfl, hRz, _, _⟩ := hL6.shape
  have hlz : (X ++ Y).length = p + q := by rw [List.length_append, HP.out, HQ.out]
  rw [hlz] at hRz
  rw [hlz]
  have HE6 := hidden (HE4.out.go hL6.below)
  have HRz := hidden hRz
  clear hown6 hbel6 hv6 hL6 hZe hRz HE4 HL5 HV5 HRy5
  have HLZ := hidden hlz
  clear hlz
  go_wp2_with fail
  refine (sorted_any az (p + q) cz _ w6 (by omega) HRz.out).mono ?_
  rintro e w7 ⟨v7, rfl, hL7⟩
  obtain ⟨ao, co, rfl, hRo, _, _⟩ := hL7.shape
  have hlo := srt_length (fun j => (X ++ Y).getD j 0) (p + q)
  have hmo : ∀ z, z ∈ srt (fun j => (X ++ Y).getD j 0) (p + q) ↔ z ∈ setL n A ∨ z ∈ setL m B := by
    intro z
    rw [mem_srt, ← HLZ.out, in_list, List.mem_append, HXX.out, HYY.out]
  obtain ⟨O, hO⟩ : ∃ O, O = srt (fun j => (X ++ Y).getD j 0) (p + q) := ⟨_, rfl⟩
  rw [← hO] at hRo hlo hmo
  rw [← hO]
  have HE7 := hidden (HE6.out.go hL7.below)
  obtain ⟨r, hr⟩ : ∃ r, r = O.length := ⟨_, rfl⟩
  have HW1 := hidden (joins_or HA.out HB.out O hmo n)
  rw [← hr] at HW1 hRo hlo
  rw [← hr]
  have HRo := hidden hRo
  clear hL7 hRo hmo hO hr HE6 HRz
  go_wp2_with fail
  refine (or_any n c1 m c2 _ _ A B w7 (by omega) (by omega) HA.out HB.out HE7.out.ma.rows HE7.out.mb.rows).mono ?_
  rintro e w8 ⟨g8, rfl, _, hM8, hB8⟩
  rw [HMX.out] at hM8
  rw [HMX.out]
  have HM8 := hidden hM8
  have HRo8 := hidden (HRo.out.below hB8)
  have HE8 := hidden (HE7.out.go hB8)
  clear hM8 hB8 HRo HE7
  go_wp2_with fail
  refine (rwords_any n ao r co _ w8 (by omega) (by omega) HRo8.out).mono ?_
  rintro e w9 ⟨g9, rfl, _, hM9, hB9⟩
  have HM9 := hidden hM9
  have HM89 := hidden (HM8.out.below hB9)
  have HE9 := hidden (HE8.out.go hB9)
  clear hM9 hB9 HRo8 HM8 HE8
  go_wp2_with fail
  refine (words_any _ _ n n _ _ _ _ w9 (by omega) (by omega) HM89.out.rows HM9.out.rows).mono ?_
  rintro e wq ⟨rfl, q1, hwq⟩
  rw [HW1.out, hwq, decide_eq_true (rfl : n = n), Bool.true_and]
  clear hwq wq HM9 HM89 HW1
  -- And
  go_wp2_with fail
  refine (and_any n c1 m c2 _ _ A B (w9.drewN q1) (by omega) (by omega) HA.out HB.out HE9.out.ma.rows HE9.out.mb.rows).mono ?_
  rintro e w10 ⟨g10, rfl, _, hM10, hB10⟩
  have hB10 : Below w9.heap.size w9 w10 := (below_drewN w9 _ _).trans hB10
  rw [HMN.out] at hM10
  rw [HMN.out]
  have HM10 := hidden hM10
  have HE10 := hidden (HE9.out.go hB10)
  clear hM10 hB10 HE9
  go_wp2_with fail
  refine (in_any ax ay p cx q cy _ _ w10 (by omega) (by omega) HE10.out.rx HE10.out.ry).mono ?_
  rintro e w11 ⟨v11, rfl, hL11⟩
  obtain ⟨ai, ci, rfl, hRi, _, _⟩ := hL11.shape
  have hli := keep_length (isIn q (fun j => Y.getD j 0)) (fun j => X.getD j 0) p
  have hmi : ∀ z, z ∈ keep (isIn q (fun j => Y.getD j 0)) (fun j => X.getD j 0) p ↔ z ∈ setL n A ∧ z ∈ setL m B := by
    intro z
    rw [mem_keep, HP.out, in_list, HQ.out, isIn_list, decide_eq_true_iff, HXX.out, HYY.out]
  obtain ⟨I, hI⟩ : ∃ I, I = keep (isIn q (fun j => Y.getD j 0)) (fun j => X.getD j 0) p := ⟨_, rfl⟩
  rw [← hI] at hRi hli hmi
  rw [← hI]
  have HM1011 := hidden (HM10.out.below hL11.below)
  have HE11 := hidden (HE10.out.go hL11.below)
  obtain ⟨r2, hr2⟩ : ∃ r, r = I.length := ⟨_, rfl⟩
  have hw2 := joins_and HA.out I hmi
  rw [HMN.out] at hw2
  have HW2 := hidden hw2
  rw [← hr2] at HW2 hRi hli
  rw [← hr2]
  have HRi := hidden hRi
  clear hL11 hRi hmi hI hr2 HE10 HM10 hw2
  go_wp2_with fail
  refine (rwords_any m ai r2 ci _ w11 (by omega) (by omega) HRi.out).mono ?_
  rintro e w12 ⟨g12, rfl, _, hM12, hB12⟩
  have HM12 := hidden hM12
  have HM1012 := hidden (HM1011.out.below hB12)
  have HE12 := hidden (HE11.out.go hB12)
  clear hM12 hB12 HRi HM1011 HE11
  go_wp2_with fail
  refine (words_any _ _ m m _ _ _ _ w12 (by omega) (by omega) HM1012.out.rows HM12.out.rows).mono ?_
  rintro e wq ⟨rfl, q2, hwq⟩
  rw [HW2.out, hwq, decide_eq_true (rfl : m = m), Bool.true_and]
  clear hwq wq HM12 HM1012 HW2
  -- Less
  go_wp2_with fail
  refine (less_any n c1 m c2 _ _ A B (w12.drewN q2) (by omega) (by omega) HA.out HB.out HE12.out.ma.rows HE12.out.mb.rows).mono ?_
  rintro e w13 ⟨g13, rfl, _, hM13, hB13⟩
  have hB13 : Below w12.heap.size w12 w13 := (below_drewN w12 _ _).trans hB13
  have HM13 := hidden hM13
  have HE13 := hidden (HE12.out.go hB13)
  clear hM13 hB13 HE12
  go_wp2_with fail
  refine (out_any ax ay p cx q cy _ _ w13 (by omega) (by omega) HE13.out.rx HE13.out.ry).mono ?_
  rintro e w14 ⟨v14, rfl, hL14⟩
  obtain ⟨au, cu, rfl, hRu, _, _⟩ := hL14.shape
  have hlu := keep_length (fun x => !isIn q (fun j => Y.getD j 0) x) (fun j => X.getD j 0) p
  have hmu : ∀ z, z ∈ keep (fun x => !isIn q (fun j => Y.getD j 0) x) (fun j => X.getD j 0) p ↔ z ∈ setL n A ∧ ¬ z ∈ setL m B := by
    intro z
    rw [mem_keep, HP.out, in_list, HQ.out, isIn_list, HXX.out, HYY.out]
    simp
  obtain ⟨U, hU⟩ : ∃ U, U = keep (fun x => !isIn q (fun j => Y.getD j 0) x) (fun j => X.getD j 0) p := ⟨_, rfl⟩
  rw [← hU] at hRu hlu hmu
  rw [← hU]
  have HM1314 := hidden (HM13.out.below hL14.below)
  have HE14 := hidden (HE13.out.go hL14.below)
  obtain ⟨r3, hr3⟩ : ∃ r, r = U.length := ⟨_, rfl⟩
  have HW3 := hidden (joins_less HA.out HB.out U hmu)
  rw [← hr3] at HW3 hRu hlu
  rw [← hr3]
  have HRu := hidden hRu
  clear hL14 hRu hmu hU hr3 HE13 HM13
  go_wp2_with fail
  refine (rwords_any n au r3 cu _ w14 (by omega) (by omega) HRu.out).mono ?_
  rintro e w15 ⟨g15, rfl, _, hM15, hB15⟩
  have HM15 := hidden hM15
  have HM1315 := hidden (HM1314.out.below hB15)
  have HE15 := hidden (HE14.out.go hB15)
  clear hM15 hB15 HRu HM1314 HE14
  go_wp2_with fail
  refine (words_any _ _ n n _ _ _ _ w15 (by omega) (by omega) HM1315.out.rows HM15.out.rows).mono ?_
  rintro e wq ⟨rfl, q3, hwq⟩
  rw [HW3.out, hwq, decide_eq_true (rfl : n = n), Bool.true_and]
  clear hwq wq HM15 HM1315 HW3
  -- Same
  go_wp2_with fail
  refine (same_any _ _ n m c1 c2 A B (w15.drewN q3) (by omega) (by omega) HE15.out.ma.rows HE15.out.mb.rows).mono ?_
  rintro e wq ⟨rfl, hwq⟩
  rw [joins_same HA.out HB.out, hwq]
  clear hwq wq
  go_wp2_with fail
  refine (sameInts_any ax ay p q cx cy _ _ (w15.drewN q3) (by omega) (by omega) HE15.out.rx HE15.out.ry).mono ?_
  rintro e wq ⟨rfl, q4, hwq⟩
  rw [hwq, HP.out, HQ.out, list_eqB, HXX.out, HYY.out]
  clear hwq wq
  obtain ⟨b, hb⟩ : ∃ b, b = decide (setL n A = setL m B) := ⟨_, rfl⟩
  rw [← hb]
  have hbb : (b == b) = true := by simp
  clear hb
  go_wp2_with fail
  refine (words_any _ x n n c1 c _ _ (w15.drewN (q3 + q4)) (by omega) (by omega) HE15.out.ma.rows (HX.out.below (HE15.out.below.trans (below_drewN _ _ _)))).mono ?_
  rintro e wq ⟨rfl, q5, hwq⟩
  rw [allEq_true (fun j _ => rfl), hwq, decide_eq_true (rfl : n = n), Bool.true_and]
  clear hwq wq
  go_wp2_with fail
  refine (words_any _ y m m c2 c' _ _ (w15.drewN (q3 + q4 + q5)) (by omega) (by omega) HE15.out.mb.rows (HY.out.below (HE15.out.below.trans (below_drewN _ _ _)))).mono ?_
  rintro e wq ⟨rfl, q6, hwq⟩
  rw [allEq_true (fun j _ => rfl), hwq, decide_eq_true (rfl : m = m), Bool.true_and]
  clear hwq wq
  go_wp2_with fail
  refine (works_any (w15.drewN (q3 + q4 + q5 + q6)) (HT.out.below (HE15.out.below.trans (below_drewN _ _ _)))).mono ?_
  rintro e w16 ⟨rfl, hb16⟩
  have HB16 := hidden (HE15.out.below.trans (((below_drewN w15 (q3 + q4 + q5 + q6) _).trans hb16).mono HE15.out.below.size))
  clear hb16
  go_wp2_with fail
  go_ret
  exact ⟨rfl, HB16.out⟩

set_option maxHeartbeats 3200000 in
set_option maxRecDepth 100000 in
theorem joins_eq (x y : Option Addr) (n c c' : Nat) (A B : Nat → Nat) (w : World) (hT : Tab w) (hn : n ≤ 6) (hA : ∀ j, A j < 18446744073709551616) (hB : ∀ j, B j < 18446744073709551616)
    (hx : Rows' .u64 w x n (fun j => (A j : Int))) (hy : Rows' .u64 w y n (fun j => (B j : Int))) (hcx : x = none → n = 0 ∧ c = 0) (hcy : y = none → n = 0 ∧ c' = 0) :
    Calls Tryd.prog 5 #[.slice x n c, .slice y n c'] w fun e w' => e = .returned (.bool true) ∧ Below w.heap.size w w' := by
  have HT := hidden hT
  have HA := hidden hA
  have HB := hidden hB
  have HX := hidden hx
  have HY := hidden hy
  have HCX := hidden hcx
  have HCY := hidden hcy
  clear hT hA hB hx hy hcx hcy
  have hmx : max n n = n := by omega
  have hmn : min n n = n := by omega
  have HMX := hidden hmx
  have HMN := hidden hmn
  clear hmx hmn
  go_enter Tryd.func5, Tryd.ntmps5
  go_wp2_with fail
  refine (copied_any x n c _ w (by omega) HCX.out HX.out).mono ?_
  rintro e w1 ⟨g1, c1, rfl, _, hM1, hB1⟩
  have HM1 := hidden hM1
  have HB1 := hidden hB1
  clear hM1 hB1
  go_wp2_with fail
  refine (copied_any y n c' _ w1 (by omega) HCY.out (HY.out.below HB1.out)).mono ?_
  rintro e w2 ⟨g2, c2, rfl, _, hM2, hB2⟩
  have HM1b := hidden (HM1.out.below hB2)
  have HM2 := hidden hM2
  have HB2 := hidden (HB1.out.trans (hB2.mono HB1.out.size))
  clear hM2 hB2 HM1
  go_wp2_with fail
  refine (rlist_any x n c A w2 (by omega) HA.out (HX.out.below HB2.out)).mono ?_
  rintro e w3 ⟨v, rfl, hL3⟩
  obtain ⟨ax, cx, rfl, hRx, hNx, _⟩ := hL3.shape
  have hlx := setL_le n A
  obtain ⟨X, hX⟩ : ∃ X, X = setL n A := ⟨_, rfl⟩
  have hL3b := hL3.below
  rw [← hX] at hRx hNx hlx
  rw [← hX]
  have HM1c := hidden (HM1b.out.below hL3b)
  have HM2c := hidden (HM2.out.below hL3b)
  have HB3 := hidden (HB2.out.trans (hL3b.mono HB2.out.size))
  have HRx := hidden hRx
  have HNx := hidden hNx
  have HXX := hidden hX
  obtain ⟨p, hp⟩ : ∃ p, p = X.length := ⟨_, rfl⟩
  rw [← hp] at HRx HNx hlx
  rw [← hp]
  have HP := hidden hp
  clear hL3 hL3b hRx hNx hX HM1b HM2 hp
  go_wp2_with fail
  refine (rlist_any y n c' B w3 (by omega) HB.out (HY.out.below HB3.out)).mono ?_
  rintro e w4 ⟨v, rfl, hL4⟩
  obtain ⟨ay, cy, rfl, hRy, hNy, _⟩ := hL4.shape
  have hly := setL_le n B
  obtain ⟨Y, hY⟩ : ∃ Y, Y = setL n B := ⟨_, rfl⟩
  have hL4b := hL4.below
  rw [← hY] at hRy hNy hly
  rw [← hY]
  have HRy := hidden hRy
  have HNy := hidden hNy
  have HYY := hidden hY
  obtain ⟨q, hq⟩ : ∃ q, q = Y.length := ⟨_, rfl⟩
  rw [← hq] at HRy HNy hly
  rw [← hq]
  have HQ := hidden hq
  have HE4 := hidden (show Env w w4 g1 g2 n n A B ax ay p q X Y from ⟨HM1c.out.below hL4b, HM2c.out.below hL4b, HRx.out.below hL4b, HRy.out, HB3.out.trans (hL4b.mono HB3.out.size)⟩)
  clear hL4 hL4b hRy hNy hY HM1c HM2c hq HB3 HRx HRy HB2 HB1
  go_wp2_with fail
  refine (ints_any ax p cx _ w4 (by omega) HNx.out HE4.out.rx).mono ?_
  rintro e w5 ⟨v5, rfl, hL5, hv5⟩
  have HL5 := hidden hL5
  have HV5 := hidden hv5
  have HRy5 := hidden (HE4.out.ry.below hL5.below)
  clear hL5 hv5
  go_wp2_with (at_builtin; refine wpList_whole rfl (.tmp 28) (.tmp 29) 22 22 3 .i64 Tryd.underlying22 Tryd.underlying22 infoI rfl w4 _ _ _ _ ay q cy (fun j => Y.getD j 0) rfl rfl HL5.out.1 HL5.out.2 HRy5.out HNy.out (by omega) (by rw [cellsOf_length]; omega) HV5.out ?_; intro v6 w6 hown6 hbel6 hv6)
  have hL6 : Built w4 w6 v6 (cellsOf .i64 p (fun j => X.getD j 0) ++ cellsOf .i64 q (fun j => Y.getD j 0)) := ⟨by rw [List.length_append, cellsOf_length .i64 q]; exact hown6, hbel6⟩
  have hZe : cellsOf .i64 p (fun j => X.getD j 0) ++ cellsOf .i64 q (fun j => Y.getD j 0) = X ++ Y := by rw [HP.out, HQ.out, cells_all, cells_all]
  rw [hZe] at hL6
  obtain ⟨az, cz, rfl, hRz, _, _⟩ := hL6.shape
  have hlz : (X ++ Y).length = p + q := by rw [List.length_append, HP.out, HQ.out]
  rw [hlz] at hRz
  rw [hlz]
  have HE6 := hidden (HE4.out.go hL6.below)
  have HRz := hidden hRz
  clear hown6 hbel6 hv6 hL6 hZe hRz HE4 HL5 HV5 HRy5
  have HLZ := hidden hlz
  clear hlz
  go_wp2_with fail
  refine (sorted_any az (p + q) cz _ w6 (by omega) HRz.out).mono ?_
  rintro e w7 ⟨v7, rfl, hL7⟩
  obtain ⟨ao, co, rfl, hRo, _, _⟩ := hL7.shape
  have hlo := srt_length (fun j => (X ++ Y).getD j 0) (p + q)
  have hmo : ∀ z, z ∈ srt (fun j => (X ++ Y).getD j 0) (p + q) ↔ z ∈ setL n A ∨ z ∈ setL n B := by
    intro z
    rw [mem_srt, ← HLZ.out, in_list, List.mem_append, HXX.out, HYY.out]
  obtain ⟨O, hO⟩ : ∃ O, O = srt (fun j => (X ++ Y).getD j 0) (p + q) := ⟨_, rfl⟩
  rw [← hO] at hRo hlo hmo
  rw [← hO]
  have HE7 := hidden (HE6.out.go hL7.below)
  obtain ⟨r, hr⟩ : ∃ r, r = O.length := ⟨_, rfl⟩
  have HW1 := hidden (joins_or HA.out HB.out O hmo n)
  rw [← hr] at HW1 hRo hlo
  rw [← hr]
  have HRo := hidden hRo
  clear hL7 hRo hmo hO hr HE6 HRz
  go_wp2_with fail
  refine (or_any n c1 n c2 _ _ A B w7 (by omega) (by omega) HA.out HB.out HE7.out.ma.rows HE7.out.mb.rows).mono ?_
  rintro e w8 ⟨g8, rfl, _, hM8, hB8⟩
  rw [HMX.out] at hM8
  rw [HMX.out]
  have HM8 := hidden hM8
  have HRo8 := hidden (HRo.out.below hB8)
  have HE8 := hidden (HE7.out.go hB8)
  clear hM8 hB8 HRo HE7
  go_wp2_with fail
  refine (rwords_any n ao r co _ w8 (by omega) (by omega) HRo8.out).mono ?_
  rintro e w9 ⟨g9, rfl, _, hM9, hB9⟩
  have HM9 := hidden hM9
  have HM89 := hidden (HM8.out.below hB9)
  have HE9 := hidden (HE8.out.go hB9)
  clear hM9 hB9 HRo8 HM8 HE8
  go_wp2_with fail
  refine (words_any _ _ n n _ _ _ _ w9 (by omega) (by omega) HM89.out.rows HM9.out.rows).mono ?_
  rintro e wq ⟨rfl, q1, hwq⟩
  rw [HW1.out, hwq, decide_eq_true (rfl : n = n), Bool.true_and]
  clear hwq wq HM9 HM89 HW1
  -- And
  go_wp2_with fail
  refine (and_any n c1 n c2 _ _ A B (w9.drewN q1) (by omega) (by omega) HA.out HB.out HE9.out.ma.rows HE9.out.mb.rows).mono ?_
  rintro e w10 ⟨g10, rfl, _, hM10, hB10⟩
  have hB10 : Below w9.heap.size w9 w10 := (below_drewN w9 _ _).trans hB10
  rw [HMN.out] at hM10
  rw [HMN.out]
  have HM10 := hidden hM10
  have HE10 := hidden (HE9.out.go hB10)
  clear hM10 hB10 HE9
  go_wp2_with fail
  refine (in_any ax ay p cx q cy _ _ w10 (by omega) (by omega) HE10.out.rx HE10.out.ry).mono ?_
  rintro e w11 ⟨v11, rfl, hL11⟩
  obtain ⟨ai, ci, rfl, hRi, _, _⟩ := hL11.shape
  have hli := keep_length (isIn q (fun j => Y.getD j 0)) (fun j => X.getD j 0) p
  have hmi : ∀ z, z ∈ keep (isIn q (fun j => Y.getD j 0)) (fun j => X.getD j 0) p ↔ z ∈ setL n A ∧ z ∈ setL n B := by
    intro z
    rw [mem_keep, HP.out, in_list, HQ.out, isIn_list, decide_eq_true_iff, HXX.out, HYY.out]
  obtain ⟨I, hI⟩ : ∃ I, I = keep (isIn q (fun j => Y.getD j 0)) (fun j => X.getD j 0) p := ⟨_, rfl⟩
  rw [← hI] at hRi hli hmi
  rw [← hI]
  have HM1011 := hidden (HM10.out.below hL11.below)
  have HE11 := hidden (HE10.out.go hL11.below)
  obtain ⟨r2, hr2⟩ : ∃ r, r = I.length := ⟨_, rfl⟩
  have hw2 := joins_and HA.out I hmi
  rw [HMN.out] at hw2
  have HW2 := hidden hw2
  rw [← hr2] at HW2 hRi hli
  rw [← hr2]
  have HRi := hidden hRi
  clear hL11 hRi hmi hI hr2 HE10 HM10 hw2
  go_wp2_with fail
  refine (rwords_any n ai r2 ci _ w11 (by omega) (by omega) HRi.out).mono ?_
  rintro e w12 ⟨g12, rfl, _, hM12, hB12⟩
  have HM12 := hidden hM12
  have HM1012 := hidden (HM1011.out.below hB12)
  have HE12 := hidden (HE11.out.go hB12)
  clear hM12 hB12 HRi HM1011 HE11
  go_wp2_with fail
  refine (words_any _ _ n n _ _ _ _ w12 (by omega) (by omega) HM1012.out.rows HM12.out.rows).mono ?_
  rintro e wq ⟨rfl, q2, hwq⟩
  rw [HW2.out, hwq, decide_eq_true (rfl : n = n), Bool.true_and]
  clear hwq wq HM12 HM1012 HW2
  -- Less
  go_wp2_with fail
  refine (less_any n c1 n c2 _ _ A B (w12.drewN q2) (by omega) (by omega) HA.out HB.out HE12.out.ma.rows HE12.out.mb.rows).mono ?_
  rintro e w13 ⟨g13, rfl, _, hM13, hB13⟩
  have hB13 : Below w12.heap.size w12 w13 := (below_drewN w12 _ _).trans hB13
  have HM13 := hidden hM13
  have HE13 := hidden (HE12.out.go hB13)
  clear hM13 hB13 HE12
  go_wp2_with fail
  refine (out_any ax ay p cx q cy _ _ w13 (by omega) (by omega) HE13.out.rx HE13.out.ry).mono ?_
  rintro e w14 ⟨v14, rfl, hL14⟩
  obtain ⟨au, cu, rfl, hRu, _, _⟩ := hL14.shape
  have hlu := keep_length (fun x => !isIn q (fun j => Y.getD j 0) x) (fun j => X.getD j 0) p
  have hmu : ∀ z, z ∈ keep (fun x => !isIn q (fun j => Y.getD j 0) x) (fun j => X.getD j 0) p ↔ z ∈ setL n A ∧ ¬ z ∈ setL n B := by
    intro z
    rw [mem_keep, HP.out, in_list, HQ.out, isIn_list, HXX.out, HYY.out]
    simp
  obtain ⟨U, hU⟩ : ∃ U, U = keep (fun x => !isIn q (fun j => Y.getD j 0) x) (fun j => X.getD j 0) p := ⟨_, rfl⟩
  rw [← hU] at hRu hlu hmu
  rw [← hU]
  have HM1314 := hidden (HM13.out.below hL14.below)
  have HE14 := hidden (HE13.out.go hL14.below)
  obtain ⟨r3, hr3⟩ : ∃ r, r = U.length := ⟨_, rfl⟩
  have HW3 := hidden (joins_less HA.out HB.out U hmu)
  rw [← hr3] at HW3 hRu hlu
  rw [← hr3]
  have HRu := hidden hRu
  clear hL14 hRu hmu hU hr3 HE13 HM13
  go_wp2_with fail
  refine (rwords_any n au r3 cu _ w14 (by omega) (by omega) HRu.out).mono ?_
  rintro e w15 ⟨g15, rfl, _, hM15, hB15⟩
  have HM15 := hidden hM15
  have HM1315 := hidden (HM1314.out.below hB15)
  have HE15 := hidden (HE14.out.go hB15)
  clear hM15 hB15 HRu HM1314 HE14
  go_wp2_with fail
  refine (words_any _ _ n n _ _ _ _ w15 (by omega) (by omega) HM1315.out.rows HM15.out.rows).mono ?_
  rintro e wq ⟨rfl, q3, hwq⟩
  rw [HW3.out, hwq, decide_eq_true (rfl : n = n), Bool.true_and]
  clear hwq wq HM15 HM1315 HW3
  -- Same
  go_wp2_with fail
  refine (same_any _ _ n n c1 c2 A B (w15.drewN q3) (by omega) (by omega) HE15.out.ma.rows HE15.out.mb.rows).mono ?_
  rintro e wq ⟨rfl, hwq⟩
  rw [joins_same HA.out HB.out, hwq]
  clear hwq wq
  go_wp2_with fail
  refine (sameInts_any ax ay p q cx cy _ _ (w15.drewN q3) (by omega) (by omega) HE15.out.rx HE15.out.ry).mono ?_
  rintro e wq ⟨rfl, q4, hwq⟩
  rw [hwq, HP.out, HQ.out, list_eqB, HXX.out, HYY.out]
  clear hwq wq
  obtain ⟨b, hb⟩ : ∃ b, b = decide (setL n A = setL n B) := ⟨_, rfl⟩
  rw [← hb]
  have hbb : (b == b) = true := by simp
  clear hb
  go_wp2_with fail
  refine (words_any _ x n n c1 c _ _ (w15.drewN (q3 + q4)) (by omega) (by omega) HE15.out.ma.rows (HX.out.below (HE15.out.below.trans (below_drewN _ _ _)))).mono ?_
  rintro e wq ⟨rfl, q5, hwq⟩
  rw [allEq_true (fun j _ => rfl), hwq, decide_eq_true (rfl : n = n), Bool.true_and]
  clear hwq wq
  go_wp2_with fail
  refine (words_any _ y n n c2 c' _ _ (w15.drewN (q3 + q4 + q5)) (by omega) (by omega) HE15.out.mb.rows (HY.out.below (HE15.out.below.trans (below_drewN _ _ _)))).mono ?_
  rintro e wq ⟨rfl, q6, hwq⟩
  rw [allEq_true (fun j _ => rfl), hwq, decide_eq_true (rfl : n = n), Bool.true_and]
  clear hwq wq
  go_wp2_with fail
  refine (works_any (w15.drewN (q3 + q4 + q5 + q6)) (HT.out.below (HE15.out.below.trans (below_drewN _ _ _)))).mono ?_
  rintro e w16 ⟨rfl, hb16⟩
  have HB16 := hidden (HE15.out.below.trans (((below_drewN w15 (q3 + q4 + q5 + q6) _).trans hb16).mono HE15.out.below.size))
  clear hb16
  go_wp2_with fail
  go_ret
  exact ⟨rfl, HB16.out⟩

theorem joins_small (x y : Option Addr) (n c m c' : Nat) (A B : Nat → Nat) (w : World) (hT : Tab w) (hn : n ≤ 6) (hm : m ≤ 6) (hA : ∀ j, A j < 18446744073709551616) (hB : ∀ j, B j < 18446744073709551616)
    (hx : Rows' .u64 w x n (fun j => (A j : Int))) (hy : Rows' .u64 w y m (fun j => (B j : Int))) (hcx : x = none → n = 0 ∧ c = 0) (hcy : y = none → m = 0 ∧ c' = 0) :
    Calls Tryd.prog 5 #[.slice x n c, .slice y m c'] w fun e w' => e = .returned (.bool true) ∧ Below w.heap.size w w' := by
  rcases Nat.lt_trichotomy n m with h | h | h
  · exact joins_lt x y n c m c' A B w hT hn hm h hA hB hx hy hcx hcy
  · subst h
    exact joins_eq x y n c c' A B w hT hn hA hB hx hy hcx hcy
  · exact joins_gt x y n c m c' A B w hT hn hm h hA hB hx hy hcx hcy
theorem joins_long (x y : Option Addr) (n c m c' : Nat) (w : World) (hT : Tab w) (hn : n ≤ 9223372036854775807) (hm : m ≤ 9223372036854775807) (h : 6 < n ∨ 6 < m) :
    Calls Tryd.prog 5 #[.slice x n c, .slice y m c'] w fun e w' => e = .returned (.bool true) ∧ Below w.heap.size w w' := by
  have HT := hidden hT
  clear hT
  by_cases h6 : 6 < n
  · go_enter Tryd.func5, Tryd.ntmps5
    go_wp2_with fail
    refine (works_any _ HT.out).mono ?_
    rintro e w6 ⟨rfl, hb6⟩
    have HB6 := hidden hb6
    clear hb6
    go_wp2_with fail
    go_ret
    exact ⟨rfl, HB6.out⟩
  · have h7 : 6 < m := by omega
    have h8 : n ≤ 6 := by omega
    clear h h6
    go_enter Tryd.func5, Tryd.ntmps5
    go_wp2_with fail
    refine (works_any _ HT.out).mono ?_
    rintro e w6 ⟨rfl, hb6⟩
    have HB6 := hidden hb6
    clear hb6
    go_wp2_with fail
    go_ret
    exact ⟨rfl, HB6.out⟩
theorem joins_walk (a0 : Option Addr) (len0 cap0 : Nat) (z0 : List Int) (a1 : Option Addr) (len1 cap1 : Nat) (z1 : List Int) (w : World) (hT : Tab w) (w0 : IsRow .u64 w a0 len0 cap0 z0) (w1 : IsRow .u64 w a1 len1 cap1 z1) :
    Calls Tryd.prog 5 #[.slice a0 len0 cap0, .slice a1 len1 cap1] w fun e w' => e = .returned (.bool true) ∧ Below w.heap.size w w' := by
  by_cases h : 6 < len0 ∨ 6 < len1
  · exact joins_long a0 a1 len0 cap0 len1 cap1 w hT w0.len.2 w1.len.2 h
  · exact joins_small a0 a1 len0 cap0 len1 cap1 (wordsIn z0) (wordsIn z1) w hT (by omega) (by omega) (wordsIn_lt w0) (wordsIn_lt w1) w0.words w1.words w0.none w1.none

set_option maxRecDepth 100000 in
theorem joins_lifted (os : Os) (started : os.Started) (H : Type) (enc : TypeId × Value → H) :
    ReturnsInHanded {} Tryd.checked os 5 .any (fun w args => (Rows.bitsJoinsSpec.pre enc Tryd.prog Tryd.f5 [] false w args ∧ laidMetH Tryd.prog laid1 w) ∧ sizedMet enc Tryd.prog Tryd.f5 (OpenSpec.ofChange Rows.bitsJoinsSpec) false w args)
      (Rows.bitsJoinsSpec.post enc Tryd.prog Tryd.f5 false true false false) := by
  refine returnsInHanded_of_change_and (C := Tryd.checked) (X := fun w _ => laidMetH Tryd.prog laid1 w) (fun _ _ _ hh h => h.of_heap hh) own started (by kernel_rfl) Tryd.func5
    (ChangeSpec.witness_shaped (enc := enc) (C := Tryd.checked) (os := os) (X := fun w _ => laidMetH Tryd.prog laid1 w) false (World.doorLaid Tryd.prog 400 os) #[.slice none 0 0, .slice none 0 0] 8 rfl (World.shaped_of_RefB (by kernel_rfl) (by kernel_rfl)) (by kernel_rfl) (by kernel_rfl) (by kernel_rfl) (door_met os _)) ?_
  intro W base args ds gs before hval0 hW _ _ hL _
  have hT := of_laid hL
  have hval : ∀ (j : Nat) t v, Tryd.f5.params[j]? = some t → args[j]? = some v → Value.okWide Tryd.prog W .any base t v := hval0
  have hW' := hW
  obtain ⟨p, q, hA0, hV, rfl, hfz, hnd⟩ := hW
  have hA : DataW.TrodAll enc Tryd.prog W 0 (fun _ => true) true Tryd.f5.params.toList args.toList ds p := hA0
  rw [Tryd.params5] at hA hval
  obtain ⟨v0, vs0, d0, ds0, p0, q0, hargs, rfl, rfl, h0, r0⟩ := trodAll_cons hA
  obtain ⟨v1, vs1, d1, ds1, p1, q1, rfl, rfl, rfl, h1, r1⟩ := trodAll_cons r0
  obtain ⟨rfl, rfl, rfl⟩ := trodAll_nil r1
  obtain rfl : args = #[v0, v1] := by cases args; simp_all
  obtain ⟨rfl, rfl⟩ := trodVars_none hV
  obtain ⟨a0, len0, cap0, rfl⟩ := okWide_slice Tryd.underlying23 (hval 0 23 v0 rfl rfl)
  have k0 := h0
  have lt0 : ∀ x ∈ p0, x.block < W.heap.size := by obtain ⟨m, hm⟩ := k0; exact DataW.trod_lt m _ _ _ hm
  obtain ⟨z0, w0⟩ : ∃ zs, IsRow .u64 W a0 len0 cap0 zs := by
    obtain ⟨fuel, hf⟩ := h0
    rcases open_ints Tryd.underlying23 Tryd.underlying48 (by kernel_rfl) hf with ⟨hcs, _⟩ | ⟨x, l, c, zs, hcs, _, hl, hm, hz, _, hcell, hwz⟩
    · simp [Value.cells] at hcs
      obtain ⟨rfl, rfl, rfl⟩ := hcs
      exact ⟨[], .inl ⟨rfl, rfl, rfl, rfl⟩⟩
    · simp [Value.cells] at hcs
      obtain ⟨rfl, rfl, rfl⟩ := hcs
      exact ⟨zs, .inr ⟨_, rfl, hl, hm, by simpa using hz, hcell, hwz⟩⟩
  obtain ⟨a1, len1, cap1, rfl⟩ := okWide_slice Tryd.underlying23 (hval 1 23 v1 rfl rfl)
  have k1 := h1
  have lt1 : ∀ x ∈ p1, x.block < W.heap.size := by obtain ⟨m, hm⟩ := k1; exact DataW.trod_lt m _ _ _ hm
  obtain ⟨z1, w1⟩ : ∃ zs, IsRow .u64 W a1 len1 cap1 zs := by
    obtain ⟨fuel, hf⟩ := h1
    rcases open_ints Tryd.underlying23 Tryd.underlying48 (by kernel_rfl) hf with ⟨hcs, _⟩ | ⟨x, l, c, zs, hcs, _, hl, hm, hz, _, hcell, hwz⟩
    · simp [Value.cells] at hcs
      obtain ⟨rfl, rfl, rfl⟩ := hcs
      exact ⟨[], .inl ⟨rfl, rfl, rfl, rfl⟩⟩
    · simp [Value.cells] at hcs
      obtain ⟨rfl, rfl, rfl⟩ := hcs
      exact ⟨zs, .inr ⟨_, rfl, hl, hm, by simpa using hz, hcell, hwz⟩⟩
  clear hA0 hval0
  refine (joins_walk a0 len0 cap0 z0 a1 len1 cap1 z1 W hT w0 w1).mono fun e W' ⟨he, bel⟩ => ?_
  subst he
  exact ⟨_, rfl, _, _, _, [], _, [], hW', trodAll_mk1 (shut_bool Tryd.underlying4 _), (trodAll_cons_mk (Below.trod laidOut (by kernel_rfl) (of_decide_eq_true (by kernel_rfl)) k0 bel lt0) (trodAll_cons_mk (Below.trod laidOut (by kernel_rfl) (of_decide_eq_true (by kernel_rfl)) k1 bel lt1) trodAll_mk0)), rfl, bel.frame _, fun h => by cases h⟩

theorem joins_over : Rows.BitsJoinsSaid :=
  OpenClaim.holds_of_wide 5 Tryd.f5 rfl rfl rfl rfl rfl rfl rfl ⟨rfl, rfl, rfl, rfl, rfl⟩ rfl rfl rfl rfl rfl (by kernel_rfl) Tryd.func5 (by kernel_rfl)
    (of_decide_eq_true (by kernel_rfl)) (by unfold Func.isWrapper; first | (rw [if_pos (by decide +kernel)]; kernel_rfl) | (rw [if_neg (by decide +kernel)]; exact ⟨rfl, rfl⟩))
    (fun os started H enc _ => joins_lifted os started H enc)

/-- the statement: the card, tied to the program's text -/
theorem joins_holds : Rows.BitsJoinsCardSaid :=
  Claim7.holds_tied_plain_at .later [] [.data] true Rows.bitsJoinsCard.stood.harness false
    joins_over (fun _ h => by cases h) (by kernel_rfl) (fun _ h => by cases h) bitsJoins_row_tie rfl ⟨rfl, rfl⟩ (by kernel_rfl) rfl
    (fun f fn hf hfn => by
      obtain rfl : f = 5 := Option.some.inj ((show Tryd.prog.funcNamed "balustrade/balustradelaw02.BitsJoins" = some 5 by kernel_rfl).symm.trans hf) |>.symm
      obtain rfl : fn = Tryd.f5 := (Option.some.inj (Tryd.func5.symm.trans hfn)).symm
      exact ⟨by kernel_rfl, fun j t ht => by
        rw [Tryd.params5] at ht
        have hm : t ∈ [23, 23] := by simpa using Array.mem_of_getElem? ht
        have hall : ([23, 23].all fun u => !Tryd.prog.wantsStandIn u) = true := by kernel_rfl
        exact (show Tryd.prog.wantsStandIn t = false by simpa using List.all_eq_true.1 hall t hm)⟩)
    (by kernel_rfl)
#print axioms joins_holds
end Go.Proofs.YtkaaokaiealbmaaDoor
