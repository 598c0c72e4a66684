/- Proved: what is in any set, and what is put in and taken out, is as the document says, number by number (statement BitsChanges); the table of math/bits is as the program's text lays it (tied). -/
import Derived.Test.YtkaaokaiealbmaaDoorBitsDoor
import Derived.Test.YtkaaokaiealbmaaDoorBitsTurn
import Derived.Test.YtkaaokaiealbmaaDoorCards
import Derived.Test.YtkaaokaiealbmaaDoorTie
import Derived.SevenTiedAt
namespace Go.Proofs.YtkaaokaiealbmaaDoor
open Go.ChangeShapes Go.WideShapes Go.ChangeAt Go.RowKit
set_option linter.unusedVariables false

theorem par_two (x : Int) : (x.tmod 2 == 0) = (x % 2 == 0) := by
  have h : x.tmod 2 = 0 ↔ x % 2 = 0 := by
    by_cases h0 : 0 ≤ x
    · rw [Int.tmod_eq_emod_of_nonneg h0]
    · have e : x = -(-x) := by omega
      rw [e, Int.neg_tmod, Int.tmod_eq_emod_of_nonneg (by omega)]
      omega
  by_cases h2 : x % 2 = 0
  · rw [h.2 h2, h2]
  · have h3 : ¬ x.tmod 2 = 0 := fun e => h2 (h.1 e)
    rw [beq_eq_false_iff_ne.2 h2, beq_eq_false_iff_ne.2 h3]

theorem cells_all2 (X : List Int) : cellsOf .i64 X.length (fun j => X.getD j 0) = X := by
  have h := drop_cells X 0
  simpa using h
theorem one_rows (w : World) (t : TypeId) (x : Int) : Rows' .i64 (w.alloc (.cells #[.int .i64 x] t)) (some ⟨w.heap.size, 0, none⟩) 1 (fun j => ([x] : List Int).getD j 0) := by
  intro _
  refine ⟨w.heap.size, 0, rfl, by simp, fun j hj => ?_⟩
  rw [World.cell?_alloc_at _ _ _ _ rfl]
  rcases j with _ | j
  · simp
  · omega
theorem changes_words (n : Nat) (A : Nat → Nat) (hA : ∀ j, A j < 18446744073709551616) : allEq n (fun j => (A j : Int)) (fun i => (part (isIn (setL n A).length (fun j => (setL n A).getD j 0)) i 64 : Int)) = true :=
  words_of hA fun j t hj ht => by rw [mem_setL_at ht, wd_in hj]
theorem drop_anyX (x : Int) (i : Nat) (hx : x = (i : Int)) (g n cap : Nat) (A : Nat → Nat) (w : World) (hn : n ≤ 100000) (hi : i < 64 * n) (hA : ∀ j, A j < 18446744073709551616) (hM : Mine .u64 48 w g n (fun j => (A j : Int))) :
    Calls Tryd.prog 22 #[.slice (some ⟨g, 0, none⟩) n cap, .int .i64 x] w fun e w' => e = .returned (.bool ((A (i / 64)).testBit (i % 64))) ∧ Mine .u64 48 w' g n (fun j => (dropW A i j : Int)) ∧ But g w w' := by
  subst hx
  exact drop_any g n cap i A w hn hi hA hM
theorem put_anyX (x : Int) (i : Nat) (hx : x = (i : Int)) (g n cap : Nat) (A : Nat → Nat) (w : World) (hn : n ≤ 100000) (hi : i < 64 * n) (hA : ∀ j, A j < 18446744073709551616) (hM : Mine .u64 48 w g n (fun j => (A j : Int))) :
    Calls Tryd.prog 23 #[.slice (some ⟨g, 0, none⟩) n cap, .int .i64 x] w fun e w' => e = .returned (.bool (!(A (i / 64)).testBit (i % 64))) ∧ Mine .u64 48 w' g n (fun j => (putW A i j : Int)) ∧ But g w w' := by
  subst hx
  exact put_any g n cap i A w hn hi hA hM

set_option maxHeartbeats 20000000 in
set_option maxRecDepth 100000 in
theorem changes_small (x y : Option Addr) (n c m c' : Nat) (A0 : Nat → Nat) (f : Nat → Int) (w : World) (hT : Tab w) (hn : n ≤ 6) (hm : m ≤ 20) (hA : ∀ j, A0 j < 18446744073709551616) (hf : ∀ j, j < m → -9223372036854775808 ≤ f j ∧ f j ≤ 9223372036854775807)
    (hx : Rows' .u64 w x n (fun j => (A0 j : Int))) (hy : Rows' .i64 w y m f) (hcx : x = none → n = 0 ∧ c = 0) :
    Calls Tryd.prog 4 #[.slice x n c, .slice y m c'] w fun e w' => e = .returned (.bool true) ∧ Below w.heap.size w w' := by
  have HT := hidden hT
  have HA := hidden hA
  have HF := hidden hf
  have HX := hidden hx
  have HY := hidden hy
  have HCX := hidden hcx
  clear hT hA hf hx hy hcx
  go_enter Tryd.func4, Tryd.ntmps4
  go_wp2_with fail
  refine (copied_any x n c _ w (by omega) HCX.out HX.out).mono ?_
  rintro e w1 ⟨g, c1, rfl, hg, hM1, hB1⟩
  have HM1 := hidden hM1
  have HB1 := hidden hB1
  obtain ⟨B, hBd⟩ : ∃ B, B = w1.heap.size := ⟨_, rfl⟩
  have hgB : g < B := by rw [hBd]; exact hM1.lt
  clear hM1 hB1
  go_wp2_with fail
  refine (rlist_any x n c A0 w1 (by omega) HA.out (HX.out.below HB1.out)).mono ?_
  rintro e w2 ⟨v2, rfl, hL2⟩
  have HM2 := hidden (HM1.out.below hL2.below)
  have HN2 := hidden (Now.of_built (B := B) hL2 (by rw [hBd]; exact Nat.le_refl _))
  have HB2 := hidden (HB1.out.trans (hL2.below.mono HB1.out.size))
  have hs2 : B ≤ w2.heap.size := by rw [hBd]; exact hL2.below.size
  clear hL2 HM1 HB1 hBd
  go_wp2_with fail
  go_loopw [6, 7] (fun v i wr => ∃ (k : Nat) (A : Nat → Nat), k ≤ m ∧ i = .int .i64 (k : Int) ∧ Hid (∀ j, A j < 18446744073709551616) ∧ Hid (Mine .u64 48 wr g n (fun j => (A j : Int))) ∧ Hid (Now B wr v (setL n A)) ∧ Hid (Below w.heap.size w wr) ∧ B ≤ wr.heap.size)
    (fun _ i _ => m - (intOf i).toNat)
  case atStart => exact ⟨0, A0, by omega, rfl, HA, HM2, HN2, HB2, hs2⟩
  case round =>
    clear HM2 HN2 HB2 hs2
    obtain ⟨k, A, hk, rfl, hA, hM, hN, hB, hsz⟩ := hrel
    obtain ⟨an, cn, rfl, hRn, hNn⟩ := hN.out.shape
    have hle := setL_le n A
    have HRn := hidden hRn
    have HNn := hidden hNn
    clear hRn hNn
    obtain ⟨L, hL⟩ : ∃ L, L = (setL n A).length := ⟨_, rfl⟩
    rw [← hL] at HRn HNn hle
    rw [← hL] at hN
    rw [← hL]
    have HL := hidden hL
    clear hL
    by_cases hkm : k < m
    · obtain ⟨bb, off, rfl, hlt, hc⟩ := HY.out (by omega)
      have hcell : wr.cell? ⟨bb, off + k, none⟩ = some (.int .i64 (f k)) := (hB.out.cell (p := ⟨bb, off + k, none⟩) hlt).trans (hc k hkm)
      clear hc
      have hki : (k : Int) < (m : Int) := by omega
      have hfk := HF.out k hkm
      obtain ⟨x, hx⟩ : ∃ x, x = f k := ⟨_, rfl⟩
      rw [← hx] at hcell hfk
      have hx1 := hfk.1
      have hx2 := hfk.2
      have hpt := par_two x
      have HH : Hid (decide (∃ j, j < L ∧ (setL n A).getD j 0 = x) = hasB n A x) := by show _ = _; rw [← hasB_mem, HL.out]; exact decide_eq_decide.2 in_list
      clear hx hfk
      -- is x a number of the set's words?
      by_cases hin : 0 ≤ x ∧ x < 64 * (n : Int)
      · have h0 : 0 ≤ x := hin.1
        have h1 : x < 64 * (n : Int) := hin.2
        obtain ⟨i, hi⟩ : ∃ i : Nat, x = (i : Int) := ⟨x.toNat, by omega⟩
        have hil : i < 64 * n := by omega
        obtain ⟨b, hb⟩ : ∃ b, b = (A (i / 64)).testBit (i % 64) := ⟨_, rfl⟩
        have HBIT : Hid (hasB n A x = b) := by show _ = _; rw [hi, hasB_nat hil, hb]
        have HBB := hidden hb
        have HI := hidden hi
        clear hi hb hin
        have hbb : (b != b) = false := by simp
        by_cases hev : x % 2 = 0
        · have hp1 : (x % 2 == 0) = true := by simp [hev]
          rw [hp1] at hpt
          clear hev
          go_wp2_with fail
          refine (hasInt_any an L cn _ x wr (by omega) HRn.out).mono ?_
          rintro e wq ⟨rfl, hwq⟩
          rw [HH.out, HBIT.out, hwq]
          clear hwq wq
          go_wp2_with fail
          refine (has_any _ n c1 A x wr (by omega) hx2 hA.out hM.out.rows).mono ?_
          rintro e wq ⟨rfl, q1, hwq⟩
          rw [HBIT.out, hwq]
          clear hwq wq
          go_wp2_with fail
          refine (drop_anyX x i HI.out g n c1 A (wr.drewN q1) (by omega) hil hA.out hM.out).mono ?_
          rintro e w3 ⟨rfl, hM3, hb3⟩
          rw [← HBB.out]
          have HM3 := hidden hM3
          have HN3 : Hid (Now B w3 (.slice an L cn) (setL n A)) := (Now.but (w := wr.drewN q1) hN.out hb3 hgB)
          have HB3 : Hid (Below w.heap.size w w3) := hb3.below (hB.out.trans (below_drewN _ _ _)) hg
          have hs3 : B ≤ w3.heap.size := by rw [hb3.size]; exact hsz
          have HA3 : Hid (∀ j, dropW A i j < 18446744073709551616) := fun j => dropW_lt hA.out i j
          clear hM3 hb3
          have hR4 : Rows' .i64 w3 an L (fun j => (setL n A).getD j 0) := by
            obtain ⟨a9, c9, e9, h9, _⟩ := HN3.out.shape
            rw [← HL.out] at e9 h9
            injection e9 with e1 _ _
            rw [e1]; exact h9
          have HR4 := hidden hR4
          clear hR4
          go_wp2_with fail
          refine (out_any an _ L cn 1 1 _ (fun j => ([x] : List Int).getD j 0) _ (by omega) (by omega) (HR4.out.below (below_start w3 _)) (one_rows w3 _ x)).mono ?_
          rintro e w5 ⟨v5, rfl, hL5⟩
          obtain ⟨a5, c5, rfl, hR5, _, _⟩ := hL5.shape
          have HL5 := hidden hL5
          have hB5 : Below w3.heap.size w3 w5 := (below_start w3 _).trans (hL5.below.mono (by simp))
          clear hL5 hR5 HR4
          have HM2 := hidden (HM3.out.below hB5)
          have HN2 : Hid (Now B w5 (.slice a5 (keep (fun z => !isIn 1 (fun j => ([x] : List Int).getD j 0) z) (fun j => (setL n A).getD j 0) L).length c5) (setL n (dropW A i))) := by
            have hh := Now.of_built (B := B) HL5.out (by simp; omega)
            have e := turn_drop (n := n) (A := A) HI.out
            rw [← HL.out] at e
            rw [e] at hh ⊢
            exact hh
          obtain ⟨L2, hL2⟩ : ∃ L2, L2 = (setL n (dropW A i)).length := ⟨_, rfl⟩
          have hL2' : (keep (fun z => !isIn 1 (fun j => ([x] : List Int).getD j 0) z) (fun j => (setL n A).getD j 0) L).length = L2 := by
            have e := turn_drop (n := n) (A := A) HI.out
            rw [← HL.out] at e
            rw [hL2, e]
          have HB2 : Hid (Below w.heap.size w w5) := HB3.out.trans (hB5.mono HB3.out.size)
          have hsz2 : B ≤ w5.heap.size := Nat.le_trans hs3 hB5.size
          have HA2 := HA3
          have hl2 := setL_le n (dropW A i)
          rw [← hL2] at hl2
          have HL2 := hidden hL2
          rw [hL2'] at HN2
          rw [hL2']
          clear hL2 hL2' hB5 HL5 HM3 HN3 HB3 HA3
          -- the list and the count
          go_wp2_with fail
          refine (list_any _ n c1 (dropW A i) w5 (HT.out.below HB2.out) (by omega) HA2.out HM2.out.rows).mono ?_
          rintro e w7 ⟨v7, rfl, hL7⟩
          obtain ⟨a7, c7, rfl, hR7, _, _⟩ := hL7.shape
          have HM7 := hidden (HM2.out.below hL7.below)
          have HN7 := hidden (HN2.out.below hL7.below)
          have HB7 := hidden (HB2.out.trans (hL7.below.mono HB2.out.size))
          have hs7 : B ≤ w7.heap.size := Nat.le_trans hsz2 hL7.below.size
          obtain ⟨a8, c8, he8, hR8, _⟩ := HN7.out.shape
          rw [← HL2.out] at he8
          injection he8 with e1 e2 e3
          subst e1
          subst e3
          rw [← HL2.out] at hR7 hR8
          rw [← HL2.out]
          have HR7 := hidden hR7
          have HR8 := hidden hR8
          clear hL7 hR7 hR8 HM2 HN2 HB2 e2
          go_wp2_with fail
          refine (sameInts_any a7 _ L2 L2 c7 _ (fun j => (setL n (dropW A i)).getD j 0) (fun j => (setL n (dropW A i)).getD j 0) w7 (by omega) (by omega) HR7.out HR8.out).mono ?_
          rintro e wq ⟨rfl, q7, hwq⟩
          rw [allEq_true (fun j _ => rfl), decide_eq_true (rfl : L2 = L2), Bool.true_and, hwq]
          clear hwq wq HR7 HR8
          go_wp2_with fail
          refine (count_any _ n c1 (dropW A i) (w7.drewN q7) (by omega) HA2.out HM7.out.rows).mono ?_
          rintro e wq ⟨rfl, hwq⟩
          rw [hwq, ← setL_length, ← HL2.out]
          clear hwq wq
          have hne : ((L2 : Int) != (L2 : Int)) = false := by simp
          go_wp2_with fail
          go_roundw
          case rel => exact ⟨k + 1, dropW A i, by omega, by go_num, HA2, HM7.out.drewN q7, by rw [HL2.out] at HN7; rw [HL2.out]; exact HN7.out, HB7.out.trans (below_drewN _ _ _), hs7⟩
          case measure => simp [intOf]; omega
        · have hp1 : (x % 2 == 0) = false := by simp [hev]
          rw [hp1] at hpt
          clear hev
          go_wp2_with fail
          refine (hasInt_any an L cn _ x wr (by omega) HRn.out).mono ?_
          rintro e wq ⟨rfl, hwq⟩
          rw [HH.out, HBIT.out, hwq]
          clear hwq wq
          go_wp2_with fail
          refine (has_any _ n c1 A x wr (by omega) hx2 hA.out hM.out.rows).mono ?_
          rintro e wq ⟨rfl, q1, hwq⟩
          rw [HBIT.out, hwq]
          clear hwq wq
          go_wp2_with fail
          refine (put_anyX x i HI.out g n c1 A (wr.drewN q1) (by omega) hil hA.out hM.out).mono ?_
          rintro e w3 ⟨rfl, hM3, hb3⟩
          rw [← HBB.out]
          have HM3 := hidden hM3
          have HN3 : Hid (Now B w3 (.slice an L cn) (setL n A)) := (Now.but (w := wr.drewN q1) hN.out hb3 hgB)
          have HB3 : Hid (Below w.heap.size w w3) := hb3.below (hB.out.trans (below_drewN _ _ _)) hg
          have hs3 : B ≤ w3.heap.size := by rw [hb3.size]; exact hsz
          have HA3 : Hid (∀ j, putW A i j < 18446744073709551616) := fun j => putW_lt hA.out i j
          have hbn : ((!b) != (!b)) = false := by simp
          clear hM3 hb3
          have hR4 : Rows' .i64 w3 an L (fun j => (setL n A).getD j 0) := by
            obtain ⟨a9, c9, e9, h9, _⟩ := HN3.out.shape
            rw [← HL.out] at e9 h9
            injection e9 with e1 _ _
            rw [e1]; exact h9
          have HR4 := hidden hR4
          clear hR4
          go_wp2_with fail
          refine (ints_any an L cn _ w3 (by omega) HNn.out HR4.out).mono ?_
          rintro e w4 ⟨v4, rfl, hL4, hv4⟩
          have hce : cellsOf .i64 L (fun j => (setL n A).getD j 0) = setL n A := by rw [HL.out]; exact cells_all2 _
          rw [hce] at hL4
          have HL4 := hidden hL4
          clear hL4 hv4 hce HR4
          go_wp2_with (at_builtin; refine wpList_push rfl (.tmp 76) (.tmp 78) rfl w3 _ _ _ _ rfl rfl HL4.out (by rw [← HL.out]; omega) ?_; intro v5 w5 hb5)
          obtain ⟨a5, c5, rfl, hR5, _, _⟩ := hb5.shape
          have hl5 : (setL n A ++ [x]).length = L + 1 := by rw [List.length_append, HL.out]; rfl
          rw [hl5] at hR5
          rw [hl5]
          have HR5 := hidden hR5
          have HB5 := hidden hb5.below
          clear hb5 hR5 hl5 HL4
          go_wp2_with fail
          refine (sorted_any a5 (L + 1) c5 _ w5 (by omega) HR5.out).mono ?_
          rintro e w6 ⟨v6, rfl, hL6⟩
          have ep := turn_put (n := n) (A := A) HI.out hil
          rw [← HL.out] at ep
          rw [ep] at hL6
          obtain ⟨a6, c6, rfl, _, _, _⟩ := hL6.shape
          have hB6 : Below w3.heap.size w3 w6 := HB5.out.trans (hL6.below.mono HB5.out.size)
          have HM2 := hidden (HM3.out.below hB6)
          obtain ⟨L2, hL2⟩ : ∃ L2, L2 = (setL n (putW A i)).length := ⟨_, rfl⟩
          have HN2 := hidden (Now.of_built (B := B) hL6 (Nat.le_trans hs3 HB5.out.size))
          rw [← hL2] at HN2
          rw [← hL2]
          have HB2 : Hid (Below w.heap.size w w6) := HB3.out.trans (hB6.mono HB3.out.size)
          have hsz2 : B ≤ w6.heap.size := Nat.le_trans hs3 hB6.size
          have HA2 := HA3
          have hl2 := setL_le n (putW A i)
          rw [← hL2] at hl2
          have HL2 := hidden hL2
          clear hL2 hL6 hB6 HR5 HB5 HM3 HN3 HB3 HA3 ep
          -- the list and the count
          go_wp2_with fail
          refine (list_any _ n c1 (putW A i) w6 (HT.out.below HB2.out) (by omega) HA2.out HM2.out.rows).mono ?_
          rintro e w7 ⟨v7, rfl, hL7⟩
          obtain ⟨a7, c7, rfl, hR7, _, _⟩ := hL7.shape
          have HM7 := hidden (HM2.out.below hL7.below)
          have HN7 := hidden (HN2.out.below hL7.below)
          have HB7 := hidden (HB2.out.trans (hL7.below.mono HB2.out.size))
          have hs7 : B ≤ w7.heap.size := Nat.le_trans hsz2 hL7.below.size
          obtain ⟨a8, c8, he8, hR8, _⟩ := HN7.out.shape
          rw [← HL2.out] at he8
          injection he8 with e1 e2 e3
          subst e1
          subst e3
          rw [← HL2.out] at hR7 hR8
          rw [← HL2.out]
          have HR7 := hidden hR7
          have HR8 := hidden hR8
          clear hL7 hR7 hR8 HM2 HN2 HB2 e2
          go_wp2_with fail
          refine (sameInts_any a7 _ L2 L2 c7 _ (fun j => (setL n (putW A i)).getD j 0) (fun j => (setL n (putW A i)).getD j 0) w7 (by omega) (by omega) HR7.out HR8.out).mono ?_
          rintro e wq ⟨rfl, q7, hwq⟩
          rw [allEq_true (fun j _ => rfl), decide_eq_true (rfl : L2 = L2), Bool.true_and, hwq]
          clear hwq wq HR7 HR8
          go_wp2_with fail
          refine (count_any _ n c1 (putW A i) (w7.drewN q7) (by omega) HA2.out HM7.out.rows).mono ?_
          rintro e wq ⟨rfl, hwq⟩
          rw [hwq, ← setL_length, ← HL2.out]
          clear hwq wq
          have hne : ((L2 : Int) != (L2 : Int)) = false := by simp
          go_wp2_with fail
          go_roundw
          case rel => exact ⟨k + 1, putW A i, by omega, by go_num, HA2, HM7.out.drewN q7, by rw [HL2.out] at HN7; rw [HL2.out]; exact HN7.out, HB7.out.trans (below_drewN _ _ _), hs7⟩
          case measure => simp [intOf]; omega
      · have HBIT : Hid (hasB n A x = false) := by show _ = _; unfold hasB; rw [decide_eq_false hin]; rfl
        have HIN := hidden hin
        have hxx : x < 0 ∨ 64 * (n : Int) ≤ x := by omega
        clear hin
        rcases hxx with h0 | h0
        · have h1 : ¬ 0 ≤ x := by omega
          skip
          by_cases hev : x % 2 = 0
          · have hp1 : (x % 2 == 0) = true := by simp [hev]
            rw [hp1] at hpt
            clear hev
            go_wp2_with fail
            refine (hasInt_any an L cn _ x wr (by omega) HRn.out).mono ?_
            rintro e wq ⟨rfl, hwq⟩
            rw [HH.out, HBIT.out, hwq]
            clear hwq wq
            go_wp2_with fail
            refine (has_any _ n c1 A x wr (by omega) hx2 hA.out hM.out.rows).mono ?_
            rintro e wq ⟨rfl, q1, hwq⟩
            rw [HBIT.out, hwq]
            clear hwq wq
            go_wp2_with fail
            refine (drop_not _ n c1 A x (wr.drewN q1) (by omega) hx2 hA.out hM.out.rows HBIT.out).mono ?_
            rintro e w3 ⟨rfl, q2, hw3⟩
            have HM3 : Hid (Mine .u64 48 w3 g n (fun j => (A j : Int))) := by rw [hw3]; exact hM
            have HN3 : Hid (Now B w3 (.slice an L cn) (setL n A)) := by rw [hw3]; exact hN
            have HB3 : Hid (Below w.heap.size w w3) := by rw [hw3]; exact (hB.out.trans (below_drewN _ _ _)).trans (below_drewN _ _ _)
            have hs3 : B ≤ w3.heap.size := by rw [hw3]; exact hsz
            have HA3 := hA
            clear hw3
            have hR4 : Rows' .i64 w3 an L (fun j => (setL n A).getD j 0) := by
              obtain ⟨a9, c9, e9, h9, _⟩ := HN3.out.shape
              rw [← HL.out] at e9 h9
              injection e9 with e1 _ _
              rw [e1]; exact h9
            have HR4 := hidden hR4
            clear hR4
            go_wp2_with fail
            refine (out_any an _ L cn 1 1 _ (fun j => ([x] : List Int).getD j 0) _ (by omega) (by omega) (HR4.out.below (below_start w3 _)) (one_rows w3 _ x)).mono ?_
            rintro e w5 ⟨v5, rfl, hL5⟩
            obtain ⟨a5, c5, rfl, hR5, _, _⟩ := hL5.shape
            have HL5 := hidden hL5
            have hB5 : Below w3.heap.size w3 w5 := (below_start w3 _).trans (hL5.below.mono (by simp))
            clear hL5 hR5 HR4
            have HM2 := hidden (HM3.out.below hB5)
            have HN2 : Hid (Now B w5 (.slice a5 (keep (fun z => !isIn 1 (fun j => ([x] : List Int).getD j 0) z) (fun j => (setL n A).getD j 0) L).length c5) (setL n A)) := by
              have hh := Now.of_built (B := B) HL5.out (by simp; omega)
              have e := turn_none (n := n) (A := A) HIN.out
              rw [← HL.out] at e
              rw [e] at hh ⊢
              exact hh
            obtain ⟨L2, hL2⟩ : ∃ L2, L2 = (setL n A).length := ⟨_, rfl⟩
            have hL2' : (keep (fun z => !isIn 1 (fun j => ([x] : List Int).getD j 0) z) (fun j => (setL n A).getD j 0) L).length = L2 := by
              have e := turn_none (n := n) (A := A) HIN.out
              rw [← HL.out] at e
              rw [hL2, e]
            have HB2 : Hid (Below w.heap.size w w5) := HB3.out.trans (hB5.mono HB3.out.size)
            have hsz2 : B ≤ w5.heap.size := Nat.le_trans hs3 hB5.size
            have HA2 := HA3
            have hl2 := setL_le n A
            rw [← hL2] at hl2
            have HL2 := hidden hL2
            rw [hL2'] at HN2
            rw [hL2']
            clear hL2 hL2' hB5 HL5 HM3 HN3 HB3 HA3
            -- the list and the count
            go_wp2_with fail
            refine (list_any _ n c1 (A) w5 (HT.out.below HB2.out) (by omega) HA2.out HM2.out.rows).mono ?_
            rintro e w7 ⟨v7, rfl, hL7⟩
            obtain ⟨a7, c7, rfl, hR7, _, _⟩ := hL7.shape
            have HM7 := hidden (HM2.out.below hL7.below)
            have HN7 := hidden (HN2.out.below hL7.below)
            have HB7 := hidden (HB2.out.trans (hL7.below.mono HB2.out.size))
            have hs7 : B ≤ w7.heap.size := Nat.le_trans hsz2 hL7.below.size
            obtain ⟨a8, c8, he8, hR8, _⟩ := HN7.out.shape
            rw [← HL2.out] at he8
            injection he8 with e1 e2 e3
            subst e1
            subst e3
            rw [← HL2.out] at hR7 hR8
            rw [← HL2.out]
            have HR7 := hidden hR7
            have HR8 := hidden hR8
            clear hL7 hR7 hR8 HM2 HN2 HB2 e2
            go_wp2_with fail
            refine (sameInts_any a7 _ L2 L2 c7 _ (fun j => (setL n (A)).getD j 0) (fun j => (setL n (A)).getD j 0) w7 (by omega) (by omega) HR7.out HR8.out).mono ?_
            rintro e wq ⟨rfl, q7, hwq⟩
            rw [allEq_true (fun j _ => rfl), decide_eq_true (rfl : L2 = L2), Bool.true_and, hwq]
            clear hwq wq HR7 HR8
            go_wp2_with fail
            refine (count_any _ n c1 (A) (w7.drewN q7) (by omega) HA2.out HM7.out.rows).mono ?_
            rintro e wq ⟨rfl, hwq⟩
            rw [hwq, ← setL_length, ← HL2.out]
            clear hwq wq
            have hne : ((L2 : Int) != (L2 : Int)) = false := by simp
            go_wp2_with fail
            go_roundw
            case rel => exact ⟨k + 1, A, by omega, by go_num, HA2, HM7.out.drewN q7, by rw [HL2.out] at HN7; rw [HL2.out]; exact HN7.out, HB7.out.trans (below_drewN _ _ _), hs7⟩
            case measure => simp [intOf]; omega
          · have hp1 : (x % 2 == 0) = false := by simp [hev]
            rw [hp1] at hpt
            clear hev
            go_wp2_with fail
            refine (hasInt_any an L cn _ x wr (by omega) HRn.out).mono ?_
            rintro e wq ⟨rfl, hwq⟩
            rw [HH.out, HBIT.out, hwq]
            clear hwq wq
            go_wp2_with fail
            refine (has_any _ n c1 A x wr (by omega) hx2 hA.out hM.out.rows).mono ?_
            rintro e wq ⟨rfl, q1, hwq⟩
            rw [HBIT.out, hwq]
            clear hwq wq
            go_wp2_with fail
            refine (put_not _ n c1 x (wr.drewN q1) (by omega) HIN.out hx2).mono ?_
            rintro e w3 ⟨rfl, q2, hw3⟩
            have HM2 : Hid (Mine .u64 48 w3 g n (fun j => (A j : Int))) := by rw [hw3]; exact hM
            have HN2 : Hid (Now B w3 (.slice an L cn) (setL n A)) := by rw [hw3]; exact hN
            have HB2 : Hid (Below w.heap.size w w3) := by rw [hw3]; exact (hB.out.trans (below_drewN _ _ _)).trans (below_drewN _ _ _)
            have hsz2 : B ≤ w3.heap.size := by rw [hw3]; exact hsz
            have HA2 := hA
            clear hw3
            obtain ⟨L2, hL2⟩ : ∃ L2, L2 = L := ⟨_, rfl⟩
            have HL2 : Hid (L2 = (setL n A).length) := hL2.trans HL.out
            have hl2 : L2 ≤ 64 * n := by omega
            rw [← hL2] at HN2
            rw [← hL2]
            clear hL2
            -- the list and the count
            go_wp2_with fail
            refine (list_any _ n c1 (A) w3 (HT.out.below HB2.out) (by omega) HA2.out HM2.out.rows).mono ?_
            rintro e w7 ⟨v7, rfl, hL7⟩
            obtain ⟨a7, c7, rfl, hR7, _, _⟩ := hL7.shape
            have HM7 := hidden (HM2.out.below hL7.below)
            have HN7 := hidden (HN2.out.below hL7.below)
            have HB7 := hidden (HB2.out.trans (hL7.below.mono HB2.out.size))
            have hs7 : B ≤ w7.heap.size := Nat.le_trans hsz2 hL7.below.size
            obtain ⟨a8, c8, he8, hR8, _⟩ := HN7.out.shape
            rw [← HL2.out] at he8
            injection he8 with e1 e2 e3
            subst e1
            subst e3
            rw [← HL2.out] at hR7 hR8
            rw [← HL2.out]
            have HR7 := hidden hR7
            have HR8 := hidden hR8
            clear hL7 hR7 hR8 HM2 HN2 HB2 e2
            go_wp2_with fail
            refine (sameInts_any a7 _ L2 L2 c7 _ (fun j => (setL n (A)).getD j 0) (fun j => (setL n (A)).getD j 0) w7 (by omega) (by omega) HR7.out HR8.out).mono ?_
            rintro e wq ⟨rfl, q7, hwq⟩
            rw [allEq_true (fun j _ => rfl), decide_eq_true (rfl : L2 = L2), Bool.true_and, hwq]
            clear hwq wq HR7 HR8
            go_wp2_with fail
            refine (count_any _ n c1 (A) (w7.drewN q7) (by omega) HA2.out HM7.out.rows).mono ?_
            rintro e wq ⟨rfl, hwq⟩
            rw [hwq, ← setL_length, ← HL2.out]
            clear hwq wq
            have hne : ((L2 : Int) != (L2 : Int)) = false := by simp
            go_wp2_with fail
            go_roundw
            case rel => exact ⟨k + 1, A, by omega, by go_num, HA2, HM7.out.drewN q7, by rw [HL2.out] at HN7; rw [HL2.out]; exact HN7.out, HB7.out.trans (below_drewN _ _ _), hs7⟩
            case measure => simp [intOf]; omega
        · have h1 : ¬ x < 64 * (n : Int) := by omega
          have h2 : 0 ≤ x := by omega
          by_cases hev : x % 2 = 0
          · have hp1 : (x % 2 == 0) = true := by simp [hev]
            rw [hp1] at hpt
            clear hev
            go_wp2_with fail
            refine (hasInt_any an L cn _ x wr (by omega) HRn.out).mono ?_
            rintro e wq ⟨rfl, hwq⟩
            rw [HH.out, HBIT.out, hwq]
            clear hwq wq
            go_wp2_with fail
            refine (has_any _ n c1 A x wr (by omega) hx2 hA.out hM.out.rows).mono ?_
            rintro e wq ⟨rfl, q1, hwq⟩
            rw [HBIT.out, hwq]
            clear hwq wq
            go_wp2_with fail
            refine (drop_not _ n c1 A x (wr.drewN q1) (by omega) hx2 hA.out hM.out.rows HBIT.out).mono ?_
            rintro e w3 ⟨rfl, q2, hw3⟩
            have HM3 : Hid (Mine .u64 48 w3 g n (fun j => (A j : Int))) := by rw [hw3]; exact hM
            have HN3 : Hid (Now B w3 (.slice an L cn) (setL n A)) := by rw [hw3]; exact hN
            have HB3 : Hid (Below w.heap.size w w3) := by rw [hw3]; exact (hB.out.trans (below_drewN _ _ _)).trans (below_drewN _ _ _)
            have hs3 : B ≤ w3.heap.size := by rw [hw3]; exact hsz
            have HA3 := hA
            clear hw3
            have hR4 : Rows' .i64 w3 an L (fun j => (setL n A).getD j 0) := by
              obtain ⟨a9, c9, e9, h9, _⟩ := HN3.out.shape
              rw [← HL.out] at e9 h9
              injection e9 with e1 _ _
              rw [e1]; exact h9
            have HR4 := hidden hR4
            clear hR4
            go_wp2_with fail
            refine (out_any an _ L cn 1 1 _ (fun j => ([x] : List Int).getD j 0) _ (by omega) (by omega) (HR4.out.below (below_start w3 _)) (one_rows w3 _ x)).mono ?_
            rintro e w5 ⟨v5, rfl, hL5⟩
            obtain ⟨a5, c5, rfl, hR5, _, _⟩ := hL5.shape
            have HL5 := hidden hL5
            have hB5 : Below w3.heap.size w3 w5 := (below_start w3 _).trans (hL5.below.mono (by simp))
            clear hL5 hR5 HR4
            have HM2 := hidden (HM3.out.below hB5)
            have HN2 : Hid (Now B w5 (.slice a5 (keep (fun z => !isIn 1 (fun j => ([x] : List Int).getD j 0) z) (fun j => (setL n A).getD j 0) L).length c5) (setL n A)) := by
              have hh := Now.of_built (B := B) HL5.out (by simp; omega)
              have e := turn_none (n := n) (A := A) HIN.out
              rw [← HL.out] at e
              rw [e] at hh ⊢
              exact hh
            obtain ⟨L2, hL2⟩ : ∃ L2, L2 = (setL n A).length := ⟨_, rfl⟩
            have hL2' : (keep (fun z => !isIn 1 (fun j => ([x] : List Int).getD j 0) z) (fun j => (setL n A).getD j 0) L).length = L2 := by
              have e := turn_none (n := n) (A := A) HIN.out
              rw [← HL.out] at e
              rw [hL2, e]
            have HB2 : Hid (Below w.heap.size w w5) := HB3.out.trans (hB5.mono HB3.out.size)
            have hsz2 : B ≤ w5.heap.size := Nat.le_trans hs3 hB5.size
            have HA2 := HA3
            have hl2 := setL_le n A
            rw [← hL2] at hl2
            have HL2 := hidden hL2
            rw [hL2'] at HN2
            rw [hL2']
            clear hL2 hL2' hB5 HL5 HM3 HN3 HB3 HA3
            -- the list and the count
            go_wp2_with fail
            refine (list_any _ n c1 (A) w5 (HT.out.below HB2.out) (by omega) HA2.out HM2.out.rows).mono ?_
            rintro e w7 ⟨v7, rfl, hL7⟩
            obtain ⟨a7, c7, rfl, hR7, _, _⟩ := hL7.shape
            have HM7 := hidden (HM2.out.below hL7.below)
            have HN7 := hidden (HN2.out.below hL7.below)
            have HB7 := hidden (HB2.out.trans (hL7.below.mono HB2.out.size))
            have hs7 : B ≤ w7.heap.size := Nat.le_trans hsz2 hL7.below.size
            obtain ⟨a8, c8, he8, hR8, _⟩ := HN7.out.shape
            rw [← HL2.out] at he8
            injection he8 with e1 e2 e3
            subst e1
            subst e3
            rw [← HL2.out] at hR7 hR8
            rw [← HL2.out]
            have HR7 := hidden hR7
            have HR8 := hidden hR8
            clear hL7 hR7 hR8 HM2 HN2 HB2 e2
            go_wp2_with fail
            refine (sameInts_any a7 _ L2 L2 c7 _ (fun j => (setL n (A)).getD j 0) (fun j => (setL n (A)).getD j 0) w7 (by omega) (by omega) HR7.out HR8.out).mono ?_
            rintro e wq ⟨rfl, q7, hwq⟩
            rw [allEq_true (fun j _ => rfl), decide_eq_true (rfl : L2 = L2), Bool.true_and, hwq]
            clear hwq wq HR7 HR8
            go_wp2_with fail
            refine (count_any _ n c1 (A) (w7.drewN q7) (by omega) HA2.out HM7.out.rows).mono ?_
            rintro e wq ⟨rfl, hwq⟩
            rw [hwq, ← setL_length, ← HL2.out]
            clear hwq wq
            have hne : ((L2 : Int) != (L2 : Int)) = false := by simp
            go_wp2_with fail
            go_roundw
            case rel => exact ⟨k + 1, A, by omega, by go_num, HA2, HM7.out.drewN q7, by rw [HL2.out] at HN7; rw [HL2.out]; exact HN7.out, HB7.out.trans (below_drewN _ _ _), hs7⟩
            case measure => simp [intOf]; omega
          · have hp1 : (x % 2 == 0) = false := by simp [hev]
            rw [hp1] at hpt
            clear hev
            go_wp2_with fail
            refine (hasInt_any an L cn _ x wr (by omega) HRn.out).mono ?_
            rintro e wq ⟨rfl, hwq⟩
            rw [HH.out, HBIT.out, hwq]
            clear hwq wq
            go_wp2_with fail
            refine (has_any _ n c1 A x wr (by omega) hx2 hA.out hM.out.rows).mono ?_
            rintro e wq ⟨rfl, q1, hwq⟩
            rw [HBIT.out, hwq]
            clear hwq wq
            go_wp2_with fail
            refine (put_not _ n c1 x (wr.drewN q1) (by omega) HIN.out hx2).mono ?_
            rintro e w3 ⟨rfl, q2, hw3⟩
            have HM2 : Hid (Mine .u64 48 w3 g n (fun j => (A j : Int))) := by rw [hw3]; exact hM
            have HN2 : Hid (Now B w3 (.slice an L cn) (setL n A)) := by rw [hw3]; exact hN
            have HB2 : Hid (Below w.heap.size w w3) := by rw [hw3]; exact (hB.out.trans (below_drewN _ _ _)).trans (below_drewN _ _ _)
            have hsz2 : B ≤ w3.heap.size := by rw [hw3]; exact hsz
            have HA2 := hA
            clear hw3
            obtain ⟨L2, hL2⟩ : ∃ L2, L2 = L := ⟨_, rfl⟩
            have HL2 : Hid (L2 = (setL n A).length) := hL2.trans HL.out
            have hl2 : L2 ≤ 64 * n := by omega
            rw [← hL2] at HN2
            rw [← hL2]
            clear hL2
            -- the list and the count
            go_wp2_with fail
            refine (list_any _ n c1 (A) w3 (HT.out.below HB2.out) (by omega) HA2.out HM2.out.rows).mono ?_
            rintro e w7 ⟨v7, rfl, hL7⟩
            obtain ⟨a7, c7, rfl, hR7, _, _⟩ := hL7.shape
            have HM7 := hidden (HM2.out.below hL7.below)
            have HN7 := hidden (HN2.out.below hL7.below)
            have HB7 := hidden (HB2.out.trans (hL7.below.mono HB2.out.size))
            have hs7 : B ≤ w7.heap.size := Nat.le_trans hsz2 hL7.below.size
            obtain ⟨a8, c8, he8, hR8, _⟩ := HN7.out.shape
            rw [← HL2.out] at he8
            injection he8 with e1 e2 e3
            subst e1
            subst e3
            rw [← HL2.out] at hR7 hR8
            rw [← HL2.out]
            have HR7 := hidden hR7
            have HR8 := hidden hR8
            clear hL7 hR7 hR8 HM2 HN2 HB2 e2
            go_wp2_with fail
            refine (sameInts_any a7 _ L2 L2 c7 _ (fun j => (setL n (A)).getD j 0) (fun j => (setL n (A)).getD j 0) w7 (by omega) (by omega) HR7.out HR8.out).mono ?_
            rintro e wq ⟨rfl, q7, hwq⟩
            rw [allEq_true (fun j _ => rfl), decide_eq_true (rfl : L2 = L2), Bool.true_and, hwq]
            clear hwq wq HR7 HR8
            go_wp2_with fail
            refine (count_any _ n c1 (A) (w7.drewN q7) (by omega) HA2.out HM7.out.rows).mono ?_
            rintro e wq ⟨rfl, hwq⟩
            rw [hwq, ← setL_length, ← HL2.out]
            clear hwq wq
            have hne : ((L2 : Int) != (L2 : Int)) = false := by simp
            go_wp2_with fail
            go_roundw
            case rel => exact ⟨k + 1, A, by omega, by go_num, HA2, HM7.out.drewN q7, by rw [HL2.out] at HN7; rw [HL2.out]; exact HN7.out, HB7.out.trans (below_drewN _ _ _), hs7⟩
            case measure => simp [intOf]; omega
    · have : k = m := by omega
      subst this
      have hR4 := HRn.out
      have HR4 := hidden hR4
      clear hR4
      go_wp2_with fail
      refine (rwords_any n an L cn _ wr (by omega) (by omega) HR4.out).mono ?_
      rintro e w3 ⟨g3, rfl, _, hM3, hB3⟩
      have HM3 := hidden hM3
      have HMg := hidden (hM.out.below hB3)
      have HB3 := hidden (hB.out.trans (hB3.mono hB.out.size))
      clear hM3 hB3
      have HW := hidden (changes_words n A hA.out)
      rw [← HL.out] at HW
      go_wp2_with fail
      refine (words_any _ _ n n _ _ _ _ w3 (by omega) (by omega) HMg.out.rows HM3.out.rows).mono ?_
      rintro e wq ⟨rfl, q3, hwq⟩
      rw [HW.out, hwq, decide_eq_true (rfl : n = n), Bool.true_and]
      clear hwq wq
      go_wp2_with fail
      refine (works_any (w3.drewN q3) (HT.out.below (HB3.out.trans (below_drewN _ _ _)))).mono ?_
      rintro e w16 ⟨rfl, hb16⟩
      have HB16 := hidden (HB3.out.trans (((below_drewN w3 q3 _).trans hb16).mono HB3.out.size))
      clear hb16
      go_wp2_with fail
      go_ret
      exact ⟨rfl, HB16.out⟩

theorem changes_long (x y : Option Addr) (n c m c' : Nat) (w : World) (hT : Tab w) (hn : n ≤ 9223372036854775807) (hm : m ≤ 9223372036854775807) (h : 6 < n ∨ 20 < m) :
    Calls Tryd.prog 4 #[.slice x n c, .slice y m c'] w fun e w' => e = .returned (.bool true) ∧ Below w.heap.size w w' := by
  have HT := hidden hT
  clear hT
  by_cases h6 : 6 < n
  · clear h
    go_enter Tryd.func4, Tryd.ntmps4
    go_wp2_with fail
    refine (works_any _ HT.out).mono ?_
    rintro e w6 ⟨rfl, hb6⟩
    have HB6 := hidden hb6
    clear hb6
    go_wp2_with fail
    go_ret
    exact ⟨rfl, HB6.out⟩
  · have h7 : 20 < m := by omega
    clear h
    go_enter Tryd.func4, Tryd.ntmps4
    go_wp2_with fail
    refine (works_any _ HT.out).mono ?_
    rintro e w6 ⟨rfl, hb6⟩
    have HB6 := hidden hb6
    clear hb6
    go_wp2_with fail
    go_ret
    exact ⟨rfl, HB6.out⟩
theorem changes_walk (a0 : Option Addr) (len0 cap0 : Nat) (z0 : List Int) (a1 : Option Addr) (len1 cap1 : Nat) (z1 : List Int) (w : World) (hT : Tab w) (w0 : IsRow .u64 w a0 len0 cap0 z0) (w1 : IsRow .i64 w a1 len1 cap1 z1) :
    Calls Tryd.prog 4 #[.slice a0 len0 cap0, .slice a1 len1 cap1] w fun e w' => e = .returned (.bool true) ∧ Below w.heap.size w w' := by
  by_cases h : 6 < len0 ∨ 20 < len1
  · exact changes_long a0 a1 len0 cap0 len1 cap1 w hT w0.len.2 w1.len.2 h
  · exact changes_small a0 a1 len0 cap0 len1 cap1 (wordsIn z0) _ w hT (by omega) (by omega) (wordsIn_lt w0) (fun j hj => bounds_i64 (w1.fits j (Nat.lt_of_lt_of_le hj w1.len.1))) w0.words w1.rows w0.none

set_option maxRecDepth 100000 in
theorem changes_lifted (os : Os) (started : os.Started) (H : Type) (enc : TypeId × Value → H) :
    ReturnsInHanded {} Tryd.checked os 4 .any (fun w args => (Rows.bitsChangesSpec.pre enc Tryd.prog Tryd.f4 [] false w args ∧ laidMetH Tryd.prog laid1 w) ∧ sizedMet enc Tryd.prog Tryd.f4 (OpenSpec.ofChange Rows.bitsChangesSpec) false w args)
      (Rows.bitsChangesSpec.post enc Tryd.prog Tryd.f4 false true false false) := by
  refine returnsInHanded_of_change_and (C := Tryd.checked) (X := fun w _ => laidMetH Tryd.prog laid1 w) (fun _ _ _ hh h => h.of_heap hh) own started (by kernel_rfl) Tryd.func4
    (ChangeSpec.witness_shaped (enc := enc) (C := Tryd.checked) (os := os) (X := fun w _ => laidMetH Tryd.prog laid1 w) false (World.doorLaid Tryd.prog 400 os) #[.slice none 0 0, .slice none 0 0] 8 rfl (World.shaped_of_RefB (by kernel_rfl) (by kernel_rfl)) (by kernel_rfl) (by kernel_rfl) (by kernel_rfl) (door_met os _)) ?_
  intro W base args ds gs before hval0 hW _ _ hL _
  have hT := of_laid hL
  have hval : ∀ (j : Nat) t v, Tryd.f4.params[j]? = some t → args[j]? = some v → Value.okWide Tryd.prog W .any base t v := hval0
  have hW' := hW
  obtain ⟨p, q, hA0, hV, rfl, hfz, hnd⟩ := hW
  have hA : DataW.TrodAll enc Tryd.prog W 0 (fun _ => true) true Tryd.f4.params.toList args.toList ds p := hA0
  rw [Tryd.params4] at hA hval
  obtain ⟨v0, vs0, d0, ds0, p0, q0, hargs, rfl, rfl, h0, r0⟩ := trodAll_cons hA
  obtain ⟨v1, vs1, d1, ds1, p1, q1, rfl, rfl, rfl, h1, r1⟩ := trodAll_cons r0
  obtain ⟨rfl, rfl, rfl⟩ := trodAll_nil r1
  obtain rfl : args = #[v0, v1] := by cases args; simp_all
  obtain ⟨rfl, rfl⟩ := trodVars_none hV
  obtain ⟨a0, len0, cap0, rfl⟩ := okWide_slice Tryd.underlying23 (hval 0 23 v0 rfl rfl)
  have k0 := h0
  have lt0 : ∀ x ∈ p0, x.block < W.heap.size := by obtain ⟨m, hm⟩ := k0; exact DataW.trod_lt m _ _ _ hm
  obtain ⟨z0, w0⟩ : ∃ zs, IsRow .u64 W a0 len0 cap0 zs := by
    obtain ⟨fuel, hf⟩ := h0
    rcases open_ints Tryd.underlying23 Tryd.underlying48 (by kernel_rfl) hf with ⟨hcs, _⟩ | ⟨x, l, c, zs, hcs, _, hl, hm, hz, _, hcell, hwz⟩
    · simp [Value.cells] at hcs
      obtain ⟨rfl, rfl, rfl⟩ := hcs
      exact ⟨[], .inl ⟨rfl, rfl, rfl, rfl⟩⟩
    · simp [Value.cells] at hcs
      obtain ⟨rfl, rfl, rfl⟩ := hcs
      exact ⟨zs, .inr ⟨_, rfl, hl, hm, by simpa using hz, hcell, hwz⟩⟩
  obtain ⟨a1, len1, cap1, rfl⟩ := okWide_slice Tryd.underlying22 (hval 1 22 v1 rfl rfl)
  have k1 := h1
  have lt1 : ∀ x ∈ p1, x.block < W.heap.size := by obtain ⟨m, hm⟩ := k1; exact DataW.trod_lt m _ _ _ hm
  obtain ⟨z1, w1⟩ : ∃ zs, IsRow .i64 W a1 len1 cap1 zs := by
    obtain ⟨fuel, hf⟩ := h1
    rcases open_ints Tryd.underlying22 Tryd.underlying3 (by kernel_rfl) hf with ⟨hcs, _⟩ | ⟨x, l, c, zs, hcs, _, hl, hm, hz, _, hcell, hwz⟩
    · simp [Value.cells] at hcs
      obtain ⟨rfl, rfl, rfl⟩ := hcs
      exact ⟨[], .inl ⟨rfl, rfl, rfl, rfl⟩⟩
    · simp [Value.cells] at hcs
      obtain ⟨rfl, rfl, rfl⟩ := hcs
      exact ⟨zs, .inr ⟨_, rfl, hl, hm, by simpa using hz, hcell, hwz⟩⟩
  clear hA0 hval0
  refine (changes_walk a0 len0 cap0 z0 a1 len1 cap1 z1 W hT w0 w1).mono fun e W' ⟨he, bel⟩ => ?_
  subst he
  exact ⟨_, rfl, _, _, _, [], _, [], hW', trodAll_mk1 (shut_bool Tryd.underlying4 _), (trodAll_cons_mk (Below.trod laidOut (by kernel_rfl) (of_decide_eq_true (by kernel_rfl)) k0 bel lt0) (trodAll_cons_mk (Below.trod laidOut (by kernel_rfl) (of_decide_eq_true (by kernel_rfl)) k1 bel lt1) trodAll_mk0)), rfl, bel.frame _, fun h => by cases h⟩

theorem changes_over : Rows.BitsChangesSaid :=
  OpenClaim.holds_of_wide 4 Tryd.f4 rfl rfl rfl rfl rfl rfl rfl ⟨rfl, rfl, rfl, rfl, rfl⟩ rfl rfl rfl rfl rfl (by kernel_rfl) Tryd.func4 (by kernel_rfl)
    (of_decide_eq_true (by kernel_rfl)) (by unfold Func.isWrapper; first | (rw [if_pos (by decide +kernel)]; kernel_rfl) | (rw [if_neg (by decide +kernel)]; exact ⟨rfl, rfl⟩))
    (fun os started H enc _ => changes_lifted os started H enc)

/-- the statement: the card, tied to the program's text -/
theorem changes_holds : Rows.BitsChangesCardSaid :=
  Claim7.holds_tied_plain_at .later [] [.data] true Rows.bitsChangesCard.stood.harness false
    changes_over (fun _ h => by cases h) (by kernel_rfl) (fun _ h => by cases h) bitsChanges_row_tie rfl ⟨rfl, rfl⟩ (by kernel_rfl) rfl
    (fun f fn hf hfn => by
      obtain rfl : f = 4 := Option.some.inj ((show Tryd.prog.funcNamed "balustrade/balustradelaw02.BitsChanges" = some 4 by kernel_rfl).symm.trans hf) |>.symm
      obtain rfl : fn = Tryd.f4 := (Option.some.inj (Tryd.func4.symm.trans hfn)).symm
      exact ⟨by kernel_rfl, fun j t ht => by
        rw [Tryd.params4] at ht
        have hm : t ∈ [23, 22] := by simpa using Array.mem_of_getElem? ht
        have hall : ([23, 22].all fun u => !Tryd.prog.wantsStandIn u) = true := by kernel_rfl
        exact (show Tryd.prog.wantsStandIn t = false by simpa using List.all_eq_true.1 hall t hm)⟩)
    (by kernel_rfl)
#print axioms changes_holds
end Go.Proofs.YtkaaokaiealbmaaDoor
