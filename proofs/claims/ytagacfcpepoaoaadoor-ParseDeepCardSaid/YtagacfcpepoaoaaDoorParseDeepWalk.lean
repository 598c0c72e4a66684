/- The walk through ParseDeep. -/
import Derived.Test.YtagacfcpepoaoaaDoorMUse
import Derived.Test.YtagacfcpepoaoaaDoorParseDeep
namespace Go.Proofs.YtagacfcpepoaoaaDoor
open Go.RowKit
set_option linter.unusedVariables false

theorem app_list {X : ByteArray} {l r : List UInt8} (h : X.data.toList = l) : (X ++ ⟨r.toArray⟩ : ByteArray).data.toList = l ++ r := by
  rw [ByteArray.data_append, Array.toList_append, h]
theorem app_two {X Y : ByteArray} {l r : List UInt8} (h : X.data.toList = l) (g : Y.data.toList = r) : (X ++ Y : ByteArray).data.toList = l ++ r := by
  rw [ByteArray.data_append, Array.toList_append, h, g]
theorem rep_last (c : UInt8) (n : Nat) : rep c (n + 1) = rep c n ++ [c] := by have := rep_snoc c n []; rw [List.append_nil] at this; exact this
/-- the parameters so far, and the comma -/
def parU : Nat → List UInt8
  | 0 => []
  | n + 1 => parT n
theorem bare_wh {l : List Nd} (h : Wh (l.map bare)) : Wh l := by
  refine ⟨bare_rt h.1, ?_⟩
  have h2 := h.2
  rw [List.length_map, nd_bare] at h2
  exact h2
set_option maxRecDepth 100000 in
set_option maxHeartbeats 8000000 in
theorem pdeep_0 (kn bn : Nat) (w : World) (hX : PTabs w) (hkn : kn < 256) (hb : bn < 256) (hK : (kn : Int) % 3 = 0) :
    Calls Tryd.prog 5 #[.int .u8 (kn : Int), .int .u8 (bn : Int)] w fun e w' => e = .returned (.bool true) ∧ Below w.heap.size w w' := by
  have HX := hidden hX
  obtain ⟨m, hm⟩ : ∃ m, m = bn % 4 := ⟨_, rfl⟩
  have hm4 : m ≤ 3 := by omega
  have hm5 : (bn : Int) % 4 = (m : Int) := by omega
  clear hX hm
  go_enter Tryd.func5, Tryd.ntmps5
  rw [veil 32, veil 33]
  go_wp2_with fail
  go_loop [5, 6, 10] (fun a b x => ∃ (i : Nat) (X Y : ByteArray), i ≤ 96 + m ∧ a = .string X ∧ b = .string Y ∧ x = .int .i64 (i : Int) ∧ X.size ≤ 12 + 6 * i ∧ Y.size ≤ i + 1 ∧ Hid (X.data.toList = tFn ++ (tInt ++ reps tIf i)) ∧ Hid (Y.data.toList = rep 125 (i + 1))) (fun _ _ x => 96 + m - (intOf x).toNat)
  case atStart => exact ⟨0, ⟨#[102, 110, 32, 102, 40, 41, 32, 105, 110, 116, 32, 123]⟩, ⟨#[125]⟩, by omega, rfl, rfl, rfl, (show 12 ≤ 12 from Nat.le_refl _), Nat.le_refl _, (show (#[102, 110, 32, 102, 40, 41, 32, 105, 110, 116, 32, 123] : Array UInt8).toList = _ from rfl), (show (#[125] : Array UInt8).toList = _ from rfl)⟩
  case round =>
    obtain ⟨i, X, Y, hi, rfl, rfl, rfl, hXs, hYs, hS, hE⟩ := hrel
    by_cases hlt : i < 96 + m
    · have hli : (i : Int) < 96 + (m : Int) := by omega
      go_wp2_with fail
      go_round
      case rel => exact ⟨i + 1, X ++ ⟨#[105, 102, 32, 97, 32, 123]⟩, Y ++ ⟨#[125]⟩, by omega, rfl, rfl, by go_num, by (rw [ByteArray.size_append]; show X.size + 6 ≤ _; omega), by (rw [ByteArray.size_append]; show Y.size + 1 ≤ _; omega), hidden ((app_list (r := tIf) hS.out).trans (by show (tFn ++ (tInt ++ reps tIf i)) ++ tIf = tFn ++ (tInt ++ (reps tIf i ++ tIf)); rw [List.append_assoc, List.append_assoc])), hidden ((app_list (r := [125]) hE.out).trans (rep_last 125 (i + 1)).symm)⟩
      case measure => simp [intOf]; omega
    · have HI : Hid (i = 96 + m) := by show i = 96 + m; omega
      have hli : ¬ (i : Int) < 96 + (m : Int) := by omega
      have HT : Hid ((X ++ Y).data.toList = ptext 0 (96 + m)) := by show _ = _; exact by rw [← HI.out]; exact (app_two hS.out hE.out).trans (by show (tFn ++ (tInt ++ reps tIf i)) ++ rep 125 (i + 1) = tFn ++ (tInt ++ (reps tIf i ++ rep 125 (i + 1))); rw [List.append_assoc, List.append_assoc])
      have hsz : (X ++ Y).size ≤ 10000 := by rw [ByteArray.size_append]; omega
      have HSZ := hidden hsz
      clear hS hE hsz
      go_wp2_with fail
      refine wp_veil ?_
      by_cases hmo : 96 + m ≤ 98
      · obtain ⟨L, ps, s', hTl, hr⟩ := ptext_yes 0 (96 + m) (by omega) (by simp; omega)
        have HC := hidden (pparse_yes (X ++ Y) w HX.out (by have := HSZ.out; omega) HT.out hTl hr)
        have HRR : Hid (Wh s'.l) := by have h1 := preads_told (T_isTk hTl) (T_len hTl).1 hr; exact ⟨h1.1, h1.2.1⟩
        have hmi : (96 : Int) + (m : Int) ≤ 98 := by omega
        clear hTl hr
        go_wp2_with fail
        refine HC.out.mono ?_
        rintro e w2 ⟨hb2, l', a, c, rfl, hN, hl', hle⟩
        have HB2 := hidden hb2
        have HRT : Hid (Wh l') := bare_wh (by rw [hl']; exact HRR.out)
        have HLE := hidden hle
        have HN2 := hidden hN
        clear hb2 hN hl' HC hle
        obtain ⟨nl, hnl⟩ : ∃ nl, nl = l'.length := ⟨_, rfl⟩
        rw [← hnl]
        have HNL := hidden hnl
        clear hnl
        go_wp2_with fail
        refine wp_veil ?_
        obtain ⟨W2, hW2⟩ : ∃ W2, W2 = w2.alloc (.cells #[.int .i64 0, .int .i64 0] 26) := ⟨_, rfl⟩
        obtain ⟨F, hF⟩ : ∃ F, F = w2.heap.size := ⟨_, rfl⟩
        have HF : Hid (Held W2 F 26 #[.int .i64 0, .int .i64 0]) := by rw [hW2, hF]; exact Held.new _ _ _
        have hbn : Below w2.heap.size w2 W2 := by rw [hW2]; exact (Below.refl _ _).alloc (Nat.le_refl _) _
        replace HB2 := hidden (below_next HB2.out hbn)
        replace HN2 := hidden (HN2.out.below hbn)
        rw [← hW2, ← hF]
        clear hW2 hF hbn
        have c0 : W2.cell? ⟨F, 0, none⟩ = some (.int .i64 0) := HF.out.at_ rfl
        have c1 : W2.cell? ⟨F, 1, none⟩ = some (.int .i64 0) := HF.out.at_ rfl
        go_wp2_with fail
        refine (rwhole_any a c nl l' W2 HNL.out HN2.out (by rw [HNL.out]; exact HLE.out)).mono ?_
        rintro e w5 ⟨b, rfl, hiff, hb5⟩
        obtain rfl : b = true := hiff.2 HRT.out
        replace HB2 := hidden (below_next HB2.out hb5)
        clear hiff hb5 c0 c1
        go_wp2_with fail
        refine (works_any w5 (HX.out.below HB2.out)).mono ?_
        rintro e w6 ⟨rfl, hb6⟩
        replace HB2 := hidden (below_next HB2.out hb6)
        clear hb6
        go_wp2_with fail
        go_ret
        exact ⟨rfl, HB2.out⟩
      · obtain ⟨L, q, hTl, hr⟩ := ptext_bad 0 (96 + m) (by simp; omega) (by omega)
        have HC := hidden (pparse_no (X ++ Y) w HX.out (by have := HSZ.out; omega) HT.out hTl hr)
        have hmi : ¬ (96 : Int) + (m : Int) ≤ 98 := by omega
        clear hTl hr
        go_wp2_with fail
        refine HC.out.mono ?_
        rintro e w2 ⟨hb2, rfl⟩
        have HB2 := hidden hb2
        clear hb2 HC
        go_wp2_with fail
        refine wp_veil ?_
        obtain ⟨W2, hW2⟩ : ∃ W2, W2 = w2.alloc (.cells #[.int .i64 ((4 : Nat) : Int), .int .i64 (q : Int)] 26) := ⟨_, rfl⟩
        obtain ⟨F, hF⟩ : ∃ F, F = w2.heap.size := ⟨_, rfl⟩
        have HF : Hid (Held W2 F 26 #[.int .i64 4, .int .i64 (q : Int)]) := by rw [hW2, hF]; exact Held.new _ _ _
        have hbn : Below w2.heap.size w2 W2 := by rw [hW2]; exact (Below.refl _ _).alloc (Nat.le_refl _) _
        replace HB2 := hidden (below_next HB2.out hbn)
        rw [← hF]
        first | rw [← hW2] | (have e4 : ((4 : Nat) : Int) = 4 := rfl; rw [e4] at hW2; rw [← hW2])
        clear hW2 hF hbn
        have c0 : W2.cell? ⟨F, 0, none⟩ = some (.int .i64 4) := HF.out.at_ rfl
        have c1 : W2.cell? ⟨F, 1, none⟩ = some (.int .i64 (q : Int)) := HF.out.at_ rfl
        go_wp2_with fail
        refine (works_any W2 (HX.out.below HB2.out)).mono ?_
        rintro e w6 ⟨rfl, hb6⟩
        replace HB2 := hidden (below_next HB2.out hb6)
        clear hb6
        go_wp2_with fail
        go_ret
        exact ⟨rfl, HB2.out⟩
set_option maxRecDepth 100000 in
set_option maxHeartbeats 8000000 in
theorem pdeep_1 (kn bn : Nat) (w : World) (hX : PTabs w) (hkn : kn < 256) (hb : bn < 256) (hK : (kn : Int) % 3 = 1) :
    Calls Tryd.prog 5 #[.int .u8 (kn : Int), .int .u8 (bn : Int)] w fun e w' => e = .returned (.bool true) ∧ Below w.heap.size w w' := by
  have HX := hidden hX
  obtain ⟨m, hm⟩ : ∃ m, m = bn % 4 := ⟨_, rfl⟩
  have hm4 : m ≤ 3 := by omega
  have hm5 : (bn : Int) % 4 = (m : Int) := by omega
  clear hX hm
  go_enter Tryd.func5, Tryd.ntmps5
  rw [veil 32, veil 33]
  go_wp2_with fail
  go_loop [5, 11] (fun a x => ∃ (i : Nat) (X : ByteArray), i ≤ 6 + m ∧ a = .string X ∧ x = .int .i64 (i : Int) ∧ X.size ≤ 5 + 6 * i ∧ Hid (X.data.toList = tFn ++ parU i)) (fun _ x => 6 + m - (intOf x).toNat)
  case atStart => exact ⟨0, ⟨#[102, 110, 32, 102, 40]⟩, by omega, rfl, rfl, (show 5 ≤ 5 from Nat.le_refl _), (show (#[102, 110, 32, 102, 40] : Array UInt8).toList = _ from rfl)⟩
  case round =>
    obtain ⟨i, X, hi, rfl, rfl, hXs, hS⟩ := hrel
    by_cases hlt : i < 6 + m
    · have hli : (i : Int) < 6 + (m : Int) := by omega
      by_cases h0 : i = 0
      · subst h0
        go_wp2_with fail
        go_round
        case rel => exact ⟨1, X ++ ⟨#[97, 32, 105, 110, 116]⟩, by omega, rfl, by go_num, by (rw [ByteArray.size_append]; show X.size + 5 ≤ _; omega), hidden ((app_list (r := tA) hS.out).trans (by show (tFn ++ []) ++ tA = tFn ++ tA; rw [List.append_nil]))⟩
        case measure => simp [intOf] <;> omega
      · have h0i : (0 : Int) < (i : Int) := by omega
        obtain ⟨j, hj⟩ : ∃ j, i = j + 1 := ⟨i - 1, by omega⟩
        have HJ := hidden hj
        clear hj h0
        go_wp2_with fail
        go_round
        case rel => exact ⟨i + 1, X ++ ⟨#[44]⟩ ++ ⟨#[97, 32, 105, 110, 116]⟩, by omega, rfl, by go_num, by (rw [ByteArray.size_append, ByteArray.size_append]; show X.size + 1 + 5 ≤ _; omega), hidden ((app_list (r := tA) (app_list (r := [44]) hS.out)).trans (by have hj := HJ.out; subst hj; show ((tFn ++ parT j) ++ [44]) ++ tA = tFn ++ parT (j + 1); rw [parT_last, List.append_assoc, List.append_assoc]; rfl))⟩
        case measure => simp [intOf]; omega
    · have HI : Hid (i = 6 + m) := by show i = 6 + m; omega
      have hli : ¬ (i : Int) < 6 + (m : Int) := by omega
      have HT : Hid ((X ++ ⟨#[41, 32, 105, 110, 116, 32, 123]⟩ ++ ⟨#[125]⟩).data.toList = ptext 1 (6 + m)) := by show _ = _; exact by rw [← HI.out]; exact (app_two (app_list (r := tInt) hS.out) (show (⟨#[125]⟩ : ByteArray).data.toList = [125] from rfl)).trans (by obtain ⟨j, hj⟩ : ∃ j, i = j + 1 := ⟨i - 1, by have := HI.out; omega⟩; subst hj; show ((tFn ++ parT j) ++ tInt) ++ [125] = tFn ++ (parT j ++ (tInt ++ [125])); rw [List.append_assoc, List.append_assoc])
      have hsz : (X ++ ⟨#[41, 32, 105, 110, 116, 32, 123]⟩ ++ ⟨#[125]⟩).size ≤ 10000 := by rw [ByteArray.size_append, ByteArray.size_append]; show X.size + 7 + 1 ≤ _; omega
      have HSZ := hidden hsz
      clear hS hsz
      go_wp2_with fail
      refine wp_veil ?_
      by_cases hmo : 6 + m ≤ 8
      · obtain ⟨L, ps, s', hTl, hr⟩ := ptext_yes 1 (6 + m) (by omega) (by simp; omega)
        have HC := hidden (pparse_yes (X ++ ⟨#[41, 32, 105, 110, 116, 32, 123]⟩ ++ ⟨#[125]⟩) w HX.out (by have := HSZ.out; omega) HT.out hTl hr)
        have HRR : Hid (Wh s'.l) := by have h1 := preads_told (T_isTk hTl) (T_len hTl).1 hr; exact ⟨h1.1, h1.2.1⟩
        have hmi : (6 : Int) + (m : Int) ≤ 8 := by omega
        clear hTl hr
        go_wp2_with fail
        refine HC.out.mono ?_
        rintro e w2 ⟨hb2, l', a, c, rfl, hN, hl', hle⟩
        have HB2 := hidden hb2
        have HRT : Hid (Wh l') := bare_wh (by rw [hl']; exact HRR.out)
        have HLE := hidden hle
        have HN2 := hidden hN
        clear hb2 hN hl' HC hle
        obtain ⟨nl, hnl⟩ : ∃ nl, nl = l'.length := ⟨_, rfl⟩
        rw [← hnl]
        have HNL := hidden hnl
        clear hnl
        go_wp2_with fail
        refine wp_veil ?_
        obtain ⟨W2, hW2⟩ : ∃ W2, W2 = w2.alloc (.cells #[.int .i64 0, .int .i64 0] 26) := ⟨_, rfl⟩
        obtain ⟨F, hF⟩ : ∃ F, F = w2.heap.size := ⟨_, rfl⟩
        have HF : Hid (Held W2 F 26 #[.int .i64 0, .int .i64 0]) := by rw [hW2, hF]; exact Held.new _ _ _
        have hbn : Below w2.heap.size w2 W2 := by rw [hW2]; exact (Below.refl _ _).alloc (Nat.le_refl _) _
        replace HB2 := hidden (below_next HB2.out hbn)
        replace HN2 := hidden (HN2.out.below hbn)
        rw [← hW2, ← hF]
        clear hW2 hF hbn
        have c0 : W2.cell? ⟨F, 0, none⟩ = some (.int .i64 0) := HF.out.at_ rfl
        have c1 : W2.cell? ⟨F, 1, none⟩ = some (.int .i64 0) := HF.out.at_ rfl
        go_wp2_with fail
        refine (rwhole_any a c nl l' W2 HNL.out HN2.out (by rw [HNL.out]; exact HLE.out)).mono ?_
        rintro e w5 ⟨b, rfl, hiff, hb5⟩
        obtain rfl : b = true := hiff.2 HRT.out
        replace HB2 := hidden (below_next HB2.out hb5)
        clear hiff hb5 c0 c1
        go_wp2_with fail
        refine (works_any w5 (HX.out.below HB2.out)).mono ?_
        rintro e w6 ⟨rfl, hb6⟩
        replace HB2 := hidden (below_next HB2.out hb6)
        clear hb6
        go_wp2_with fail
        go_ret
        exact ⟨rfl, HB2.out⟩
      · obtain ⟨L, q, hTl, hr⟩ := ptext_bad 1 (6 + m) (by simp; omega) (by omega)
        have HC := hidden (pparse_no (X ++ ⟨#[41, 32, 105, 110, 116, 32, 123]⟩ ++ ⟨#[125]⟩) w HX.out (by have := HSZ.out; omega) HT.out hTl hr)
        have hmi : ¬ (6 : Int) + (m : Int) ≤ 8 := by omega
        clear hTl hr
        go_wp2_with fail
        refine HC.out.mono ?_
        rintro e w2 ⟨hb2, rfl⟩
        have HB2 := hidden hb2
        clear hb2 HC
        go_wp2_with fail
        refine wp_veil ?_
        obtain ⟨W2, hW2⟩ : ∃ W2, W2 = w2.alloc (.cells #[.int .i64 ((3 : Nat) : Int), .int .i64 (q : Int)] 26) := ⟨_, rfl⟩
        obtain ⟨F, hF⟩ : ∃ F, F = w2.heap.size := ⟨_, rfl⟩
        have HF : Hid (Held W2 F 26 #[.int .i64 3, .int .i64 (q : Int)]) := by rw [hW2, hF]; exact Held.new _ _ _
        have hbn : Below w2.heap.size w2 W2 := by rw [hW2]; exact (Below.refl _ _).alloc (Nat.le_refl _) _
        replace HB2 := hidden (below_next HB2.out hbn)
        rw [← hF]
        first | rw [← hW2] | (have e4 : ((3 : Nat) : Int) = 3 := rfl; rw [e4] at hW2; rw [← hW2])
        clear hW2 hF hbn
        have c0 : W2.cell? ⟨F, 0, none⟩ = some (.int .i64 3) := HF.out.at_ rfl
        have c1 : W2.cell? ⟨F, 1, none⟩ = some (.int .i64 (q : Int)) := HF.out.at_ rfl
        go_wp2_with fail
        refine (works_any W2 (HX.out.below HB2.out)).mono ?_
        rintro e w6 ⟨rfl, hb6⟩
        replace HB2 := hidden (below_next HB2.out hb6)
        clear hb6
        go_wp2_with fail
        go_ret
        exact ⟨rfl, HB2.out⟩
set_option maxRecDepth 100000 in
set_option maxHeartbeats 8000000 in
theorem pdeep_2 (kn bn : Nat) (w : World) (hX : PTabs w) (hkn : kn < 256) (hb : bn < 256) (hK : (kn : Int) % 3 = 2) :
    Calls Tryd.prog 5 #[.int .u8 (kn : Int), .int .u8 (bn : Int)] w fun e w' => e = .returned (.bool true) ∧ Below w.heap.size w w' := by
  have HX := hidden hX
  obtain ⟨m, hm⟩ : ∃ m, m = bn % 4 := ⟨_, rfl⟩
  have hm4 : m ≤ 3 := by omega
  have hm5 : (bn : Int) % 4 = (m : Int) := by omega
  clear hX hm
  go_enter Tryd.func5, Tryd.ntmps5
  rw [veil 32, veil 33]
  go_wp2_with fail
  go_loop [5, 12] (fun a x => ∃ (i : Nat) (X : ByteArray), i ≤ 198 + m ∧ a = .string X ∧ x = .int .i64 (i : Int) ∧ X.size ≤ 13 * i ∧ Hid (X.data.toList = reps tFun i)) (fun _ x => 198 + m - (intOf x).toNat)
  case atStart => exact ⟨0, ⟨#[]⟩, by omega, rfl, rfl, Nat.zero_le _, (show (#[] : Array UInt8).toList = _ from rfl)⟩
  case round =>
    obtain ⟨i, X, hi, rfl, rfl, hXs, hS⟩ := hrel
    by_cases hlt : i < 198 + m
    · have hli : (i : Int) < 198 + (m : Int) := by omega
      go_wp2_with fail
      go_round
      case rel => exact ⟨i + 1, X ++ ⟨#[102, 110, 32, 102, 40, 41, 32, 105, 110, 116, 32, 123, 125]⟩, by omega, rfl, by go_num, by (rw [ByteArray.size_append]; show X.size + 13 ≤ _; omega), hidden (app_list (r := tFun) hS.out)⟩
      case measure => simp [intOf]; omega
    · have HI : Hid (i = 198 + m) := by show i = 198 + m; omega
      have hli : ¬ (i : Int) < 198 + (m : Int) := by omega
      have HT : Hid ((X ++ ⟨#[]⟩).data.toList = ptext 2 (198 + m)) := by show _ = _; exact by rw [← HI.out]; exact (app_two hS.out (show (⟨#[]⟩ : ByteArray).data.toList = [] from rfl)).trans (List.append_nil _)
      have hsz : (X ++ ⟨#[]⟩).size ≤ 10000 := by rw [ByteArray.size_append]; show X.size + 0 ≤ _; omega
      have HSZ := hidden hsz
      clear hS hsz
      go_wp2_with fail
      refine wp_veil ?_
      by_cases hmo : 198 + m ≤ 200
      · obtain ⟨L, ps, s', hTl, hr⟩ := ptext_yes 2 (198 + m) (by omega) (by simp; omega)
        have HC := hidden (pparse_yes (X ++ ⟨#[]⟩) w HX.out (by have := HSZ.out; omega) HT.out hTl hr)
        have HRR : Hid (Wh s'.l) := by have h1 := preads_told (T_isTk hTl) (T_len hTl).1 hr; exact ⟨h1.1, h1.2.1⟩
        have hmi : (198 : Int) + (m : Int) ≤ 200 := by omega
        clear hTl hr
        go_wp2_with fail
        refine HC.out.mono ?_
        rintro e w2 ⟨hb2, l', a, c, rfl, hN, hl', hle⟩
        have HB2 := hidden hb2
        have HRT : Hid (Wh l') := bare_wh (by rw [hl']; exact HRR.out)
        have HLE := hidden hle
        have HN2 := hidden hN
        clear hb2 hN hl' HC hle
        obtain ⟨nl, hnl⟩ : ∃ nl, nl = l'.length := ⟨_, rfl⟩
        rw [← hnl]
        have HNL := hidden hnl
        clear hnl
        go_wp2_with fail
        refine wp_veil ?_
        obtain ⟨W2, hW2⟩ : ∃ W2, W2 = w2.alloc (.cells #[.int .i64 0, .int .i64 0] 26) := ⟨_, rfl⟩
        obtain ⟨F, hF⟩ : ∃ F, F = w2.heap.size := ⟨_, rfl⟩
        have HF : Hid (Held W2 F 26 #[.int .i64 0, .int .i64 0]) := by rw [hW2, hF]; exact Held.new _ _ _
        have hbn : Below w2.heap.size w2 W2 := by rw [hW2]; exact (Below.refl _ _).alloc (Nat.le_refl _) _
        replace HB2 := hidden (below_next HB2.out hbn)
        replace HN2 := hidden (HN2.out.below hbn)
        rw [← hW2, ← hF]
        clear hW2 hF hbn
        have c0 : W2.cell? ⟨F, 0, none⟩ = some (.int .i64 0) := HF.out.at_ rfl
        have c1 : W2.cell? ⟨F, 1, none⟩ = some (.int .i64 0) := HF.out.at_ rfl
        go_wp2_with fail
        refine (rwhole_any a c nl l' W2 HNL.out HN2.out (by rw [HNL.out]; exact HLE.out)).mono ?_
        rintro e w5 ⟨b, rfl, hiff, hb5⟩
        obtain rfl : b = true := hiff.2 HRT.out
        replace HB2 := hidden (below_next HB2.out hb5)
        clear hiff hb5 c0 c1
        go_wp2_with fail
        refine (works_any w5 (HX.out.below HB2.out)).mono ?_
        rintro e w6 ⟨rfl, hb6⟩
        replace HB2 := hidden (below_next HB2.out hb6)
        clear hb6
        go_wp2_with fail
        go_ret
        exact ⟨rfl, HB2.out⟩
      · obtain ⟨L, q, hTl, hr⟩ := ptext_bad 2 (198 + m) (by simp; omega) (by omega)
        have HC := hidden (pparse_no (X ++ ⟨#[]⟩) w HX.out (by have := HSZ.out; omega) HT.out hTl hr)
        have hmi : ¬ (198 : Int) + (m : Int) ≤ 200 := by omega
        clear hTl hr
        go_wp2_with fail
        refine HC.out.mono ?_
        rintro e w2 ⟨hb2, rfl⟩
        have HB2 := hidden hb2
        clear hb2 HC
        go_wp2_with fail
        refine wp_veil ?_
        obtain ⟨W2, hW2⟩ : ∃ W2, W2 = w2.alloc (.cells #[.int .i64 ((3 : Nat) : Int), .int .i64 (q : Int)] 26) := ⟨_, rfl⟩
        obtain ⟨F, hF⟩ : ∃ F, F = w2.heap.size := ⟨_, rfl⟩
        have HF : Hid (Held W2 F 26 #[.int .i64 3, .int .i64 (q : Int)]) := by rw [hW2, hF]; exact Held.new _ _ _
        have hbn : Below w2.heap.size w2 W2 := by rw [hW2]; exact (Below.refl _ _).alloc (Nat.le_refl _) _
        replace HB2 := hidden (below_next HB2.out hbn)
        rw [← hF]
        first | rw [← hW2] | (have e4 : ((3 : Nat) : Int) = 3 := rfl; rw [e4] at hW2; rw [← hW2])
        clear hW2 hF hbn
        have c0 : W2.cell? ⟨F, 0, none⟩ = some (.int .i64 3) := HF.out.at_ rfl
        have c1 : W2.cell? ⟨F, 1, none⟩ = some (.int .i64 (q : Int)) := HF.out.at_ rfl
        go_wp2_with fail
        refine (works_any W2 (HX.out.below HB2.out)).mono ?_
        rintro e w6 ⟨rfl, hb6⟩
        replace HB2 := hidden (below_next HB2.out hb6)
        clear hb6
        go_wp2_with fail
        go_ret
        exact ⟨rfl, HB2.out⟩
theorem pdeep_any (kn bn : Nat) (w : World) (hX : PTabs w) (hkn : kn < 256) (hb : bn < 256) :
    Calls Tryd.prog 5 #[.int .u8 (kn : Int), .int .u8 (bn : Int)] w fun e w' => e = .returned (.bool true) ∧ Below w.heap.size w w' := by
  have h3 : (kn : Int) % 3 = 0 ∨ (kn : Int) % 3 = 1 ∨ (kn : Int) % 3 = 2 := by omega
  rcases h3 with h | h | h
  · exact pdeep_0 kn bn w hX hkn hb h
  · exact pdeep_1 kn bn w hX hkn hb h
  · exact pdeep_2 kn bn w hX hkn hb h
end Go.Proofs.YtagacfcpepoaoaaDoor
