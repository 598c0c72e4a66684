/- The chapter's example, and works. -/
import Derived.Test.YtihcepkdihmjoaaDoorTreeText2
import Derived.Test.YtihcepkdihmjoaaDoorTreeRefRight
namespace Go.Proofs.YtihcepkdihmjoaaDoor
open Go.RowKit
set_option linter.unusedVariables false

/-- x, 1 and x + 1 -/
def exL (kb : Nat) : List Nd := [⟨4, none, 0, [], 0, ⟨#[120]⟩, 0⟩, ⟨1, none, 0, [], 1, ⟨#[]⟩, 0⟩, ⟨5, some ⟨kb, 0, none⟩, 2, [0, 1], 9, ⟨#[]⟩, 0⟩]
theorem ex_ahead (kb : Nat) : Ahead (exL kb) := by
  intro i hi k hk
  match i, hi with
  | 0, _ => exact absurd hk (by show k ∉ []; simp)
  | 1, _ => exact absurd hk (by show k ∉ []; simp)
  | 2, _ =>
    have hk' : k ∈ [(0 : Int), 1] := hk
    simp at hk'
    omega
theorem ex_ist (kb : Nat) : IsT (exL kb) := by
  have e : allK (exL kb) (exL kb).length = [0, 1] := rfl
  refine ⟨by show 0 < 3; omega, ex_ahead kb, ?_, ?_⟩
  · rw [e]; decide
  · rw [e]; rfl
theorem ex_fits (kb : Nat) : Fits (exL kb) := by
  intro i hi
  match i, hi with
  | 0, _ => show fitB (exL kb) (nd (exL kb) 0) = true; kernel_rfl
  | 1, _ => show fitB (exL kb) (nd (exL kb) 1) = true; kernel_rfl
  | 2, _ => show fitB (exL kb) (nd (exL kb) 2) = true; kernel_rfl
theorem ex_hgt (kb : Nat) : hgt (exL kb) 0 = 1 ∧ hgt (exL kb) 1 = 1 ∧ hgt (exL kb) 2 = 2 := ⟨by kernel_rfl, by kernel_rfl, by kernel_rfl⟩
theorem ex_rt (kb : Nat) : Rt (exL kb) := ⟨ex_ist kb, ex_fits kb, by show hgt (exL kb) 2 ≤ 200; rw [(ex_hgt kb).2.2]; omega⟩
theorem itoa_one : Lib.itoa 1 = [49] := by
  unfold Lib.itoa
  rw [if_neg (by omega)]
  exact Lib.decDigits_one (by decide)
theorem ex_tx (kb : Nat) : tx (exL kb) 2 = [40, 43, 32, 120, 32, 49, 41] := by
  have h0 : tx (exL kb) 0 = [120] := by rw [tx_eq (ex_ahead kb) (by show 0 < 3; omega)]; kernel_rfl
  have h1 : tx (exL kb) 1 = [49] := by
    rw [tx_eq (ex_ahead kb) (by show 1 < 3; omega)]
    show txf ⟨1, none, 0, [], 1, ⟨#[]⟩, 0⟩ _ = _
    unfold txf
    rw [if_pos (by show (1 : Int) ≤ 4; omega), hd_three]
    unfold three wordOf
    simp only [if_true]
    rw [itoa_one]
    kernel_rfl
  rw [tx_eq (ex_ahead kb) (by show 2 < 3; omega)]
  show txf ⟨5, some ⟨kb, 0, none⟩, 2, [0, 1], 9, ⟨#[]⟩, 0⟩ [tx (exL kb) 0, tx (exL kb) 1] = _
  rw [h0, h1]
  kernel_rfl
theorem ex_op : opOf [42, 37] = 16 := by decide +kernel
set_option maxRecDepth 100000 in
set_option maxHeartbeats 8000000 in
theorem works_any (w : World) (hTb : Tabs w) :
    Calls Tryd.prog 8 #[] w fun e w' => e = .returned (.bool true) ∧ Below w.heap.size w w' := by
  have HTB := hidden hTb
  clear hTb
  go_enter Tryd.func8, Tryd.ntmps8
  rw [veil 2]
  go_wp2_with fail
  obtain ⟨B, hB⟩ : ∃ B, B = w.heap.size := ⟨_, rfl⟩
  rw [← hB]
  obtain ⟨w1, hw1⟩ : ∃ w1, w1 = (w.alloc (.cells #[.int .i64 0, .int .i64 1] 3)).alloc (.cells #[.int .i64 4, .slice none 0 0, .int .i64 0, .string ⟨#[120]⟩, .int .i64 0, .int .i64 1, .slice none 0 0, .int .i64 1, .string ⟨#[]⟩, .int .i64 0, .int .i64 5, .slice (some ⟨B, 0, none⟩) 2 2, .int .i64 9, .string ⟨#[]⟩, .int .i64 0] 36) := ⟨_, rfl⟩
  rw [← hw1]
  have HB1 : Hid (Below w.heap.size w w1) := by rw [hw1]; exact ((Below.refl _ _).alloc (Nat.le_refl _) _).alloc (by simp) _
  have HH0 : Hid (Held w1 B 3 #[.int .i64 0, .int .i64 1]) := by rw [hw1, hB]; exact (Held.new w _ _).alloc _
  have HH1 : Hid (Held w1 (B + 1) 36 #[.int .i64 4, .slice none 0 0, .int .i64 0, .string ⟨#[120]⟩, .int .i64 0, .int .i64 1, .slice none 0 0, .int .i64 1, .string ⟨#[]⟩, .int .i64 0, .int .i64 5, .slice (some ⟨B, 0, none⟩) 2 2, .int .i64 9, .string ⟨#[]⟩, .int .i64 0]) := by
    have h := Held.new (w.alloc (.cells #[.int .i64 0, .int .i64 1] 3)) 36 #[.int .i64 4, .slice none 0 0, .int .i64 0, .string ⟨#[120]⟩, .int .i64 0, .int .i64 1, .slice none 0 0, .int .i64 1, .string ⟨#[]⟩, .int .i64 0, .int .i64 5, .slice (some ⟨B, 0, none⟩) 2 2, .int .i64 9, .string ⟨#[]⟩, .int .i64 0]
    have e : (w.alloc (.cells #[.int .i64 0, .int .i64 1] 3)).heap.size = B + 1 := by rw [hB]; simp
    rw [e] at h
    rw [hw1]
    exact h
  have HN : Hid (Nodes w1 (some ⟨B + 1, 0, none⟩) (exL B)) := by
    refine ⟨fun _ => ⟨B + 1, 0, rfl, HH1.out.lt, fun j hj => ?_⟩, fun j hj => ?_⟩
    · match j, hj with
      | 0, _ => exact ⟨HH1.out.at_ rfl, HH1.out.at_ rfl, HH1.out.at_ rfl, HH1.out.at_ rfl, HH1.out.at_ rfl⟩
      | 1, _ => exact ⟨HH1.out.at_ rfl, HH1.out.at_ rfl, HH1.out.at_ rfl, HH1.out.at_ rfl, HH1.out.at_ rfl⟩
      | 2, _ => exact ⟨HH1.out.at_ rfl, HH1.out.at_ rfl, HH1.out.at_ rfl, HH1.out.at_ rfl, HH1.out.at_ rfl⟩
    · match j, hj with
      | 0, _ => exact ⟨fun h => absurd h (by show ¬ 0 < 0; omega), by show 0 ≤ 0; omega, fun _ => rfl, by show 0 ≤ _; omega, by show _ ≤ (0 : Int); omega, by show (0 : Int) ≤ _; omega, by show 1 ≤ _; omega⟩
      | 1, _ => exact ⟨fun h => absurd h (by show ¬ 0 < 0; omega), by show 0 ≤ 0; omega, fun _ => rfl, by show 0 ≤ _; omega, by show _ ≤ (1 : Int); omega, by show (1 : Int) ≤ _; omega, by show 0 ≤ _; omega⟩
      | 2, _ =>
        refine ⟨fun _ => ⟨B, 0, rfl, HH0.out.lt, fun k hk => ?_⟩, by show 2 ≤ 2; omega, (fun h => by cases h), by show 2 ≤ _; omega, by show _ ≤ (9 : Int); omega, by show (9 : Int) ≤ _; omega, by show 0 ≤ _; omega⟩
        match k, hk with
        | 0, _ => exact HH0.out.at_ rfl
        | 1, _ => exact HH0.out.at_ rfl
  have HT1 := hidden (HTB.out.below HB1.out)
  clear hB hw1 HH0 HH1
  have hr : Calls Tryd.prog 11 #[.slice (some ⟨B + 1, 0, none⟩) 3 3] w1 (Tells (Rt (exL B)) w1) := right_any (some ⟨B + 1, 0, none⟩) 3 (exL B) w1 HT1.out HN.out (by show 3 ≤ _; omega)
  have HRR := hidden hr
  clear hr
  refine wp_veil ?_
  go_wp2_with fail
  refine HRR.out.mono ?_
  rintro e w2 ⟨b, rfl, hiff, hb2⟩
  obtain rfl : b = true := hiff.2 (ex_rt B)
  have HN2 := hidden (HN.out.below hb2)
  have HT2 := hidden (HT1.out.below hb2)
  have HB2 : Hid (Below w.heap.size w w2) := HB1.out.trans (hb2.mono HB1.out.size)
  have htx := text_any (some ⟨B + 1, 0, none⟩) 3 3 (exL B) w2 rfl HT2.out HN2.out (by omega)
  have HTX := hidden htx
  clear hiff hb2 htx
  go_wp2_with fail
  refine HTX.out.mono ?_
  rintro e w3 ⟨hb3, hcase⟩
  have HN3 := hidden (HN2.out.below hb3)
  have HT3 := hidden (HT2.out.below hb3)
  have HB3 : Hid (Below w.heap.size w w3) := HB2.out.trans (hb3.mono HB2.out.size)
  have he : e = .returned (.string ⟨#[40, 43, 32, 120, 32, 49, 41]⟩) := by
    rcases hcase with ⟨_, h⟩ | ⟨h, _⟩
    · rw [h]
      show Ending.returned (txt (tx (exL B) 2)) = _
      rw [ex_tx]
      rfl
    · exact absurd (ex_rt B) h
  subst he
  have hwh := whole_any (some ⟨B + 1, 0, none⟩) 3 3 (exL B) w3 rfl HT3.out HN3.out (by omega)
  have HWH := hidden hwh
  clear hcase hb3 hwh
  go_wp2_with fail
  refine HWH.out.mono ?_
  rintro e w4 ⟨b, rfl, hiff, hb4⟩
  have hbf : b = false := by
    cases b with
    | false => rfl
    | true => exact absurd (hiff.1 rfl).2 (by show ¬ (5 : Int) = 26; omega)
  subst hbf
  have HN4 := hidden (HN3.out.below hb4)
  have HT4 := hidden (HT3.out.below hb4)
  have HB4 : Hid (Below w.heap.size w w4) := HB3.out.trans (hb4.mono HB3.out.size)
  have hhe : Calls Tryd.prog 9 #[.slice (some ⟨B + 1, 0, none⟩) 3 3] w4 (Measured (exL B) (Rt (exL B)) w4) := heights_any (some ⟨B + 1, 0, none⟩) 3 (exL B) w4 HT4.out HN4.out (by show 3 ≤ _; omega)
  have HHE := hidden hhe
  clear hiff hb4 hhe
  go_wp2_with fail
  refine HHE.out.mono ?_
  rintro e w5 ⟨hb5, hcase⟩
  have HB5 : Hid (Below w.heap.size w w5) := HB4.out.trans (hb5.mono HB4.out.size)
  have HT5 := hidden (HT4.out.below hb5)
  rcases hcase with ⟨_, g, he, hrows⟩ | ⟨h, _⟩
  · have he' : e = .returned (.slice (some ⟨g, 0, none⟩) 3 3) := he
    subst he'
    have hr5 : Rows' .i64 w5 (some ⟨g, 0, none⟩) 3 (fun j => ([1, 1, 2] : List Int).getD j 0) := by
      have h1 : Rows' .i64 w5 (some ⟨g, 0, none⟩) 3 (fun j => (hgt (exL B) j : Int)) := hrows
      refine h1.congr fun j hj => ?_
      obtain ⟨e0, e1, e2⟩ := ex_hgt B
      match j, hj with
      | 0, _ => rw [e0]; rfl
      | 1, _ => rw [e1]; rfl
      | 2, _ => rw [e2]; rfl
    have HR5 := hidden hr5
    have HLT5 : Hid (w.heap.size ≤ w5.heap.size) := HB5.out.size
    clear he hrows hr5 hb5
    go_wp2_with fail
    have HX6 : Hid (Below w5.heap.size w5 (w5.alloc (.cells #[.int .i64 1, .int .i64 1, .int .i64 2] 3))) := (Below.refl _ _).alloc (Nat.le_refl _) _
    have hsame := sameInts_list (some ⟨g, 0, none⟩) (some ⟨w5.heap.size, 0, none⟩) 3 3 3 3 [1, 1, 2] [1, 1, 2] (w5.alloc (.cells #[.int .i64 1, .int .i64 1, .int .i64 2] 3)) rfl rfl (by omega) (by omega) (HR5.out.below HX6.out) (fun _ => ⟨_, 0, rfl, by simp, fun j hj => by
      rw [Nat.zero_add]
      match j, hj with
      | 0, _ => exact (Held.new w5 _ _).at_ rfl
      | 1, _ => exact (Held.new w5 _ _).at_ rfl
      | 2, _ => exact (Held.new w5 _ _).at_ rfl⟩)
    have HSM := hidden hsame
    clear hsame
    refine HSM.out.mono ?_
    rintro e w6 ⟨he, q, hw6⟩
    have he' : e = .returned (.bool true) := by rw [he]; rfl
    subst he'
    have HB6 : Hid (Below w.heap.size w w6) := by
      rw [hw6]
      exact (HB5.out.trans (HX6.out.mono HLT5.out)).trans (below_drewN _ _ _)
    have HT6 : Hid (Tabs w6) := HTB.out.below HB6.out
    clear he hw6
    go_wp2_with fail
    refine (op_any ⟨#[42, 37]⟩ w6 HT6.out).mono ?_
    rintro e w7 ⟨he, hw7⟩
    have he' : e = .returned (.int .i64 16) := by rw [he]; show Ending.returned (.int .i64 ((opOf [42, 37] : Nat) : Int)) = _; rw [ex_op]; rfl
    subst he'
    rw [hw7]; clear hw7 w7 he
    go_wp2_with fail
    go_ret
    exact ⟨rfl, HB6.out⟩
  · exact absurd (ex_rt B) h
end Go.Proofs.YtihcepkdihmjoaaDoor
