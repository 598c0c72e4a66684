/- The walk through TreeWords. -/
import Derived.Test.YtihcepkdihmjoaaDoorTreeWorks
namespace Go.Proofs.YtihcepkdihmjoaaDoor
open Go.RowKit
set_option linter.unusedVariables false

/-- the signs as the reference lays them -/
def rsCells : Array Value := ((tSigns.drop 1).map txt).toArray
theorem rs_at : ∀ j, j < 16 → rsCells[j]? = some (txt (tSigns.getD (j + 1) []))
  | 0, _ => by kernel_rfl
  | 1, _ => by kernel_rfl
  | 2, _ => by kernel_rfl
  | 3, _ => by kernel_rfl
  | 4, _ => by kernel_rfl
  | 5, _ => by kernel_rfl
  | 6, _ => by kernel_rfl
  | 7, _ => by kernel_rfl
  | 8, _ => by kernel_rfl
  | 9, _ => by kernel_rfl
  | 10, _ => by kernel_rfl
  | 11, _ => by kernel_rfl
  | 12, _ => by kernel_rfl
  | 13, _ => by kernel_rfl
  | 14, _ => by kernel_rfl
  | 15, _ => by kernel_rfl
  | n + 16, h => by omega
set_option maxRecDepth 100000 in
theorem signs_any (w : World) :
    Calls Tryd.prog 17 #[] w fun e w' => e = .returned (.slice (some ⟨w.heap.size, 0, none⟩) 16 16) ∧ w' = w.alloc (.cells rsCells 9) := by
  go_enter Tryd.func17, Tryd.ntmps17
  go_wp2
  go_ret
  exact ⟨rfl, rfl⟩
theorem op_iff {s : List UInt8} {i : Nat} (hi : i < 16) : tSigns.getD (i + 1) [] = s ↔ opOf s = i + 1 := by
  constructor
  · intro h
    rw [← h]
    exact op_tab ⟨i + 1, by omega⟩
  · intro h
    unfold opOf at h
    split at h
    · omega
    · split at h
      · rename_i hm
        have h2 : tSigns.idxOf s < tSigns.length := List.idxOf_lt_length_of_mem hm
        have h3 : tSigns[tSigns.idxOf s] = s := List.getElem_idxOf h2
        rw [List.getD_eq_getElem?_getD, ← h, List.getElem?_eq_getElem h2]
        exact h3
      · omega
theorem opOf_le (s : List UInt8) : opOf s ≤ 16 := by
  unfold opOf
  split
  · omega
  · split
    · rename_i hm
      have h2 : tSigns.idxOf s < 17 := List.idxOf_lt_length_of_mem hm
      omega
    · omega
set_option maxRecDepth 100000 in
set_option maxHeartbeats 8000000 in
theorem words_walk (op : Int) (sg : ByteArray) (kind : Int) (w : World) (hTb : Tabs w) :
    Calls Tryd.prog 4 #[.int .i64 op, .string sg, .int .i64 kind] w fun e w' => e = .returned (.bool true) ∧ Below w.heap.size w w' := by
  have HTB := hidden hTb
  clear hTb
  obtain ⟨S, hS⟩ : ∃ S, S = sg.data.toList := ⟨_, rfl⟩
  have HSL : Hid (sg.toList = S) := by show _ = _; rw [toList_of, hS]
  have HOP := hidden (show Calls Tryd.prog 19 #[.string sg] w _ from op_any sg w HTB.out)
  have HOPA : ∀ w', Below w.heap.size w w' → Calls Tryd.prog 19 #[.string sg] w' fun e w'' => e = .returned (.int .i64 (opOf S : Int)) ∧ w'' = w' := by
    intro w' hb
    rw [hS]
    exact op_any sg w' (HTB.out.below hb)
  have HOPB := hidden HOPA
  clear hS HOP HOPA
  obtain ⟨M, hM⟩ : ∃ M, M = opOf S := ⟨_, rfl⟩
  have hMl : M ≤ 16 := by rw [hM]; exact opOf_le S
  have HM := hidden hM
  clear hM
  go_enter Tryd.func4, Tryd.ntmps4
  go_wp2_with fail
  refine (signs_any w).mono ?_
  rintro e w1 ⟨rfl, hw1⟩
  have HB1 : Hid (Below w.heap.size w w1) := by rw [hw1]; exact (Below.refl _ _).alloc (Nat.le_refl _) _
  have HH : Hid (Held w1 w.heap.size 9 rsCells) := by rw [hw1]; exact Held.new w _ _
  obtain ⟨g, hg⟩ : ∃ g, g = w.heap.size := ⟨_, rfl⟩
  rw [← hg] at HH ⊢
  clear hw1 hg
  rcases (show (op < 1) ∨ (16 < op) ∨ (1 ≤ op ∧ op ≤ 16) by omega) with ho | ho | ho
  · have HSG : Hid (sgnOf op = []) := by
      rcases (show op < 0 ∨ op = 0 by omega) with h | h
      · exact sgnOf_out (.inl h)
      · subst h; rfl
    go_wp2_with fail
    go_loop [9, 10] (fun t9 t10 => ∃ i q : Nat, i ≤ 16 ∧ t10 = .int .i64 (i : Int) ∧ t9 = .int .i64 (q : Int) ∧ q ≤ 16 ∧ Hid (q = if M ≤ i then M else 0)) (fun _ t10 => 16 - (intOf t10).toNat)
    case atStart => exact ⟨0, 0, by omega, rfl, rfl, by omega, (by show _ = _; split <;> omega)⟩
    case round =>
      obtain ⟨i, q, hi, rfl, rfl, hq, HQ⟩ := hrel
      by_cases hlt : i < 16
      · have hcI := HH.out.at_ (rs_at i hlt)
        unfold txt at hcI
        have HIF := hidden (op_iff (s := S) hlt)
        obtain ⟨D, hD⟩ : ∃ D, D = tSigns.getD (i + 1) [] := ⟨_, rfl⟩
        rw [← hD] at hcI HIF
        clear hD
        by_cases hE : D = S
        · have he' : (D == sg.toList) = true := by rw [HSL.out]; simpa using hE
          have HE : Hid (M = i + 1) := by show _ = _; rw [HM.out]; exact HIF.out.1 hE
          clear hE
          go_wp2_with fail
          go_round
          case rel => exact ⟨i + 1, i + 1, by omega, by go_num, by go_num, by omega, (by have := HE.out; show _ = _; rw [if_pos (by omega)]; omega)⟩
          case measure => simp [intOf]; omega
        · have he' : (D == sg.toList) = false := by rw [HSL.out]; simpa using hE
          have HE : Hid (M ≠ i + 1) := by show _ ≠ _; rw [HM.out]; exact fun h => hE (HIF.out.2 h)
          clear hE
          go_wp2_with fail
          go_round
          case rel => exact ⟨i + 1, q, by omega, by go_num, by go_num, by omega, (by have h1 := HE.out; have h2 := HQ.out; show _ = _; split at h2 <;> split <;> omega)⟩
          case measure => simp [intOf]; omega
      · obtain rfl : i = 16 := by omega
        have HQM : Hid (M = q) := by have h2 := HQ.out; rw [if_pos hMl] at h2; show _ = _; omega
        go_wp2_with fail
        refine (sign_any _ w1 (HTB.out.below HB1.out)).mono ?_
        rintro e w2 ⟨rfl, hw2⟩
        rw [hw2, HSG.out]; clear hw2 w2
        unfold txt
        go_wp2_with fail
        refine (HOPB.out w1 HB1.out).mono ?_
        rintro e w2 ⟨rfl, hw2⟩
        rw [hw2, ← HM.out, HQM.out]; clear hw2 w2
        go_wp2_with fail
        refine (kind_any kind w1 (HTB.out.below HB1.out)).mono ?_
        rintro e w2 ⟨rfl, hw2⟩
        rw [hw2]; clear hw2 w2
        unfold txt
        go_wp2_with fail
        refine (rkind_any kind w1).mono ?_
        rintro e w2 ⟨rfl, hb2⟩
        have HB2 : Hid (Below w.heap.size w w2) := HB1.out.trans (hb2.mono HB1.out.size)
        clear hb2
        unfold txt
        go_wp2_with fail
        refine (works_any w2 (HTB.out.below HB2.out)).mono ?_
        rintro e w3 ⟨rfl, hb3⟩
        have HB3 : Hid (Below w.heap.size w w3) := HB2.out.trans (hb3.mono HB2.out.size)
        clear hb3
        go_wp2_with fail
        go_ret
        exact ⟨rfl, HB3.out⟩
  · have HSG : Hid (sgnOf op = []) := sgnOf_out (.inr (by omega))
    have ho1 : 1 ≤ op := by omega
    go_wp2_with fail
    go_loop [9, 10] (fun t9 t10 => ∃ i q : Nat, i ≤ 16 ∧ t10 = .int .i64 (i : Int) ∧ t9 = .int .i64 (q : Int) ∧ q ≤ 16 ∧ Hid (q = if M ≤ i then M else 0)) (fun _ t10 => 16 - (intOf t10).toNat)
    case atStart => exact ⟨0, 0, by omega, rfl, rfl, by omega, (by show _ = _; split <;> omega)⟩
    case round =>
      obtain ⟨i, q, hi, rfl, rfl, hq, HQ⟩ := hrel
      by_cases hlt : i < 16
      · have hcI := HH.out.at_ (rs_at i hlt)
        unfold txt at hcI
        have HIF := hidden (op_iff (s := S) hlt)
        obtain ⟨D, hD⟩ : ∃ D, D = tSigns.getD (i + 1) [] := ⟨_, rfl⟩
        rw [← hD] at hcI HIF
        clear hD
        by_cases hE : D = S
        · have he' : (D == sg.toList) = true := by rw [HSL.out]; simpa using hE
          have HE : Hid (M = i + 1) := by show _ = _; rw [HM.out]; exact HIF.out.1 hE
          clear hE
          go_wp2_with fail
          go_round
          case rel => exact ⟨i + 1, i + 1, by omega, by go_num, by go_num, by omega, (by have := HE.out; show _ = _; rw [if_pos (by omega)]; omega)⟩
          case measure => simp [intOf]; omega
        · have he' : (D == sg.toList) = false := by rw [HSL.out]; simpa using hE
          have HE : Hid (M ≠ i + 1) := by show _ ≠ _; rw [HM.out]; exact fun h => hE (HIF.out.2 h)
          clear hE
          go_wp2_with fail
          go_round
          case rel => exact ⟨i + 1, q, by omega, by go_num, by go_num, by omega, (by have h1 := HE.out; have h2 := HQ.out; show _ = _; split at h2 <;> split <;> omega)⟩
          case measure => simp [intOf]; omega
      · obtain rfl : i = 16 := by omega
        have HQM : Hid (M = q) := by have h2 := HQ.out; rw [if_pos hMl] at h2; show _ = _; omega
        go_wp2_with fail
        refine (sign_any _ w1 (HTB.out.below HB1.out)).mono ?_
        rintro e w2 ⟨rfl, hw2⟩
        rw [hw2, HSG.out]; clear hw2 w2
        unfold txt
        go_wp2_with fail
        refine (HOPB.out w1 HB1.out).mono ?_
        rintro e w2 ⟨rfl, hw2⟩
        rw [hw2, ← HM.out, HQM.out]; clear hw2 w2
        go_wp2_with fail
        refine (kind_any kind w1 (HTB.out.below HB1.out)).mono ?_
        rintro e w2 ⟨rfl, hw2⟩
        rw [hw2]; clear hw2 w2
        unfold txt
        go_wp2_with fail
        refine (rkind_any kind w1).mono ?_
        rintro e w2 ⟨rfl, hb2⟩
        have HB2 : Hid (Below w.heap.size w w2) := HB1.out.trans (hb2.mono HB1.out.size)
        clear hb2
        unfold txt
        go_wp2_with fail
        refine (works_any w2 (HTB.out.below HB2.out)).mono ?_
        rintro e w3 ⟨rfl, hb3⟩
        have HB3 : Hid (Below w.heap.size w w3) := HB2.out.trans (hb3.mono HB2.out.size)
        clear hb3
        go_wp2_with fail
        go_ret
        exact ⟨rfl, HB3.out⟩
  · obtain ⟨k, hk⟩ : ∃ k : Nat, op = (k : Int) + 1 := ⟨(op - 1).toNat, by omega⟩
    subst hk
    have hk16 : k < 16 := by omega
    have hc := HH.out.at_ (rs_at k hk16)
    unfold txt at hc
    obtain ⟨C, hC⟩ : ∃ C, C = tSigns.getD (k + 1) [] := ⟨_, rfl⟩
    rw [← hC] at hc
    have HSG : Hid (sgnOf ((k : Int) + 1) = C) := by
      show _ = _
      rw [hC]
      exact sgnOf_in (k := k + 1) (by omega)
    clear hC
    go_wp2_with fail
    go_loop [9, 10] (fun t9 t10 => ∃ i q : Nat, i ≤ 16 ∧ t10 = .int .i64 (i : Int) ∧ t9 = .int .i64 (q : Int) ∧ q ≤ 16 ∧ Hid (q = if M ≤ i then M else 0)) (fun _ t10 => 16 - (intOf t10).toNat)
    case atStart => exact ⟨0, 0, by omega, rfl, rfl, by omega, (by show _ = _; split <;> omega)⟩
    case round =>
      obtain ⟨i, q, hi, rfl, rfl, hq, HQ⟩ := hrel
      by_cases hlt : i < 16
      · have hcI := HH.out.at_ (rs_at i hlt)
        unfold txt at hcI
        have HIF := hidden (op_iff (s := S) hlt)
        obtain ⟨D, hD⟩ : ∃ D, D = tSigns.getD (i + 1) [] := ⟨_, rfl⟩
        rw [← hD] at hcI HIF
        clear hD
        by_cases hE : D = S
        · have he' : (D == sg.toList) = true := by rw [HSL.out]; simpa using hE
          have HE : Hid (M = i + 1) := by show _ = _; rw [HM.out]; exact HIF.out.1 hE
          clear hE
          go_wp2_with fail
          go_round
          case rel => exact ⟨i + 1, i + 1, by omega, by go_num, by go_num, by omega, (by have := HE.out; show _ = _; rw [if_pos (by omega)]; omega)⟩
          case measure => simp [intOf]; omega
        · have he' : (D == sg.toList) = false := by rw [HSL.out]; simpa using hE
          have HE : Hid (M ≠ i + 1) := by show _ ≠ _; rw [HM.out]; exact fun h => hE (HIF.out.2 h)
          clear hE
          go_wp2_with fail
          go_round
          case rel => exact ⟨i + 1, q, by omega, by go_num, by go_num, by omega, (by have h1 := HE.out; have h2 := HQ.out; show _ = _; split at h2 <;> split <;> omega)⟩
          case measure => simp [intOf]; omega
      · obtain rfl : i = 16 := by omega
        have HQM : Hid (M = q) := by have h2 := HQ.out; rw [if_pos hMl] at h2; show _ = _; omega
        go_wp2_with fail
        refine (sign_any _ w1 (HTB.out.below HB1.out)).mono ?_
        rintro e w2 ⟨rfl, hw2⟩
        rw [hw2, HSG.out]; clear hw2 w2
        unfold txt
        go_wp2_with fail
        refine (HOPB.out w1 HB1.out).mono ?_
        rintro e w2 ⟨rfl, hw2⟩
        rw [hw2, ← HM.out, HQM.out]; clear hw2 w2
        go_wp2_with fail
        refine (kind_any kind w1 (HTB.out.below HB1.out)).mono ?_
        rintro e w2 ⟨rfl, hw2⟩
        rw [hw2]; clear hw2 w2
        unfold txt
        go_wp2_with fail
        refine (rkind_any kind w1).mono ?_
        rintro e w2 ⟨rfl, hb2⟩
        have HB2 : Hid (Below w.heap.size w w2) := HB1.out.trans (hb2.mono HB1.out.size)
        clear hb2
        unfold txt
        go_wp2_with fail
        refine (works_any w2 (HTB.out.below HB2.out)).mono ?_
        rintro e w3 ⟨rfl, hb3⟩
        have HB3 : Hid (Below w.heap.size w w3) := HB2.out.trans (hb3.mono HB2.out.size)
        clear hb3
        go_wp2_with fail
        go_ret
        exact ⟨rfl, HB3.out⟩
end Go.Proofs.YtihcepkdihmjoaaDoor
