/- The walks through what tells names, and through Op. -/
import Derived.Test.YtihcepkdihmjoaaDoorTreeLeaf
namespace Go.Proofs.YtihcepkdihmjoaaDoor
open Go.RowKit
set_option linter.unusedVariables false

theorem nb_none {l : List UInt8} (h : l.length = 0) : nameB l = false := by simp [nameB, h]
theorem nb_long {l : List UInt8} (h : 32 < l.length) : nameB l = false := by
  unfold nameB; rw [decide_eq_false (show ¬ l.length ≤ 32 by omega)]; simp
theorem nb_dig {l : List UInt8} (h : tDg (bt l 0) = true) : nameB l = false := by simp [nameB, h]
theorem nb_key {l : List UInt8} (h : tKey l = true) : nameB l = false := by simp [nameB, h]
theorem bt_get {l : List UInt8} {k : Nat} (hk : k < l.length) : bt l k = l[k].toNat := by
  unfold bt; rw [List.getD_eq_getElem?_getD, List.getElem?_eq_getElem hk]; rfl
theorem nb_bad {l : List UInt8} {k : Nat} (hk : k < l.length) (h1 : tLt (bt l k) = false) (h2 : tDg (bt l k) = false) : nameB l = false := by
  have : l.all (fun c => tLt c.toNat || tDg c.toNat) = false := by
    rw [List.all_eq_false]
    refine ⟨l[k], List.getElem_mem hk, ?_⟩
    rw [← bt_get hk, h1, h2]
    simp
  simp [nameB, this]
theorem nb_ok {l : List UInt8} (h0 : 0 < l.length) (h1 : l.length ≤ 32) (h2 : tDg (bt l 0) = false) (h3 : ∀ k, k < l.length → (tLt (bt l k) || tDg (bt l k)) = true) (h4 : tKey l = false) : nameB l = true := by
  have : l.all (fun c => tLt c.toNat || tDg c.toNat) = true := by
    rw [List.all_eq_true]
    intro c hc
    obtain ⟨k, hk, rfl⟩ := List.mem_iff_getElem.1 hc
    rw [← bt_get hk]
    exact h3 k hk
  simp [nameB, this, h0, h1, h2, h4]
theorem tKey_not {b : List UInt8} (h : ∀ j, j < 18 → b ≠ tKeys.getD j []) : tKey b = false := by
  unfold tKey
  rw [List.any_eq_false]
  intro k hk
  obtain ⟨j, hj, rfl⟩ := List.mem_iff_getElem.1 hk
  have hj' : j < 18 := hj
  have := h j hj'
  rw [List.getD_eq_getElem?_getD, List.getElem?_eq_getElem hj] at this
  simpa using this
theorem tKey_at {b : List UInt8} {j : Nat} (hj : j < 18) (h : b = tKeys.getD j []) : tKey b = true := by
  unfold tKey
  rw [List.any_eq_true]
  have hj' : j < tKeys.length := hj
  refine ⟨tKeys[j], List.getElem_mem hj', ?_⟩
  rw [List.getD_eq_getElem?_getD, List.getElem?_eq_getElem hj'] at h
  simpa using h
set_option maxRecDepth 100000 in
theorem key_ix : ∀ (j : Nat), j < 18 → ∀ (w : World), (Instr.index 82 (.agg keyCells) (.int .i64 (j : Int))).run Tryd.prog w = .ok (txt (tKeys.getD j [])) w
  | 0, _, w => by kernel_rfl
  | 1, _, w => by kernel_rfl
  | 2, _, w => by kernel_rfl
  | 3, _, w => by kernel_rfl
  | 4, _, w => by kernel_rfl
  | 5, _, w => by kernel_rfl
  | 6, _, w => by kernel_rfl
  | 7, _, w => by kernel_rfl
  | 8, _, w => by kernel_rfl
  | 9, _, w => by kernel_rfl
  | 10, _, w => by kernel_rfl
  | 11, _, w => by kernel_rfl
  | 12, _, w => by kernel_rfl
  | 13, _, w => by kernel_rfl
  | 14, _, w => by kernel_rfl
  | 15, _, w => by kernel_rfl
  | 16, _, w => by kernel_rfl
  | 17, _, w => by kernel_rfl
  | n + 18, h, _ => by omega
set_option maxRecDepth 100000 in
theorem sign_ix : ∀ (j : Nat), j < 17 → ∀ (w : World), (Instr.index 56 (.agg signCells) (.int .i64 (j : Int))).run Tryd.prog w = .ok (txt (tSigns.getD j [])) w
  | 0, _, w => by kernel_rfl
  | 1, _, w => by kernel_rfl
  | 2, _, w => by kernel_rfl
  | 3, _, w => by kernel_rfl
  | 4, _, w => by kernel_rfl
  | 5, _, w => by kernel_rfl
  | 6, _, w => by kernel_rfl
  | 7, _, w => by kernel_rfl
  | 8, _, w => by kernel_rfl
  | 9, _, w => by kernel_rfl
  | 10, _, w => by kernel_rfl
  | 11, _, w => by kernel_rfl
  | 12, _, w => by kernel_rfl
  | 13, _, w => by kernel_rfl
  | 14, _, w => by kernel_rfl
  | 15, _, w => by kernel_rfl
  | 16, _, w => by kernel_rfl
  | n + 17, h, _ => by omega
theorem toList_of (s : ByteArray) : s.toList = s.data.toList := ByteArray.toList_eq s
theorem toList_mk (b : List UInt8) : (⟨b.toArray⟩ : ByteArray).toList = b := by rw [ByteArray.toList_eq]
theorem string_of (s : ByteArray) : Value.string s = txt s.data.toList := by
  unfold txt; rw [Array.toArray_toList]
theorem txt_data (l : List UInt8) : (⟨l.toArray⟩ : ByteArray).data.toList = l := rfl
theorem txt_size (l : List UInt8) : (⟨l.toArray⟩ : ByteArray).size = l.length := rfl
set_option maxHeartbeats 1000000 in
theorem isName_any (s : ByteArray) (w : World) (hT : Tabs w) (hs : s.size ≤ 140737488351232) :
    Calls Tryd.prog 41 #[.string s] w fun e w' => e = .returned (.bool (nameB s.data.toList)) ∧ w' = w := by
  obtain ⟨l, hl⟩ : ∃ l, l = s.data.toList := ⟨_, rfl⟩
  have hlen : l.length = s.size := by rw [hl]; exact Array.length_toList
  have HLEN := hidden hlen
  have htl : s.toList = l := by rw [toList_of, hl]
  rw [← hl]
  have HL := hidden hl
  clear hl
  rcases Nat.eq_zero_or_pos s.size with h0 | h0
  · have hn : l = [] := List.length_eq_zero_iff.1 (by omega)
    have he : s.toList.isEmpty = true := by rw [htl, hn]; rfl
    have he2 : s.toList = [] := by rw [htl, hn]
    clear h0 hlen htl
    have HN := hidden hn
    clear hn
    go_enter Tryd.func41, Tryd.ntmps41
    go_wp2_with fail
    go_ret
    exact ⟨by rw [nb_none (by rw [HN.out]; rfl)]; rfl, rfl⟩
  have hne : l ≠ [] := by intro h; rw [h] at hlen; simp at hlen; omega
  have he : s.toList.isEmpty = false := by rw [htl, List.isEmpty_eq_false_iff]; exact hne
  have he2 : ¬ s.toList = [] := by rw [htl]; exact hne
  clear hne
  by_cases h32 : 32 < s.size
  · have HB := hidden (nb_long (l := l) (by omega))
    clear hlen htl
    go_enter Tryd.func41, Tryd.ntmps41
    go_wp2_with fail
    go_ret
    exact ⟨by rw [HB.out]; rfl, rfl⟩
  have HTL := hidden htl
  clear hlen htl
  obtain ⟨tt, fr, hg⟩ := hT.keys
  have HG := hidden hg
  clear hg hT
  have hb0 := hidden (bt_of HL.out h0)
  cases hd : tDg (bt l 0) with
  | true =>
    have HD := hidden hd
    clear hd
    go_enter Tryd.func41, Tryd.ntmps41
    go_wp2_with fail
    refine (tdigit_any s[0].toNat w).mono ?_
    rintro e w1 ⟨rfl, hw1⟩
    rw [hw1, ← hb0.out, HD.out]; clear hw1 w1
    go_wp2_with fail
    go_ret
    exact ⟨by rw [nb_dig HD.out]; rfl, rfl⟩
  | false =>
    have HD := hidden hd
    clear hd
    go_enter Tryd.func41, Tryd.ntmps41
    go_wp2_with fail
    refine (tdigit_any s[0].toNat w).mono ?_
    rintro e w1 ⟨rfl, hw1⟩
    rw [hw1, ← hb0.out, HD.out]; clear hw1 w1
    go_wp2_with fail
    go_loop [3, 20] (fun _ i => ∃ k : Nat, k ≤ s.size ∧ i = .int .i64 (k : Int) ∧ Hid (∀ j, j < k → (tLt (bt l j) || tDg (bt l j)) = true)) (fun _ i => s.size - (intOf i).toNat)
    case atStart => exact ⟨0, by omega, rfl, fun j hj => by omega⟩
    case round =>
      obtain ⟨k, hk, rfl, hK⟩ := hrel
      by_cases hlt : k < s.size
      · have hb := hidden (bt_of HL.out hlt)
        have hkl : Hid (k < l.length) := by show k < l.length; rw [HLEN.out]; exact hlt
        have hnext : ∀ {P : Prop}, (tLt (bt l k) || tDg (bt l k)) = true → ((∀ j, j < k + 1 → (tLt (bt l j) || tDg (bt l j)) = true) → P) → P := fun h f => f fun j hj => by
          rcases Nat.lt_or_ge j k with g | g
          · exact hK.out j g
          · obtain rfl : j = k := by omega
            exact h
        go_wp2_with fail
        refine (tletter_any s[k].toNat w).mono ?_
        rintro e w1 ⟨rfl, hw1⟩
        rw [hw1, ← hb.out]; clear hw1 w1
        cases hp : tLt (bt l k) with
        | true =>
          have HP := hidden hp
          clear hp
          go_wp2_with fail
          go_round
          case rel => exact ⟨k + 1, by omega, by go_num, hnext (by rw [HP.out]; rfl) id⟩
          case measure => simp [intOf]; omega
        | false =>
          have HP := hidden hp
          clear hp
          go_wp2_with fail
          refine (tdigit_any s[k].toNat w).mono ?_
          rintro e w1 ⟨rfl, hw1⟩
          rw [hw1, ← hb.out]; clear hw1 w1
          cases hp2 : tDg (bt l k) with
          | true =>
            have HP2 := hidden hp2
            clear hp2
            go_wp2_with fail
            go_round
            case rel => exact ⟨k + 1, by omega, by go_num, hnext (by rw [HP2.out]; simp) id⟩
            case measure => simp [intOf]; omega
          | false =>
            have HP2 := hidden hp2
            clear hp2
            go_wp2_with fail
            go_ret
            exact ⟨by rw [nb_bad hkl.out HP.out HP2.out]; rfl, rfl⟩
      · have hall : Hid (∀ j, j < l.length → (tLt (bt l j) || tDg (bt l j)) = true) := fun j hj => hK.out j (by rw [HLEN.out] at hj; omega)
        clear hK
        go_wp2_with (refine wpList_load_row rfl 82 _ rfl 5 rfl tt _ fr _ HG.out Tryd.underlying82 rfl (by kernel_rfl) ?_)
        go_loop [5, 37] (fun _ i => ∃ k : Nat, k ≤ 18 ∧ i = .int .i64 (k : Int) ∧ Hid (∀ j, j < k → l ≠ tKeys.getD j [])) (fun _ i => 18 - (intOf i).toNat)
        case atStart => exact ⟨0, by omega, rfl, fun j hj => by omega⟩
        case round =>
          obtain ⟨k, hk, rfl, hK⟩ := hrel
          by_cases hlt : k < 18
          · have hix := key_ix k hlt
            unfold txt at hix
            obtain ⟨c, hc⟩ : ∃ c, c = tKeys.getD k [] := ⟨_, rfl⟩
            rw [← hc] at hix
            have HC := hidden hc
            clear hc
            by_cases hE : l = c
            · have he' : (s.toList == c) = true := by rw [HTL.out]; simpa using hE
              have HE := hidden hE
              clear hE
              go_wp2_with fail
              go_ret
              exact ⟨by rw [nb_key (tKey_at hlt (HE.out.trans HC.out))]; rfl, rfl⟩
            · have he' : (s.toList == c) = false := by rw [HTL.out]; simpa using hE
              have HE := hidden hE
              clear hE
              go_wp2_with fail
              go_round
              case rel => exact ⟨k + 1, by omega, by go_num, fun j hj => by
                rcases Nat.lt_or_ge j k with g | g
                · exact hK.out j g
                · obtain rfl : j = k := by omega
                  rw [← HC.out]
                  exact HE.out⟩
              case measure => simp [intOf]; omega
          · obtain rfl : k = 18 := by omega
            go_wp2_with fail
            go_ret
            exact ⟨by rw [nb_ok (by rw [HLEN.out]; exact h0) (by rw [HLEN.out]; omega) HD.out hall.out (tKey_not hK.out)]; rfl, rfl⟩
end Go.Proofs.YtihcepkdihmjoaaDoor
