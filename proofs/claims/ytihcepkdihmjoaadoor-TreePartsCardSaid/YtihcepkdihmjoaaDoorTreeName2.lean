/- The walks through the reference's names, and through Op. -/
import Derived.Test.YtihcepkdihmjoaaDoorTreeName
namespace Go.Proofs.YtihcepkdihmjoaaDoor
open Go.RowKit
set_option linter.unusedVariables false

/-- the words as the reference lays them -/
def wordCells : Array Value := (tKeys.map txt).toArray
theorem words_at {j : Nat} (hj : j < 18) : wordCells[j]? = some (txt (tKeys.getD j [])) := by
  unfold wordCells
  have hj' : j < tKeys.length := hj
  rw [List.getElem?_toArray, List.getElem?_map, List.getElem?_eq_getElem hj', List.getD_eq_getElem?_getD, List.getElem?_eq_getElem hj']
  rfl
set_option maxRecDepth 100000 in
theorem words_any (w : World) :
    Calls Tryd.prog 64 #[] w fun e w' => e = .returned (.slice (some ⟨w.heap.size, 0, none⟩) 18 18) ∧ w' = w.alloc (.cells wordCells 9) := by
  go_enter Tryd.func64, Tryd.ntmps64
  go_wp2
  go_ret
  exact ⟨rfl, rfl⟩
theorem rword_any (s : ByteArray) (w : World) :
    Calls Tryd.prog 58 #[.string s] w fun e w' => e = .returned (.bool (tKey s.data.toList)) ∧ Below w.heap.size w w' := by
  obtain ⟨l, hl⟩ : ∃ l, l = s.data.toList := ⟨_, rfl⟩
  have HTL : Hid (s.toList = l) := by show s.toList = l; rw [toList_of, hl]
  rw [← hl]
  clear hl
  go_enter Tryd.func58, Tryd.ntmps58
  go_wp2_with fail
  refine (words_any w).mono ?_
  rintro e w1 ⟨rfl, hw1⟩
  have HB : Hid (Below w.heap.size w w1) := by rw [hw1]; exact (Below.refl _ _).alloc (Nat.le_refl _) _
  have HH : Hid (Held w1 w.heap.size 9 wordCells) := by rw [hw1]; exact Held.new w 9 wordCells
  obtain ⟨g, hg⟩ : ∃ g, g = w.heap.size := ⟨_, rfl⟩
  rw [← hg] at HH ⊢
  clear hg hw1
  go_wp2_with fail
  go_loop [4] (fun i => ∃ k : Nat, k ≤ 18 ∧ i = .int .i64 (k : Int) ∧ Hid (∀ j, j < k → l ≠ tKeys.getD j [])) (fun i => 18 - (intOf i).toNat)
  case atStart => exact ⟨0, by omega, rfl, fun j hj => by omega⟩
  case round =>
    obtain ⟨k, hk, rfl, hK⟩ := hrel
    by_cases hlt : k < 18
    · have hc := HH.out.at_ (words_at hlt)
      unfold txt at hc
      obtain ⟨c, hcc⟩ : ∃ c, c = tKeys.getD k [] := ⟨_, rfl⟩
      rw [← hcc] at hc
      have HC := hidden hcc
      clear hcc
      by_cases hE : l = c
      · have he' : (c == s.toList) = true := by rw [HTL.out]; simpa using hE.symm
        have HE := hidden hE
        clear hE
        go_wp2_with fail
        go_ret
        exact ⟨by rw [tKey_at hlt (HE.out.trans HC.out)]; rfl, HB.out⟩
      · have he' : (c == s.toList) = false := by rw [HTL.out]; simpa using fun h : c = l => hE h.symm
        have HE := hidden hE
        clear hE
        go_wp2_with fail
        go_round
        case rel => exact ⟨k + 1, by omega, by go_num, fun j hj => by
          rcases Nat.lt_or_ge j k with g | g
          · exact hK.out j g
          · obtain rfl : j = k := by omega
            rw [← HC.out]
            exact HE.out⟩
        case measure => simp [intOf]; omega
    · obtain rfl : k = 18 := by omega
      go_wp2_with fail
      go_ret
      exact ⟨by rw [tKey_not hK.out]; rfl, HB.out⟩
theorem rname_any (s : ByteArray) (w : World) (hs : s.size ≤ 140737488351232) :
    Calls Tryd.prog 46 #[.string s] w fun e w' => e = .returned (.bool (nameB s.data.toList)) ∧ Below w.heap.size w w' := by
  obtain ⟨l, hl⟩ : ∃ l, l = s.data.toList := ⟨_, rfl⟩
  have HLEN : Hid (l.length = s.size) := by show l.length = s.size; rw [hl]; exact Array.length_toList
  rw [← hl]
  have HL := hidden hl
  clear hl
  go_enter Tryd.func46, Tryd.ntmps46
  go_wp2_with fail
  go_loop [3] (fun i => ∃ k : Nat, k ≤ s.size ∧ i = .int .i64 (k : Int) ∧ Hid (0 < k → tDg (bt l 0) = false) ∧ Hid (∀ j, j < k → (tLt (bt l j) || tDg (bt l j)) = true)) (fun i => s.size - (intOf i).toNat)
  case atStart => exact ⟨0, by omega, rfl, (fun h => by omega : (0 < 0 → tDg (bt l 0) = false)), fun j hj => by omega⟩
  case round =>
    obtain ⟨k, hk, rfl, hD, hK⟩ := hrel
    by_cases hlt : k < s.size
    · have hb := hidden (bt_of HL.out hlt)
      have hkl : Hid (k < l.length) := by show k < l.length; rw [HLEN.out]; exact hlt
      have hnext : ∀ {P : Prop}, (tLt (bt l k) || tDg (bt l k)) = true → ((∀ j, j < k + 1 → (tLt (bt l j) || tDg (bt l j)) = true) → P) → P := fun h f => f fun j hj => by
        rcases Nat.lt_or_ge j k with g | g
        · exact hK.out j g
        · obtain rfl : j = k := by omega
          exact h
      go_wp2_with fail
      refine (rletter_any s[k].toNat w).mono ?_
      rintro e w1 ⟨rfl, hw1⟩
      rw [hw1, ← hb.out]; clear hw1 w1
      cases hp : tLt (bt l k) with
      | true =>
        have HP := hidden hp
        clear hp
        go_wp2_with fail
        go_round
        case rel => exact ⟨k + 1, by omega, by go_num, (fun _ => by
            rcases Nat.eq_zero_or_pos k with g | g
            · subst g
              have := HP.out
              revert this
              unfold tLt tDg
              simp
              omega
            · exact hD.out g : (0 < k + 1 → tDg (bt l 0) = false)), hnext (by rw [HP.out]; rfl) id⟩
        case measure => simp [intOf]; omega
      | false =>
        have HP := hidden hp
        clear hp
        rcases Nat.eq_zero_or_pos k with g | g
        · have hk0 : (((k : Nat) : Int) == 0) = true := by simp [g]
          have HK0 := hidden g
          clear g
          go_wp2_with fail
          go_ret
          refine ⟨?_, Below.refl _ _⟩
          have : nameB l = false := by
            cases h2 : tDg (bt l 0) with
            | true => exact nb_dig h2
            | false =>
              have h1 := HP.out
              rw [HK0.out] at h1
              have h3 := hkl.out
              rw [HK0.out] at h3
              exact nb_bad h3 h1 h2
          rw [this]
          rfl
        · have hk0 : (((k : Nat) : Int) == 0) = false := by simp; omega
          go_wp2_with fail
          refine (rdigit_any s[k].toNat w).mono ?_
          rintro e w1 ⟨rfl, hw1⟩
          rw [hw1, ← hb.out]; clear hw1 w1
          cases hp2 : tDg (bt l k) with
          | true =>
            have HP2 := hidden hp2
            clear hp2
            go_wp2_with fail
            go_round
            case rel => exact ⟨k + 1, by omega, by go_num, (fun _ => hD.out g : (0 < k + 1 → tDg (bt l 0) = false)), hnext (by rw [HP2.out]; simp) id⟩
            case measure => simp [intOf]; omega
          | false =>
            have HP2 := hidden hp2
            clear hp2
            go_wp2_with fail
            go_ret
            exact ⟨by rw [nb_bad hkl.out HP.out HP2.out]; rfl, Below.refl _ _⟩
    · have hall : Hid (∀ j, j < l.length → (tLt (bt l j) || tDg (bt l j)) = true) := fun j hj => hK.out j (by rw [HLEN.out] at hj; omega)
      clear hK
      rcases Nat.eq_zero_or_pos s.size with h0 | h0
      · have HN := hidden (nb_none (l := l) (by rw [HLEN.out]; exact h0))
        have h0' : decide (0 < s.size) = false := by simp [h0]
        clear h0
        go_wp2_with fail
        go_ret
        exact ⟨by rw [HN.out]; rfl, Below.refl _ _⟩
      · by_cases h32 : 32 < s.size
        · have HN := hidden (nb_long (l := l) (by rw [HLEN.out]; exact h32))
          go_wp2_with fail
          go_ret
          exact ⟨by rw [HN.out]; rfl, Below.refl _ _⟩
        · have HN : Hid (nameB l = !tKey l) := by
            show nameB l = !tKey l
            cases h : tKey l with
            | true => exact nb_key h
            | false => exact nb_ok (by rw [HLEN.out]; exact h0) (by rw [HLEN.out]; omega) (hD.out (by omega)) hall.out h
          go_wp2_with fail
          refine (rword_any s w).mono ?_
          rintro e w1 ⟨rfl, hb1⟩
          have HB := hidden hb1
          rw [← HL.out]
          clear hb1
          cases h : tKey l with
          | true =>
            have HK := hidden h
            clear h
            go_wp2_with fail
            go_ret
            exact ⟨by rw [HN.out, HK.out]; rfl, HB.out⟩
          | false =>
            have HK := hidden h
            clear h
            go_wp2_with fail
            go_ret
            exact ⟨by rw [HN.out, HK.out]; rfl, HB.out⟩
theorem op_tab : ∀ k : Fin 17, opOf (tSigns.getD k.val []) = k.val := by decide +kernel
theorem opOf_at {l : List UInt8} {k : Nat} (hk : k < 17) (h : l = tSigns.getD k []) : opOf l = k := by
  rw [h]; exact op_tab ⟨k, hk⟩
theorem opOf_none {l : List UInt8} (hn : ∀ j, j < 17 → l ≠ tSigns.getD j []) : opOf l = 0 := by
  unfold opOf
  split
  · rfl
  · rw [if_neg]
    intro hm
    obtain ⟨k, hk, rfl⟩ := List.mem_iff_getElem.1 hm
    refine hn k hk ?_
    rw [List.getD_eq_getElem?_getD, List.getElem?_eq_getElem hk]
    rfl
theorem op_any (s : ByteArray) (w : World) (hT : Tabs w) :
    Calls Tryd.prog 19 #[.string s] w fun e w' => e = .returned (.int .i64 (opOf s.data.toList : Int)) ∧ w' = w := by
  obtain ⟨l, hl⟩ : ∃ l, l = s.data.toList := ⟨_, rfl⟩
  have HTL : Hid (s.toList = l) := by show s.toList = l; rw [toList_of, hl]
  rw [← hl]
  clear hl
  obtain ⟨tt, fr, hg⟩ := hT.signs
  have HG := hidden hg
  clear hg hT
  go_enter Tryd.func19, Tryd.ntmps19
  go_wp2_with (refine wpList_load_row rfl 56 _ rfl 0 rfl tt _ fr _ HG.out Tryd.underlying56 rfl (by kernel_rfl) ?_)
  go_loop [3, 4, 6] (fun _ _ i => ∃ k : Nat, k ≤ 17 ∧ i = .int .i64 (k : Int) ∧ Hid (∀ j, j < k → l ≠ tSigns.getD j [])) (fun _ _ i => 17 - (intOf i).toNat)
  case atStart => exact ⟨0, by omega, rfl, fun j hj => by omega⟩
  case round =>
    obtain ⟨k, hk, rfl, hK⟩ := hrel
    by_cases hlt : k < 17
    · have hix := sign_ix k hlt
      unfold txt at hix
      obtain ⟨c, hc⟩ : ∃ c, c = tSigns.getD k [] := ⟨_, rfl⟩
      rw [← hc] at hix
      have HC := hidden hc
      clear hc
      by_cases hE : l = c
      · have he' : (c == s.toList) = true := by rw [HTL.out]; simpa using hE.symm
        have HE := hidden hE
        clear hE
        go_wp2_with fail
        go_ret
        exact ⟨by rw [opOf_at hlt (HE.out.trans HC.out)]; rfl, rfl⟩
      · have he' : (c == s.toList) = false := by rw [HTL.out]; simpa using fun h : c = l => hE h.symm
        have HE := hidden hE
        clear hE
        go_wp2_with fail
        go_round
        case rel => exact ⟨k + 1, by omega, by go_num, fun j hj => by
          rcases Nat.lt_or_ge j k with g | g
          · exact hK.out j g
          · obtain rfl : j = k := by omega
            rw [← HC.out]
            exact HE.out⟩
        case measure => simp [intOf]; omega
    · obtain rfl : k = 17 := by omega
      go_wp2_with fail
      go_ret
      exact ⟨by rw [opOf_none hK.out]; rfl, rfl⟩
end Go.Proofs.YtihcepkdihmjoaaDoor
