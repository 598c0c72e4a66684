/- TreeName, TreeName2, TreeRefOwn, in one text. -/
import Derived.Test.YtagacfcpepoaoaaGreatDoorTreeRef1
import Derived.Lib.QuietBelow
import Derived.Deep.QuietTactic
import Derived.BigQuiet
namespace Go.Proofs.YtagacfcpepoaoaaGreatDoor
open Go.RowKit
set_option linter.unusedVariables false

theorem nb_none {l : List UInt8} (h : l.length = 0) : nameB l = false := by simp [nameB, h]
theorem nb_long {l : List UInt8} (h : 32 < l.length) : nameB l = false := by
  unfold nameB; rw [decide_eq_false (show ¬ l.length ≤ 32 by omega)]; simp
theorem nb_dig {l : List UInt8} (h : tDg (bt l 0) = true) : nameB l = false := by simp [nameB, h]
theorem nb_key {l : List UInt8} (h : tKey l = true) : nameB l = false := by simp [nameB, h]
theorem bt_get {l : List UInt8} {k : Nat} (hk : k < l.length) : bt l k = l[k].toNat := by
  unfold bt; rw [List.getD_eq_getElem?_getD, List.getElem?_eq_getElem hk]; rfl
theorem nb_bad {l : List UInt8} {k : Nat} (hk : k < l.length) (h1 : tLt (bt l k) = false) (h2 : tDg (bt l k) = false) : nameB l = false := by
  have : l.all (fun c => tLt c.toNat || tDg c.toNat) = false := by
    rw [List.all_eq_false]
    refine ⟨l[k], List.getElem_mem hk, ?_⟩
    rw [← bt_get hk, h1, h2]
    simp
  simp [nameB, this]
theorem nb_ok {l : List UInt8} (h0 : 0 < l.length) (h1 : l.length ≤ 32) (h2 : tDg (bt l 0) = false) (h3 : ∀ k, k < l.length → (tLt (bt l k) || tDg (bt l k)) = true) (h4 : tKey l = false) : nameB l = true := by
  have : l.all (fun c => tLt c.toNat || tDg c.toNat) = true := by
    rw [List.all_eq_true]
    intro c hc
    obtain ⟨k, hk, rfl⟩ := List.mem_iff_getElem.1 hc
    rw [← bt_get hk]
    exact h3 k hk
  simp [nameB, this, h0, h1, h2, h4]
theorem tKey_not {b : List UInt8} (h : ∀ j, j < 18 → b ≠ tKeys.getD j []) : tKey b = false := by
  unfold tKey
  rw [List.any_eq_false]
  intro k hk
  obtain ⟨j, hj, rfl⟩ := List.mem_iff_getElem.1 hk
  have hj' : j < 18 := hj
  have := h j hj'
  rw [List.getD_eq_getElem?_getD, List.getElem?_eq_getElem hj] at this
  simpa using this
theorem tKey_at {b : List UInt8} {j : Nat} (hj : j < 18) (h : b = tKeys.getD j []) : tKey b = true := by
  unfold tKey
  rw [List.any_eq_true]
  have hj' : j < tKeys.length := hj
  refine ⟨tKeys[j], List.getElem_mem hj', ?_⟩
  rw [List.getD_eq_getElem?_getD, List.getElem?_eq_getElem hj'] at h
  simpa using h
theorem toList_of (s : ByteArray) : s.toList = s.data.toList := ByteArray.toList_eq s
theorem toList_mk (b : List UInt8) : (⟨b.toArray⟩ : ByteArray).toList = b := by rw [ByteArray.toList_eq]
theorem string_of (s : ByteArray) : Value.string s = txt s.data.toList := by
  unfold txt; rw [Array.toArray_toList]
end Go.Proofs.YtagacfcpepoaoaaGreatDoor

namespace Go.Proofs.YtagacfcpepoaoaaGreatDoor
open Go.RowKit
set_option linter.unusedVariables false

/-- the words as the reference lays them -/
def wordCells : Array Value := (tKeys.map txt).toArray
theorem words_at {j : Nat} (hj : j < 18) : wordCells[j]? = some (txt (tKeys.getD j [])) := by
  unfold wordCells
  have hj' : j < tKeys.length := hj
  rw [List.getElem?_toArray, List.getElem?_map, List.getElem?_eq_getElem hj', List.getD_eq_getElem?_getD, List.getElem?_eq_getElem hj']
  rfl
set_option maxRecDepth 100000 in
theorem words_any (w : World) :
    Calls Tryz.prog 94 #[] w fun e w' => e = .returned (.slice (some ⟨w.heap.size, 0, none⟩) 18 18) ∧ w' = w.alloc (.cells wordCells 9) := by
  go_enter Tryz.func94, Tryz.ntmps94
  go_wp2
  go_ret
  exact ⟨rfl, rfl⟩
theorem rword_any (s : ByteArray) (w : World) :
    Calls Tryz.prog 77 #[.string s] w fun e w' => e = .returned (.bool (tKey s.data.toList)) ∧ Below w.heap.size w w' := by
  obtain ⟨l, hl⟩ : ∃ l, l = s.data.toList := ⟨_, rfl⟩
  have HTL : Hid (s.toList = l) := by show s.toList = l; rw [toList_of, hl]
  rw [← hl]
  clear hl
  go_enter Tryz.func77, Tryz.ntmps77
  go_wp2_with fail
  refine (words_any w).mono ?_
  rintro e w1 ⟨rfl, hw1⟩
  have HB : Hid (Below w.heap.size w w1) := by rw [hw1]; exact (Below.refl _ _).alloc (Nat.le_refl _) _
  have HH : Hid (Held w1 w.heap.size 9 wordCells) := by rw [hw1]; exact Held.new w 9 wordCells
  obtain ⟨g, hg⟩ : ∃ g, g = w.heap.size := ⟨_, rfl⟩
  rw [← hg] at HH ⊢
  clear hg hw1
  go_wp2_with fail
  go_loop [4] (fun i => ∃ k : Nat, k ≤ 18 ∧ i = .int .i64 (k : Int) ∧ Hid (∀ j, j < k → l ≠ tKeys.getD j [])) (fun i => 18 - (intOf i).toNat)
  case atStart => exact ⟨0, by omega, rfl, fun j hj => by omega⟩
  case round =>
    obtain ⟨k, hk, rfl, hK⟩ := hrel
    by_cases hlt : k < 18
    · have hc := HH.out.at_ (words_at hlt)
      unfold txt at hc
      obtain ⟨c, hcc⟩ : ∃ c, c = tKeys.getD k [] := ⟨_, rfl⟩
      rw [← hcc] at hc
      have HC := hidden hcc
      clear hcc
      by_cases hE : l = c
      · have he' : (c == s.toList) = true := by rw [HTL.out]; simpa using hE.symm
        have HE := hidden hE
        clear hE
        go_wp2_with fail
        go_ret
        exact ⟨by rw [tKey_at hlt (HE.out.trans HC.out)]; rfl, HB.out⟩
      · have he' : (c == s.toList) = false := by rw [HTL.out]; simpa using fun h : c = l => hE h.symm
        have HE := hidden hE
        clear hE
        go_wp2_with fail
        go_round
        case rel => exact ⟨k + 1, by omega, by go_num, fun j hj => by
          rcases Nat.lt_or_ge j k with g | g
          · exact hK.out j g
          · obtain rfl : j = k := by omega
            rw [← HC.out]
            exact HE.out⟩
        case measure => simp [intOf]; omega
    · obtain rfl : k = 18 := by omega
      go_wp2_with fail
      go_ret
      exact ⟨by rw [tKey_not hK.out]; rfl, HB.out⟩
theorem rname_any (s : ByteArray) (w : World) (hs : s.size ≤ 140737488351232) :
    Calls Tryz.prog 54 #[.string s] w fun e w' => e = .returned (.bool (nameB s.data.toList)) ∧ Below w.heap.size w w' := by
  obtain ⟨l, hl⟩ : ∃ l, l = s.data.toList := ⟨_, rfl⟩
  have HLEN : Hid (l.length = s.size) := by show l.length = s.size; rw [hl]; exact Array.length_toList
  rw [← hl]
  have HL := hidden hl
  clear hl
  go_enter Tryz.func54, Tryz.ntmps54
  go_wp2_with fail
  go_loop [3] (fun i => ∃ k : Nat, k ≤ s.size ∧ i = .int .i64 (k : Int) ∧ Hid (0 < k → tDg (bt l 0) = false) ∧ Hid (∀ j, j < k → (tLt (bt l j) || tDg (bt l j)) = true)) (fun i => s.size - (intOf i).toNat)
  case atStart => exact ⟨0, by omega, rfl, (fun h => by omega : (0 < 0 → tDg (bt l 0) = false)), fun j hj => by omega⟩
  case round =>
    obtain ⟨k, hk, rfl, hD, hK⟩ := hrel
    by_cases hlt : k < s.size
    · have hb := hidden (bt_of HL.out hlt)
      have hkl : Hid (k < l.length) := by show k < l.length; rw [HLEN.out]; exact hlt
      have hnext : ∀ {P : Prop}, (tLt (bt l k) || tDg (bt l k)) = true → ((∀ j, j < k + 1 → (tLt (bt l j) || tDg (bt l j)) = true) → P) → P := fun h f => f fun j hj => by
        rcases Nat.lt_or_ge j k with g | g
        · exact hK.out j g
        · obtain rfl : j = k := by omega
          exact h
      go_wp2_with fail
      refine (rletter_any s[k].toNat w).mono ?_
      rintro e w1 ⟨rfl, hw1⟩
      rw [hw1, ← hb.out]; clear hw1 w1
      cases hp : tLt (bt l k) with
      | true =>
        have HP := hidden hp
        clear hp
        go_wp2_with fail
        go_round
        case rel => exact ⟨k + 1, by omega, by go_num, (fun _ => by
            rcases Nat.eq_zero_or_pos k with g | g
            · subst g
              have := HP.out
              revert this
              unfold tLt tDg
              simp
              omega
            · exact hD.out g : (0 < k + 1 → tDg (bt l 0) = false)), hnext (by rw [HP.out]; rfl) id⟩
        case measure => simp [intOf]; omega
      | false =>
        have HP := hidden hp
        clear hp
        rcases Nat.eq_zero_or_pos k with g | g
        · have hk0 : (((k : Nat) : Int) == 0) = true := by simp [g]
          have HK0 := hidden g
          clear g
          go_wp2_with fail
          go_ret
          refine ⟨?_, Below.refl _ _⟩
          have : nameB l = false := by
            cases h2 : tDg (bt l 0) with
            | true => exact nb_dig h2
            | false =>
              have h1 := HP.out
              rw [HK0.out] at h1
              have h3 := hkl.out
              rw [HK0.out] at h3
              exact nb_bad h3 h1 h2
          rw [this]
          rfl
        · have hk0 : (((k : Nat) : Int) == 0) = false := by simp; omega
          go_wp2_with fail
          refine (rdigit_any s[k].toNat w).mono ?_
          rintro e w1 ⟨rfl, hw1⟩
          rw [hw1, ← hb.out]; clear hw1 w1
          cases hp2 : tDg (bt l k) with
          | true =>
            have HP2 := hidden hp2
            clear hp2
            go_wp2_with fail
            go_round
            case rel => exact ⟨k + 1, by omega, by go_num, (fun _ => hD.out g : (0 < k + 1 → tDg (bt l 0) = false)), hnext (by rw [HP2.out]; simp) id⟩
            case measure => simp [intOf]; omega
          | false =>
            have HP2 := hidden hp2
            clear hp2
            go_wp2_with fail
            go_ret
            exact ⟨by rw [nb_bad hkl.out HP.out HP2.out]; rfl, Below.refl _ _⟩
    · have hall : Hid (∀ j, j < l.length → (tLt (bt l j) || tDg (bt l j)) = true) := fun j hj => hK.out j (by rw [HLEN.out] at hj; omega)
      clear hK
      rcases Nat.eq_zero_or_pos s.size with h0 | h0
      · have HN := hidden (nb_none (l := l) (by rw [HLEN.out]; exact h0))
        have h0' : decide (0 < s.size) = false := by simp [h0]
        clear h0
        go_wp2_with fail
        go_ret
        exact ⟨by rw [HN.out]; rfl, Below.refl _ _⟩
      · by_cases h32 : 32 < s.size
        · have HN := hidden (nb_long (l := l) (by rw [HLEN.out]; exact h32))
          go_wp2_with fail
          go_ret
          exact ⟨by rw [HN.out]; rfl, Below.refl _ _⟩
        · have HN : Hid (nameB l = !tKey l) := by
            show nameB l = !tKey l
            cases h : tKey l with
            | true => exact nb_key h
            | false => exact nb_ok (by rw [HLEN.out]; exact h0) (by rw [HLEN.out]; omega) (hD.out (by omega)) hall.out h
          go_wp2_with fail
          refine (rword_any s w).mono ?_
          rintro e w1 ⟨rfl, hb1⟩
          have HB := hidden hb1
          rw [← HL.out]
          clear hb1
          cases h : tKey l with
          | true =>
            have HK := hidden h
            clear h
            go_wp2_with fail
            go_ret
            exact ⟨by rw [HN.out, HK.out]; rfl, HB.out⟩
          | false =>
            have HK := hidden h
            clear h
            go_wp2_with fail
            go_ret
            exact ⟨by rw [HN.out, HK.out]; rfl, HB.out⟩
end Go.Proofs.YtagacfcpepoaoaaGreatDoor

namespace Go.Proofs.YtagacfcpepoaoaaGreatDoor
open Go.RowKit
set_option linter.unusedVariables false

theorem ownB_not {x : Nd} (h : ¬ (1 ≤ x.kind ∧ x.kind ≤ 26 ∧ 0 ≤ x.at_)) : ownB x = false := by
  unfold ownB
  by_cases h1 : 1 ≤ x.kind
  · by_cases h2 : x.kind ≤ 26
    · rw [decide_eq_false (show ¬ 0 ≤ x.at_ by omega)]; simp
    · rw [decide_eq_false h2]; simp
  · rw [decide_eq_false h1]; simp
set_option maxRecDepth 100000 in
set_option maxHeartbeats 4000000 in
theorem own_low (K : Int) (ka : Option Addr) (kc m : Nat) (n : Int) (s : ByteArray) (at_ : Int) (w : World) (h : K < 1 ∨ 26 < K ∨ at_ < 0) :
    Calls Tryz.prog 25 #[.agg #[.int .i64 K, .slice ka m kc, .int .i64 n, .string s, .int .i64 at_]] w fun e w' => e = .returned (.bool false) ∧ Below w.heap.size w w' := by
  by_cases h1 : K < 1
  · clear h
    go_enter Tryz.func25, Tryz.ntmps25
    go_wp2_with fail
    go_quiet (fail)
    go_wp2_with fail
    go_ret
    exact ⟨rfl, ((Below.refl _ _).alloc (Nat.le_refl _) _).trans (below_drewN _ _ _)⟩
  · have h1' : decide (K < 1) = false := by simpa using h1
    by_cases h2 : 26 < K
    · clear h
      go_enter Tryz.func25, Tryz.ntmps25
      go_wp2_with fail
      go_quiet (fail)
      go_wp2_with fail
      go_ret
      exact ⟨rfl, ((Below.refl _ _).alloc (Nat.le_refl _) _).trans (below_drewN _ _ _)⟩
    · have h2' : decide (26 < K) = false := by simpa using h2
      have h3 : at_ < 0 := by omega
      clear h
      go_enter Tryz.func25, Tryz.ntmps25
      go_wp2_with fail
      go_quiet (fail)
      go_wp2_with fail
      go_ret
      exact ⟨rfl, ((Below.refl _ _).alloc (Nat.le_refl _) _).trans (below_drewN _ _ _)⟩
set_option maxRecDepth 100000 in
set_option maxHeartbeats 4000000 in
theorem own_high (K : Int) (ka : Option Addr) (kc m : Nat) (n : Int) (s : ByteArray) (at_ : Int) (w : World) (h1 : 1 ≤ K) (h2 : K ≤ 26) (h3 : 0 ≤ at_) (hs : s.size ≤ 140737488351232) :
    Calls Tryz.prog 25 #[.agg #[.int .i64 K, .slice ka m kc, .int .i64 n, .string s, .int .i64 at_]] w fun e w' => e = .returned (.bool ((if named K then nameB s.data.toList else decide (s.data.toList = [])) && numB K n)) ∧ Below w.heap.size w w' := by
  have h1' : decide (K < 1) = false := by simp; omega
  have h2' : decide (26 < K) = false := by simp; omega
  have h3' : decide (at_ < 0) = false := by simp; omega
  have HTL := hidden (toList_of s)
  have cN : ∀ w1 : World, ∀ d os, Calls Tryz.prog 53 #[.int .i64 K] (Sort.grow (redrawn w1 d) os) fun e w'' => e = .returned (.bool (named K)) ∧ ∃ p : Regrown, w'' = Sort.grow (redrawn w1 p.d) p.os := fun w1 d os => Calls.regrown_of (named_any K _)
  have cR : ∀ w1 : World, ∀ d os, Calls Tryz.prog 54 #[.string s] (Sort.grow (redrawn w1 d) os) fun e w'' => e = .returned (.bool (nameB s.data.toList)) ∧ ∃ p : Regrown, w'' = Sort.grow (redrawn w1 p.d) p.os := fun w1 d os => Calls.regrown_of (rname_any s _ hs)
  obtain ⟨R, hR⟩ : ∃ R, R = ((if named K then nameB s.data.toList else decide (s.data.toList = [])) && numB K n) := ⟨_, rfl⟩
  rw [← hR]
  have HR := hidden hR
  clear hR
  obtain ⟨B1, hB1⟩ : ∃ B1, B1 = named K := ⟨_, rfl⟩
  obtain ⟨B2, hB2⟩ : ∃ B2, B2 = nameB s.data.toList := ⟨_, rfl⟩
  rw [← hB1] at cN
  rw [← hB2] at cR
  have HB1 := hidden hB1
  have HB2 := hidden hB2
  clear hB1 hB2
  by_cases hse : s.data.toList = []
  · have hse' : s.toList.isEmpty = true := by rw [HTL.out, hse]; rfl
    have hse2 : s.toList = [] := by rw [HTL.out, hse]
    have HSE := hidden hse
    clear hse
    cases B1 with
    | true =>
      go_enter Tryz.func25, Tryz.ntmps25
      go_wp2_with fail
      obtain ⟨w1, hw1⟩ : ∃ w1, w1 = w.alloc (.cells #[.int .i64 K, .slice ka m kc, .int .i64 n, .string s, .int .i64 at_] 59) := ⟨_, rfl⟩
      have HBL : Hid (Below w.heap.size w w1) := by rw [hw1]; exact (Below.refl _ _).alloc (Nat.le_refl _) _
      have HH : Hid (Held w1 w.heap.size 59 #[.int .i64 K, .slice ka m kc, .int .i64 n, .string s, .int .i64 at_]) := by rw [hw1]; exact Held.new w _ _
      have HSZ : Hid (w.heap.size ≤ w1.heap.size) := HBL.out.size
      obtain ⟨g, hg⟩ : ∃ g, g = w.heap.size := ⟨_, rfl⟩
      rw [← hw1]
      rw [← hg] at HH HBL HSZ ⊢
      have HG := hidden hg
      clear hw1 hg
      have k0 := cell_regrown (HH.out.at_ (j := 0) rfl)
      have k2 := cell_regrown (HH.out.at_ (j := 2) rfl)
      have k3 := cell_regrown (HH.out.at_ (j := 3) rfl)
      have k4 := cell_regrown (HH.out.at_ (j := 4) rfl)
      have cN1 := cN w1
      have cR1 := cR w1
      clear cN cR
      refine wp_region_quiet_below (by kernel_rfl) (by kernel_rfl) ?_
      repeat (any_goals (first | go_big_quiet_step (first | exact cN1 _ _ | exact cR1 _ _) | quiet_step (first | exact cN1 _ _ | exact cR1 _ _)))
      refine wpQuiet_nil ?_
      intro _ hw'
      obtain ⟨⟨dq, osq⟩, hw''⟩ := hw'
      obtain ⟨w2, hw2⟩ : ∃ w2, w2 = Sort.grow (redrawn w1 dq) osq := ⟨_, rfl⟩
      have HB3 : Hid (Below g w w2) := by rw [hw2]; exact HBL.out.trans ((below_regrown w1 dq osq).mono HSZ.out)
      have c0 : w2.cell? ⟨g, 0, none⟩ = some (.int .i64 K) := by rw [hw2]; exact k0 dq osq
      have c2 : w2.cell? ⟨g, 2, none⟩ = some (.int .i64 n) := by rw [hw2]; exact k2 dq osq
      rw [hw'', ← hw2]
      clear hw2 hw'' k0 k2 k3 k4 cN1 cR1 HH
      go_wp2_with fail
      go_ret
      exact ⟨by rw [HR.out, ← HB1.out, HSE.out, if_pos rfl, nb_none rfl, Bool.false_and]; rfl, by rw [← HG.out]; exact HB3.out⟩
    | false =>
      go_enter Tryz.func25, Tryz.ntmps25
      go_wp2_with fail
      obtain ⟨w1, hw1⟩ : ∃ w1, w1 = w.alloc (.cells #[.int .i64 K, .slice ka m kc, .int .i64 n, .string s, .int .i64 at_] 59) := ⟨_, rfl⟩
      have HBL : Hid (Below w.heap.size w w1) := by rw [hw1]; exact (Below.refl _ _).alloc (Nat.le_refl _) _
      have HH : Hid (Held w1 w.heap.size 59 #[.int .i64 K, .slice ka m kc, .int .i64 n, .string s, .int .i64 at_]) := by rw [hw1]; exact Held.new w _ _
      have HSZ : Hid (w.heap.size ≤ w1.heap.size) := HBL.out.size
      obtain ⟨g, hg⟩ : ∃ g, g = w.heap.size := ⟨_, rfl⟩
      rw [← hw1]
      rw [← hg] at HH HBL HSZ ⊢
      have HG := hidden hg
      clear hw1 hg
      have k0 := cell_regrown (HH.out.at_ (j := 0) rfl)
      have k2 := cell_regrown (HH.out.at_ (j := 2) rfl)
      have k3 := cell_regrown (HH.out.at_ (j := 3) rfl)
      have k4 := cell_regrown (HH.out.at_ (j := 4) rfl)
      have cN1 := cN w1
      have cR1 := cR w1
      clear cN cR
      refine wp_region_quiet_below (by kernel_rfl) (by kernel_rfl) ?_
      repeat (any_goals (first | go_big_quiet_step (first | exact cN1 _ _ | exact cR1 _ _) | quiet_step (first | exact cN1 _ _ | exact cR1 _ _)))
      refine wpQuiet_nil ?_
      intro _ hw'
      obtain ⟨⟨dq, osq⟩, hw''⟩ := hw'
      obtain ⟨w2, hw2⟩ : ∃ w2, w2 = Sort.grow (redrawn w1 dq) osq := ⟨_, rfl⟩
      have HB3 : Hid (Below g w w2) := by rw [hw2]; exact HBL.out.trans ((below_regrown w1 dq osq).mono HSZ.out)
      have c0 : w2.cell? ⟨g, 0, none⟩ = some (.int .i64 K) := by rw [hw2]; exact k0 dq osq
      have c2 : w2.cell? ⟨g, 2, none⟩ = some (.int .i64 n) := by rw [hw2]; exact k2 dq osq
      rw [hw'', ← hw2]
      clear hw2 hw'' k0 k2 k3 k4 cN1 cR1 HH
      go_wp2_with fail
      all_goals go_ret
      all_goals refine ⟨congrArg (fun b => Ending.returned (Value.bool b)) ?_, by rw [← HG.out]; exact HB3.out⟩
      all_goals rw [HR.out, ← HB1.out, if_neg Bool.false_ne_true, decide_eq_true HSE.out, Bool.true_and]
      all_goals simp only [beq_iff_eq, beq_eq_false_iff_ne, ne_eq] at *
      all_goals (unfold numB; rw [Bool.eq_iff_iff]; (repeat' split) <;> (try simp) <;> (try omega))
  · have hse' : s.toList.isEmpty = false := by rw [HTL.out, List.isEmpty_eq_false_iff]; exact hse
    have hse2 : ¬ s.toList = [] := by rw [HTL.out]; exact hse
    have HSE := hidden hse
    clear hse
    cases B1 with
    | false =>
      go_enter Tryz.func25, Tryz.ntmps25
      go_wp2_with fail
      obtain ⟨w1, hw1⟩ : ∃ w1, w1 = w.alloc (.cells #[.int .i64 K, .slice ka m kc, .int .i64 n, .string s, .int .i64 at_] 59) := ⟨_, rfl⟩
      have HBL : Hid (Below w.heap.size w w1) := by rw [hw1]; exact (Below.refl _ _).alloc (Nat.le_refl _) _
      have HH : Hid (Held w1 w.heap.size 59 #[.int .i64 K, .slice ka m kc, .int .i64 n, .string s, .int .i64 at_]) := by rw [hw1]; exact Held.new w _ _
      have HSZ : Hid (w.heap.size ≤ w1.heap.size) := HBL.out.size
      obtain ⟨g, hg⟩ : ∃ g, g = w.heap.size := ⟨_, rfl⟩
      rw [← hw1]
      rw [← hg] at HH HBL HSZ ⊢
      have HG := hidden hg
      clear hw1 hg
      have k0 := cell_regrown (HH.out.at_ (j := 0) rfl)
      have k2 := cell_regrown (HH.out.at_ (j := 2) rfl)
      have k3 := cell_regrown (HH.out.at_ (j := 3) rfl)
      have k4 := cell_regrown (HH.out.at_ (j := 4) rfl)
      have cN1 := cN w1
      have cR1 := cR w1
      clear cN cR
      refine wp_region_quiet_below (by kernel_rfl) (by kernel_rfl) ?_
      repeat (any_goals (first | go_big_quiet_step (first | exact cN1 _ _ | exact cR1 _ _) | quiet_step (first | exact cN1 _ _ | exact cR1 _ _)))
      refine wpQuiet_nil ?_
      intro _ hw'
      obtain ⟨⟨dq, osq⟩, hw''⟩ := hw'
      obtain ⟨w2, hw2⟩ : ∃ w2, w2 = Sort.grow (redrawn w1 dq) osq := ⟨_, rfl⟩
      have HB3 : Hid (Below g w w2) := by rw [hw2]; exact HBL.out.trans ((below_regrown w1 dq osq).mono HSZ.out)
      have c0 : w2.cell? ⟨g, 0, none⟩ = some (.int .i64 K) := by rw [hw2]; exact k0 dq osq
      have c2 : w2.cell? ⟨g, 2, none⟩ = some (.int .i64 n) := by rw [hw2]; exact k2 dq osq
      rw [hw'', ← hw2]
      clear hw2 hw'' k0 k2 k3 k4 cN1 cR1 HH
      go_wp2_with fail
      go_ret
      exact ⟨by rw [HR.out, ← HB1.out, if_neg Bool.false_ne_true, decide_eq_false HSE.out, Bool.false_and]; rfl, by rw [← HG.out]; exact HB3.out⟩
    | true =>
      cases B2 with
      | false =>
        go_enter Tryz.func25, Tryz.ntmps25
        go_wp2_with fail
        obtain ⟨w1, hw1⟩ : ∃ w1, w1 = w.alloc (.cells #[.int .i64 K, .slice ka m kc, .int .i64 n, .string s, .int .i64 at_] 59) := ⟨_, rfl⟩
        have HBL : Hid (Below w.heap.size w w1) := by rw [hw1]; exact (Below.refl _ _).alloc (Nat.le_refl _) _
        have HH : Hid (Held w1 w.heap.size 59 #[.int .i64 K, .slice ka m kc, .int .i64 n, .string s, .int .i64 at_]) := by rw [hw1]; exact Held.new w _ _
        have HSZ : Hid (w.heap.size ≤ w1.heap.size) := HBL.out.size
        obtain ⟨g, hg⟩ : ∃ g, g = w.heap.size := ⟨_, rfl⟩
        rw [← hw1]
        rw [← hg] at HH HBL HSZ ⊢
        have HG := hidden hg
        clear hw1 hg
        have k0 := cell_regrown (HH.out.at_ (j := 0) rfl)
        have k2 := cell_regrown (HH.out.at_ (j := 2) rfl)
        have k3 := cell_regrown (HH.out.at_ (j := 3) rfl)
        have k4 := cell_regrown (HH.out.at_ (j := 4) rfl)
        have cN1 := cN w1
        have cR1 := cR w1
        clear cN cR
        refine wp_region_quiet_below (by kernel_rfl) (by kernel_rfl) ?_
        repeat (any_goals (first | go_big_quiet_step (first | exact cN1 _ _ | exact cR1 _ _) | quiet_step (first | exact cN1 _ _ | exact cR1 _ _)))
        refine wpQuiet_nil ?_
        intro _ hw'
        obtain ⟨⟨dq, osq⟩, hw''⟩ := hw'
        obtain ⟨w2, hw2⟩ : ∃ w2, w2 = Sort.grow (redrawn w1 dq) osq := ⟨_, rfl⟩
        have HB3 : Hid (Below g w w2) := by rw [hw2]; exact HBL.out.trans ((below_regrown w1 dq osq).mono HSZ.out)
        have c0 : w2.cell? ⟨g, 0, none⟩ = some (.int .i64 K) := by rw [hw2]; exact k0 dq osq
        have c2 : w2.cell? ⟨g, 2, none⟩ = some (.int .i64 n) := by rw [hw2]; exact k2 dq osq
        rw [hw'', ← hw2]
        clear hw2 hw'' k0 k2 k3 k4 cN1 cR1 HH
        go_wp2_with fail
        go_ret
        exact ⟨by rw [HR.out, ← HB1.out, if_pos rfl, ← HB2.out, Bool.false_and]; rfl, by rw [← HG.out]; exact HB3.out⟩
      | true =>
        go_enter Tryz.func25, Tryz.ntmps25
        go_wp2_with fail
        obtain ⟨w1, hw1⟩ : ∃ w1, w1 = w.alloc (.cells #[.int .i64 K, .slice ka m kc, .int .i64 n, .string s, .int .i64 at_] 59) := ⟨_, rfl⟩
        have HBL : Hid (Below w.heap.size w w1) := by rw [hw1]; exact (Below.refl _ _).alloc (Nat.le_refl _) _
        have HH : Hid (Held w1 w.heap.size 59 #[.int .i64 K, .slice ka m kc, .int .i64 n, .string s, .int .i64 at_]) := by rw [hw1]; exact Held.new w _ _
        have HSZ : Hid (w.heap.size ≤ w1.heap.size) := HBL.out.size
        obtain ⟨g, hg⟩ : ∃ g, g = w.heap.size := ⟨_, rfl⟩
        rw [← hw1]
        rw [← hg] at HH HBL HSZ ⊢
        have HG := hidden hg
        clear hw1 hg
        have k0 := cell_regrown (HH.out.at_ (j := 0) rfl)
        have k2 := cell_regrown (HH.out.at_ (j := 2) rfl)
        have k3 := cell_regrown (HH.out.at_ (j := 3) rfl)
        have k4 := cell_regrown (HH.out.at_ (j := 4) rfl)
        have cN1 := cN w1
        have cR1 := cR w1
        clear cN cR
        refine wp_region_quiet_below (by kernel_rfl) (by kernel_rfl) ?_
        repeat (any_goals (first | go_big_quiet_step (first | exact cN1 _ _ | exact cR1 _ _) | quiet_step (first | exact cN1 _ _ | exact cR1 _ _)))
        refine wpQuiet_nil ?_
        intro _ hw'
        obtain ⟨⟨dq, osq⟩, hw''⟩ := hw'
        obtain ⟨w2, hw2⟩ : ∃ w2, w2 = Sort.grow (redrawn w1 dq) osq := ⟨_, rfl⟩
        have HB3 : Hid (Below g w w2) := by rw [hw2]; exact HBL.out.trans ((below_regrown w1 dq osq).mono HSZ.out)
        have c0 : w2.cell? ⟨g, 0, none⟩ = some (.int .i64 K) := by rw [hw2]; exact k0 dq osq
        have c2 : w2.cell? ⟨g, 2, none⟩ = some (.int .i64 n) := by rw [hw2]; exact k2 dq osq
        rw [hw'', ← hw2]
        clear hw2 hw'' k0 k2 k3 k4 cN1 cR1 HH
        go_wp2_with fail
        all_goals go_ret
        all_goals refine ⟨congrArg (fun b => Ending.returned (Value.bool b)) ?_, by rw [← HG.out]; exact HB3.out⟩
        all_goals rw [HR.out, ← HB1.out, if_pos rfl, ← HB2.out, Bool.true_and]
        all_goals simp only [beq_iff_eq, beq_eq_false_iff_ne, ne_eq] at *
        all_goals (unfold numB; rw [Bool.eq_iff_iff]; (repeat' split) <;> (try simp) <;> (try omega))
/-- own, whatever the node -/
theorem own_any (x : Nd) (w : World) (hs : x.s.size ≤ 140737488351232) :
    Calls Tryz.prog 25 #[x.v] w fun e w' => e = .returned (.bool (ownB x)) ∧ Below w.heap.size w w' := by
  obtain ⟨K, ka, kc, ks, n, s, at_⟩ := x
  by_cases h : 1 ≤ K ∧ K ≤ 26 ∧ 0 ≤ at_
  · refine (own_high K ka kc ks.length n s at_ w h.1 h.2.1 h.2.2 hs).mono ?_
    rintro e w' ⟨rfl, hb⟩
    refine ⟨?_, hb⟩
    have : ownB ⟨K, ka, kc, ks, n, s, at_⟩ = ((if named K then nameB s.data.toList else decide (s.data.toList = [])) && numB K n) := by
      show (decide (1 ≤ K) && decide (K ≤ 26) && decide (0 ≤ at_) && (if named K then nameB s.data.toList else decide (s.data.toList = [])) && numB K n) = _
      rw [decide_eq_true h.1, decide_eq_true h.2.1, decide_eq_true h.2.2, Bool.true_and, Bool.true_and, Bool.true_and]
    rw [this]
  · refine (own_low K ka kc ks.length n s at_ w (by omega)).mono ?_
    rintro e w' ⟨rfl, hb⟩
    refine ⟨?_, hb⟩
    rw [ownB_not (x := ⟨K, ka, kc, ks, n, s, at_⟩) h]
end Go.Proofs.YtagacfcpepoaoaaGreatDoor
