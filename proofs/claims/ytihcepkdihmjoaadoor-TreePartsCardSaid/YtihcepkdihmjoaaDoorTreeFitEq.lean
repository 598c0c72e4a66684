/- What fits tells is what the document says. -/
import Derived.Test.YtihcepkdihmjoaaDoorTreeFits
namespace Go.Proofs.YtihcepkdihmjoaaDoor
open Go.RowKit
set_option linter.unusedVariables false

theorem hit_tab : ∀ k : Fin 27, hitB 1 (k.val : Int) = isEx k.val ∧ hitB 2 (k.val : Int) = isSt k.val ∧ hitB 4 (k.val : Int) = decide ((k.val : Int) = 23) ∧ hitB 8 (k.val : Int) = decide ((k.val : Int) = 11) ∧ hitB 16 (k.val : Int) = decide ((k.val : Int) = 24) ∧ hitB 32 (k.val : Int) = decide ((k.val : Int) = 25) := by decide +kernel
theorem hit_0 (k : Int) : hitB 0 k = false := by unfold hitB; simp
theorem hit_of {ks : List Int} (h : KindsIn ks) {j : Nat} (hj : j < ks.length) : hitB 1 (ks.getD j 0) = isEx (ks.getD j 0) ∧ hitB 2 (ks.getD j 0) = isSt (ks.getD j 0) ∧ hitB 4 (ks.getD j 0) = decide (ks.getD j 0 = 23) ∧ hitB 8 (ks.getD j 0) = decide (ks.getD j 0 = 11) ∧ hitB 16 (ks.getD j 0) = decide (ks.getD j 0 = 24) ∧ hitB 32 (ks.getD j 0) = decide (ks.getD j 0 = 25) := by
  obtain ⟨k, hk, hlt⟩ := h j hj
  rw [hk]
  exact hit_tab ⟨k, hlt⟩
theorem run1_hit {m : Nat} : ∀ {ks : List Int} {j : Nat}, j < run1 m ks → hitB m (ks.getD j 0) = true
  | [], j, h => by simp [run1] at h
  | x :: r, j, h => by
    unfold run1 at h
    rw [List.takeWhile_cons] at h
    split at h
    · rename_i hx
      cases j with
      | zero => exact hx
      | succ j =>
        have := run1_hit (m := m) (ks := r) (j := j) (by unfold run1; simpa using h)
        simpa using this
    · simp at h
theorem greedy_iff {p : Nat → Pt} {ks : List Int} (hd : ∀ j, j < ks.length → hitB (p 1).is (ks.getD j 0) = true → hitB (p 0).is (ks.getD j 0) = false) :
    greedy p ks = true ↔ ∃ n, n ≤ ks.length ∧ (∀ j, j < n → hitB (p 0).is (ks.getD j 0) = true) ∧ (∀ j, n ≤ j → j < ks.length → hitB (p 1).is (ks.getD j 0) = true) ∧ ((p 0).lo ≤ (n : Int) ∧ (n : Int) ≤ (p 0).hi) ∧ ((p 1).lo ≤ ((ks.length - n : Nat) : Int) ∧ ((ks.length - n : Nat) : Int) ≤ (p 1).hi) := by
  have hb : ∀ lo hi n : Int, btw lo hi n = true ↔ lo ≤ n ∧ n ≤ hi := by intro lo hi n; simp [btw]
  have r1 : rem p ks 1 = if btw (p 0).lo (p 0).hi (run1 (p 0).is ks : Int) then some (ks.drop (run1 (p 0).is ks)) else none := rfl
  constructor
  · intro h
    have h1 : btw (p 0).lo (p 0).hi (run1 (p 0).is ks : Int) = true := by
      cases hh : btw (p 0).lo (p 0).hi (run1 (p 0).is ks : Int) with
      | true => rfl
      | false => rw [greedy_stop (i := 0) (by omega) (by rw [r1, hh]; rfl)] at h; cases h
    have e1 : rem p ks 1 = some (ks.drop (run1 (p 0).is ks)) := by rw [r1, h1]; rfl
    have h2 : btw (p 1).lo (p 1).hi (run1 (p 1).is (ks.drop (run1 (p 0).is ks)) : Int) = true := by
      cases hh : btw (p 1).lo (p 1).hi (run1 (p 1).is (ks.drop (run1 (p 0).is ks)) : Int) with
      | true => rfl
      | false => rw [greedy_stop (i := 1) (by omega) (rem_stop e1 hh)] at h; cases h
    have e2 := rem_next e1 h2
    rw [greedy_end e2, decide_eq_true_eq, List.length_drop, List.length_drop] at h
    have l1 := run1_le (p 0).is ks
    have l2 := run1_le (p 1).is (ks.drop (run1 (p 0).is ks))
    rw [List.length_drop] at l2
    have e3 : run1 (p 1).is (ks.drop (run1 (p 0).is ks)) = ks.length - run1 (p 0).is ks := by omega
    rw [e3] at h2
    refine ⟨run1 (p 0).is ks, l1, ?_, ?_, (hb _ _ _).1 h1, (hb _ _ _).1 h2⟩
    · intro j hj
      exact run1_hit hj
    · intro j hj hjl
      have := run1_hit (m := (p 1).is) (ks := ks.drop (run1 (p 0).is ks)) (j := j - run1 (p 0).is ks) (by omega)
      rw [drop_get] at this
      rw [show run1 (p 0).is ks + (j - run1 (p 0).is ks) = j by omega] at this
      exact this
  · rintro ⟨n, hn, hP, hQ, h1, h2⟩
    have e0 : run1 (p 0).is ks = n := run1_at hP hn (fun h => hd n h (hQ n (Nat.le_refl _) h))
    have e1 : rem p ks 1 = some (ks.drop n) := by rw [r1, e0, (hb _ _ _).2 h1]; rfl
    have e3 : run1 (p 1).is (ks.drop n) = ks.length - n := run1_at (fun j hj => by rw [drop_get]; exact hQ (n + j) (by omega) (by omega)) (by rw [List.length_drop]; exact Nat.le_refl _) (fun h => by rw [List.length_drop] at h; omega)
    have e2 := rem_next e1 (by rw [e3]; exact (hb _ _ _).2 h2)
    rw [greedy_end e2, e3, decide_eq_true_eq, List.length_drop, List.length_drop]
    omega
theorem exprs_iff {ks : List Int} {n : Nat} : exprs ks n = true ↔ n ≤ ks.length ∧ ∀ j, j < n → isEx (ks.getD j 0) = true := by
  constructor
  · intro h
    rcases Nat.lt_or_ge ks.length n with g | g
    · rw [exprs_few g] at h; cases h
    · refine ⟨g, fun j hj => ?_⟩
      cases hh : isEx (ks.getD j 0) with
      | true => rfl
      | false => rw [exprs_bad hj g hh] at h; cases h
  · rintro ⟨h1, h2⟩
    exact exprs_ok h1 h2
theorem alls_iff {ks : List Int} {K : Int} {m : Nat} : alls ks K m = true ↔ (∀ j, j < ks.length → ks.getD j 0 = K) ∧ ks.length ≤ m := by
  constructor
  · intro h
    have h1 : ∀ j, j < ks.length → ks.getD j 0 = K := by
      intro j hj
      by_cases hh : ks.getD j 0 = K
      · exact hh
      · rw [alls_bad hj hh] at h; cases h
    rw [alls_ok h1, decide_eq_true_eq] at h
    exact ⟨h1, h⟩
  · rintro ⟨h1, h2⟩
    rw [alls_ok h1, decide_eq_true h2]
theorem sts_iff {ks : List Int} : ks.all isSt = true ↔ ∀ j, j < ks.length → isSt (ks.getD j 0) = true := by
  constructor
  · intro h j hj
    cases hh : isSt (ks.getD j 0) with
    | true => rfl
    | false => rw [sts_bad hj hh] at h; cases h
  · exact sts_ok
/-- one part alone -/
theorem greedy_one {p : Nat → Pt} {ks : List Int} {m : Nat} {lo hi : Int} (h0 : p 0 = ⟨m, lo, hi⟩) (h1 : p 1 = ⟨0, 0, 0⟩) : greedy p ks = true ↔ (∀ j, j < ks.length → hitB m (ks.getD j 0) = true) ∧ lo ≤ (ks.length : Int) ∧ (ks.length : Int) ≤ hi := by
  rw [greedy_iff (by intro j _ h; rw [h1, hit_0] at h; cases h), h0, h1]
  constructor
  · rintro ⟨n, hn, hP, hQ, hb, _⟩
    have : n = ks.length := by
      rcases Nat.lt_or_ge n ks.length with g | g
      · have := hQ n (Nat.le_refl _) g
        rw [hit_0] at this; cases this
      · omega
    subst this
    exact ⟨hP, hb⟩
  · rintro ⟨hP, hb⟩
    exact ⟨ks.length, Nat.le_refl _, hP, fun j h1 h2 => by omega, hb, by simp⟩
theorem ex_ne {k : Int} (h : isEx k = true) : k ≠ 23 ∧ k ≠ 24 := by
  unfold isEx at h; simp at h; omega
theorem bool_of {a b : Bool} (h : a = true ↔ b = true) : a = b := by rw [Bool.eq_iff_iff]; exact h
theorem gk_5 {ks : List Int} (hK : KindsIn ks) : greedy (mkp 5) ks = kidsB 5 ks := by
  refine bool_of ?_
  rw [greedy_one (p := mkp 5) (m := 1) (lo := 2) (hi := 2) rfl rfl]
  show _ ↔ (decide (ks.length = 2) && exprs ks 2) = true
  rw [Bool.and_eq_true, decide_eq_true_eq, exprs_iff]
  constructor
  · rintro ⟨h1, h2, h3⟩
    exact ⟨by omega, by omega, fun j hj => by rw [← (hit_of hK (j := j) (by omega)).1]; exact h1 j (by omega)⟩
  · rintro ⟨h1, h2, h3⟩
    exact ⟨fun j hj => by rw [(hit_of hK hj).1]; exact h3 j (by omega), by omega, by omega⟩
theorem gk_8 {ks : List Int} (hK : KindsIn ks) : greedy (mkp 8) ks = kidsB 8 ks := by
  refine bool_of ?_
  rw [greedy_one (p := mkp 8) (m := 1) (lo := 2) (hi := 2) rfl rfl]
  show _ ↔ (decide (ks.length = 2) && exprs ks 2) = true
  rw [Bool.and_eq_true, decide_eq_true_eq, exprs_iff]
  constructor
  · rintro ⟨h1, h2, h3⟩
    exact ⟨by omega, by omega, fun j hj => by rw [← (hit_of hK (j := j) (by omega)).1]; exact h1 j (by omega)⟩
  · rintro ⟨h1, h2, h3⟩
    exact ⟨fun j hj => by rw [(hit_of hK hj).1]; exact h3 j (by omega), by omega, by omega⟩
theorem gk_14 {ks : List Int} (hK : KindsIn ks) : greedy (mkp 14) ks = kidsB 14 ks := by
  refine bool_of ?_
  rw [greedy_one (p := mkp 14) (m := 1) (lo := 2) (hi := 2) rfl rfl]
  show _ ↔ (decide (ks.length = 2) && exprs ks 2) = true
  rw [Bool.and_eq_true, decide_eq_true_eq, exprs_iff]
  constructor
  · rintro ⟨h1, h2, h3⟩
    exact ⟨by omega, by omega, fun j hj => by rw [← (hit_of hK (j := j) (by omega)).1]; exact h1 j (by omega)⟩
  · rintro ⟨h1, h2, h3⟩
    exact ⟨fun j hj => by rw [(hit_of hK hj).1]; exact h3 j (by omega), by omega, by omega⟩
theorem gk_6 {ks : List Int} (hK : KindsIn ks) : greedy (mkp 6) ks = kidsB 6 ks := by
  refine bool_of ?_
  rw [greedy_one (p := mkp 6) (m := 1) (lo := 1) (hi := 1) rfl rfl]
  show _ ↔ (decide (ks.length = 1) && exprs ks 1) = true
  rw [Bool.and_eq_true, decide_eq_true_eq, exprs_iff]
  constructor
  · rintro ⟨h1, h2, h3⟩
    exact ⟨by omega, by omega, fun j hj => by rw [← (hit_of hK (j := j) (by omega)).1]; exact h1 j (by omega)⟩
  · rintro ⟨h1, h2, h3⟩
    exact ⟨fun j hj => by rw [(hit_of hK hj).1]; exact h3 j (by omega), by omega, by omega⟩
theorem gk_7 {ks : List Int} (hK : KindsIn ks) : greedy (mkp 7) ks = kidsB 7 ks := by
  refine bool_of ?_
  rw [greedy_one (p := mkp 7) (m := 1) (lo := 1) (hi := 1) rfl rfl]
  show _ ↔ (decide (ks.length = 1) && exprs ks 1) = true
  rw [Bool.and_eq_true, decide_eq_true_eq, exprs_iff]
  constructor
  · rintro ⟨h1, h2, h3⟩
    exact ⟨by omega, by omega, fun j hj => by rw [← (hit_of hK (j := j) (by omega)).1]; exact h1 j (by omega)⟩
  · rintro ⟨h1, h2, h3⟩
    exact ⟨fun j hj => by rw [(hit_of hK hj).1]; exact h3 j (by omega), by omega, by omega⟩
theorem gk_9 {ks : List Int} (hK : KindsIn ks) : greedy (mkp 9) ks = kidsB 9 ks := by
  refine bool_of ?_
  rw [greedy_one (p := mkp 9) (m := 1) (lo := 1) (hi := 1) rfl rfl]
  show _ ↔ (decide (ks.length = 1) && exprs ks 1) = true
  rw [Bool.and_eq_true, decide_eq_true_eq, exprs_iff]
  constructor
  · rintro ⟨h1, h2, h3⟩
    exact ⟨by omega, by omega, fun j hj => by rw [← (hit_of hK (j := j) (by omega)).1]; exact h1 j (by omega)⟩
  · rintro ⟨h1, h2, h3⟩
    exact ⟨fun j hj => by rw [(hit_of hK hj).1]; exact h3 j (by omega), by omega, by omega⟩
theorem gk_10 {ks : List Int} (hK : KindsIn ks) : greedy (mkp 10) ks = kidsB 10 ks := by
  refine bool_of ?_
  rw [greedy_one (p := mkp 10) (m := 1) (lo := 1) (hi := 1) rfl rfl]
  show _ ↔ (decide (ks.length = 1) && exprs ks 1) = true
  rw [Bool.and_eq_true, decide_eq_true_eq, exprs_iff]
  constructor
  · rintro ⟨h1, h2, h3⟩
    exact ⟨by omega, by omega, fun j hj => by rw [← (hit_of hK (j := j) (by omega)).1]; exact h1 j (by omega)⟩
  · rintro ⟨h1, h2, h3⟩
    exact ⟨fun j hj => by rw [(hit_of hK hj).1]; exact h3 j (by omega), by omega, by omega⟩
theorem gk_12 {ks : List Int} (hK : KindsIn ks) : greedy (mkp 12) ks = kidsB 12 ks := by
  refine bool_of ?_
  rw [greedy_one (p := mkp 12) (m := 1) (lo := 1) (hi := 1) rfl rfl]
  show _ ↔ (decide (ks.length = 1) && exprs ks 1) = true
  rw [Bool.and_eq_true, decide_eq_true_eq, exprs_iff]
  constructor
  · rintro ⟨h1, h2, h3⟩
    exact ⟨by omega, by omega, fun j hj => by rw [← (hit_of hK (j := j) (by omega)).1]; exact h1 j (by omega)⟩
  · rintro ⟨h1, h2, h3⟩
    exact ⟨fun j hj => by rw [(hit_of hK hj).1]; exact h3 j (by omega), by omega, by omega⟩
theorem gk_13 {ks : List Int} (hK : KindsIn ks) : greedy (mkp 13) ks = kidsB 13 ks := by
  refine bool_of ?_
  rw [greedy_one (p := mkp 13) (m := 1) (lo := 1) (hi := 1) rfl rfl]
  show _ ↔ (decide (ks.length = 1) && exprs ks 1) = true
  rw [Bool.and_eq_true, decide_eq_true_eq, exprs_iff]
  constructor
  · rintro ⟨h1, h2, h3⟩
    exact ⟨by omega, by omega, fun j hj => by rw [← (hit_of hK (j := j) (by omega)).1]; exact h1 j (by omega)⟩
  · rintro ⟨h1, h2, h3⟩
    exact ⟨fun j hj => by rw [(hit_of hK hj).1]; exact h3 j (by omega), by omega, by omega⟩
theorem gk_20 {ks : List Int} (hK : KindsIn ks) : greedy (mkp 20) ks = kidsB 20 ks := by
  refine bool_of ?_
  rw [greedy_one (p := mkp 20) (m := 1) (lo := 1) (hi := 1) rfl rfl]
  show _ ↔ (decide (ks.length = 1) && exprs ks 1) = true
  rw [Bool.and_eq_true, decide_eq_true_eq, exprs_iff]
  constructor
  · rintro ⟨h1, h2, h3⟩
    exact ⟨by omega, by omega, fun j hj => by rw [← (hit_of hK (j := j) (by omega)).1]; exact h1 j (by omega)⟩
  · rintro ⟨h1, h2, h3⟩
    exact ⟨fun j hj => by rw [(hit_of hK hj).1]; exact h3 j (by omega), by omega, by omega⟩
theorem gk_21 {ks : List Int} (hK : KindsIn ks) : greedy (mkp 21) ks = kidsB 21 ks := by
  refine bool_of ?_
  rw [greedy_one (p := mkp 21) (m := 1) (lo := 1) (hi := 1) rfl rfl]
  show _ ↔ (decide (ks.length = 1) && exprs ks 1) = true
  rw [Bool.and_eq_true, decide_eq_true_eq, exprs_iff]
  constructor
  · rintro ⟨h1, h2, h3⟩
    exact ⟨by omega, by omega, fun j hj => by rw [← (hit_of hK (j := j) (by omega)).1]; exact h1 j (by omega)⟩
  · rintro ⟨h1, h2, h3⟩
    exact ⟨fun j hj => by rw [(hit_of hK hj).1]; exact h3 j (by omega), by omega, by omega⟩
theorem gk_11 {ks : List Int} (hK : KindsIn ks) : greedy (mkp 11) ks = kidsB 11 ks := by
  refine bool_of ?_
  rw [greedy_one (p := mkp 11) (m := 1) (lo := 0) (hi := 8) rfl rfl]
  show _ ↔ (decide (ks.length ≤ 8) && exprs ks ks.length) = true
  rw [Bool.and_eq_true, decide_eq_true_eq, exprs_iff]
  constructor
  · rintro ⟨h1, h2, h3⟩
    exact ⟨by omega, by omega, fun j hj => by rw [← (hit_of hK (j := j) (by omega)).1]; exact h1 j (by omega)⟩
  · rintro ⟨h1, h2, h3⟩
    exact ⟨fun j hj => by rw [(hit_of hK hj).1]; exact h3 j (by omega), by omega, by omega⟩
theorem gk_15 {ks : List Int} (hK : KindsIn ks) : greedy (mkp 15) ks = kidsB 15 ks := by
  refine bool_of ?_
  have hd : ∀ j, j < ks.length → hitB (mkp 15 1).is (ks.getD j 0) = true → hitB (mkp 15 0).is (ks.getD j 0) = false := by
    intro j hj h
    have h4 : hitB 4 (ks.getD j 0) = true := h
    rw [(hit_of hK hj).2.2.1, decide_eq_true_eq] at h4
    show hitB 1 (ks.getD j 0) = false
    rw [(hit_of hK hj).1, h4]
    rfl
  rw [greedy_iff hd]
  show (∃ n, n ≤ ks.length ∧ (∀ j, j < n → hitB 1 (ks.getD j 0) = true) ∧ (∀ j, n ≤ j → j < ks.length → hitB 4 (ks.getD j 0) = true) ∧ ((1 : Int) ≤ (n : Int) ∧ (n : Int) ≤ 1) ∧ ((1 : Int) ≤ ((ks.length - n : Nat) : Int) ∧ ((ks.length - n : Nat) : Int) ≤ 2)) ↔ (exprs ks 1 && decide (2 ≤ ks.length) && alls (ks.drop 1) 23 2) = true
  rw [Bool.and_eq_true, Bool.and_eq_true, decide_eq_true_eq, exprs_iff, alls_iff, List.length_drop]
  constructor
  · rintro ⟨n, hn, hP, hQ, h1, h2⟩
    obtain rfl : n = 1 := by omega
    refine ⟨⟨⟨hn, fun j hj => by rw [← (hit_of hK (j := j) (by omega)).1]; exact hP j hj⟩, by omega⟩, fun j hj => ?_, by omega⟩
    have := hQ (1 + j) (by omega) (by omega)
    rw [(hit_of hK (by omega)).2.2.1, decide_eq_true_eq] at this
    rw [drop_get]
    exact this
  · rintro ⟨⟨⟨h1, h2⟩, h3⟩, h4, h5⟩
    refine ⟨1, h1, fun j hj => by rw [(hit_of hK (by omega)).1]; exact h2 j hj, fun j hj hl => ?_, by omega, by omega⟩
    have := h4 (j - 1) (by omega)
    rw [drop_get, show 1 + (j - 1) = j by omega] at this
    rw [(hit_of hK hl).2.2.1, decide_eq_true_eq]
    exact this
theorem gk_16 {ks : List Int} (hK : KindsIn ks) : greedy (mkp 16) ks = kidsB 16 ks := by
  refine bool_of ?_
  have hd : ∀ j, j < ks.length → hitB (mkp 16 1).is (ks.getD j 0) = true → hitB (mkp 16 0).is (ks.getD j 0) = false := by
    intro j hj h
    have h4 : hitB 4 (ks.getD j 0) = true := h
    rw [(hit_of hK hj).2.2.1, decide_eq_true_eq] at h4
    show hitB 1 (ks.getD j 0) = false
    rw [(hit_of hK hj).1, h4]
    rfl
  rw [greedy_iff hd]
  show (∃ n, n ≤ ks.length ∧ (∀ j, j < n → hitB 1 (ks.getD j 0) = true) ∧ (∀ j, n ≤ j → j < ks.length → hitB 4 (ks.getD j 0) = true) ∧ ((1 : Int) ≤ (n : Int) ∧ (n : Int) ≤ 1) ∧ ((1 : Int) ≤ ((ks.length - n : Nat) : Int) ∧ ((ks.length - n : Nat) : Int) ≤ 1)) ↔ (exprs ks 1 && decide (ks.length = 2) && alls (ks.drop 1) 23 1) = true
  rw [Bool.and_eq_true, Bool.and_eq_true, decide_eq_true_eq, exprs_iff, alls_iff, List.length_drop]
  constructor
  · rintro ⟨n, hn, hP, hQ, h1, h2⟩
    obtain rfl : n = 1 := by omega
    refine ⟨⟨⟨hn, fun j hj => by rw [← (hit_of hK (j := j) (by omega)).1]; exact hP j hj⟩, by omega⟩, fun j hj => ?_, by omega⟩
    have := hQ (1 + j) (by omega) (by omega)
    rw [(hit_of hK (by omega)).2.2.1, decide_eq_true_eq] at this
    rw [drop_get]
    exact this
  · rintro ⟨⟨⟨h1, h2⟩, h3⟩, h4, h5⟩
    refine ⟨1, h1, fun j hj => by rw [(hit_of hK (by omega)).1]; exact h2 j hj, fun j hj hl => ?_, by omega, by omega⟩
    have := h4 (j - 1) (by omega)
    rw [drop_get, show 1 + (j - 1) = j by omega] at this
    rw [(hit_of hK hl).2.2.1, decide_eq_true_eq]
    exact this
theorem gk_17 {ks : List Int} (hK : KindsIn ks) : greedy (mkp 17) ks = kidsB 17 ks := by
  refine bool_of ?_
  have hd : ∀ j, j < ks.length → hitB (mkp 17 1).is (ks.getD j 0) = true → hitB (mkp 17 0).is (ks.getD j 0) = false := by
    intro j hj h
    have h4 : hitB 4 (ks.getD j 0) = true := h
    rw [(hit_of hK hj).2.2.1, decide_eq_true_eq] at h4
    show hitB 1 (ks.getD j 0) = false
    rw [(hit_of hK hj).1, h4]
    rfl
  rw [greedy_iff hd]
  show (∃ n, n ≤ ks.length ∧ (∀ j, j < n → hitB 1 (ks.getD j 0) = true) ∧ (∀ j, n ≤ j → j < ks.length → hitB 4 (ks.getD j 0) = true) ∧ ((2 : Int) ≤ (n : Int) ∧ (n : Int) ≤ 2) ∧ ((1 : Int) ≤ ((ks.length - n : Nat) : Int) ∧ ((ks.length - n : Nat) : Int) ≤ 1)) ↔ (exprs ks 2 && decide (ks.length = 3) && alls (ks.drop 2) 23 1) = true
  rw [Bool.and_eq_true, Bool.and_eq_true, decide_eq_true_eq, exprs_iff, alls_iff, List.length_drop]
  constructor
  · rintro ⟨n, hn, hP, hQ, h1, h2⟩
    obtain rfl : n = 2 := by omega
    refine ⟨⟨⟨hn, fun j hj => by rw [← (hit_of hK (j := j) (by omega)).1]; exact hP j hj⟩, by omega⟩, fun j hj => ?_, by omega⟩
    have := hQ (2 + j) (by omega) (by omega)
    rw [(hit_of hK (by omega)).2.2.1, decide_eq_true_eq] at this
    rw [drop_get]
    exact this
  · rintro ⟨⟨⟨h1, h2⟩, h3⟩, h4, h5⟩
    refine ⟨2, h1, fun j hj => by rw [(hit_of hK (by omega)).1]; exact h2 j hj, fun j hj hl => ?_, by omega, by omega⟩
    have := h4 (j - 2) (by omega)
    rw [drop_get, show 2 + (j - 2) = j by omega] at this
    rw [(hit_of hK hl).2.2.1, decide_eq_true_eq]
    exact this
theorem gk_22 {ks : List Int} (hK : KindsIn ks) : greedy (mkp 22) ks = kidsB 22 ks := by
  refine bool_of ?_
  rw [greedy_one (p := mkp 22) (m := 8) (lo := 1) (hi := 1) rfl rfl]
  show _ ↔ (decide (ks.length = 1) && decide (ks.getD 0 0 = 11)) = true
  rw [Bool.and_eq_true, decide_eq_true_eq, decide_eq_true_eq]
  constructor
  · rintro ⟨h1, h2, h3⟩
    refine ⟨by omega, ?_⟩
    have := h1 0 (by omega)
    rw [(hit_of hK (by omega)).2.2.2.1, decide_eq_true_eq] at this
    exact this
  · rintro ⟨h1, h2⟩
    refine ⟨fun j hj => ?_, by omega, by omega⟩
    obtain rfl : j = 0 := by omega
    rw [(hit_of hK hj).2.2.2.1, decide_eq_true_eq]
    exact h2
theorem gk_23 {ks : List Int} (hK : KindsIn ks) (hl : ks.length ≤ 9223372036854775807) : greedy (mkp 23) ks = kidsB 23 ks := by
  refine bool_of ?_
  rw [greedy_one (p := mkp 23) (m := 2) (lo := 0) (hi := 9223372036854775807) rfl rfl]
  show _ ↔ ks.all isSt = true
  rw [sts_iff]
  constructor
  · rintro ⟨h1, _⟩ j hj
    rw [← (hit_of hK hj).2.1]
    exact h1 j hj
  · intro h
    exact ⟨fun j hj => by rw [(hit_of hK hj).2.1]; exact h j hj, by omega, by omega⟩
theorem gk_25 {ks : List Int} (hK : KindsIn ks) : greedy (mkp 25) ks = kidsB 25 ks := by
  refine bool_of ?_
  have hd : ∀ j, j < ks.length → hitB (mkp 25 1).is (ks.getD j 0) = true → hitB (mkp 25 0).is (ks.getD j 0) = false := by
    intro j hj h
    have h4 : hitB 4 (ks.getD j 0) = true := h
    rw [(hit_of hK hj).2.2.1, decide_eq_true_eq] at h4
    show hitB 16 (ks.getD j 0) = false
    rw [(hit_of hK hj).2.2.2.2.1, h4]
    rfl
  rw [greedy_iff hd]
  show (∃ n, n ≤ ks.length ∧ (∀ j, j < n → hitB 16 (ks.getD j 0) = true) ∧ (∀ j, n ≤ j → j < ks.length → hitB 4 (ks.getD j 0) = true) ∧ ((0 : Int) ≤ (n : Int) ∧ (n : Int) ≤ 8) ∧ ((1 : Int) ≤ ((ks.length - n : Nat) : Int) ∧ ((ks.length - n : Nat) : Int) ≤ 1)) ↔ (decide (1 ≤ ks.length) && alls (ks.take (ks.length - 1)) 24 8 && decide (ks.getD (ks.length - 1) 0 = 23)) = true
  rw [Bool.and_eq_true, Bool.and_eq_true, decide_eq_true_eq, decide_eq_true_eq, alls_iff, List.length_take]
  constructor
  · rintro ⟨n, hn, hP, hQ, h1, h2⟩
    have e : ks.length - 1 = n := by omega
    rw [e]
    refine ⟨⟨by omega, fun j hj => ?_, by omega⟩, ?_⟩
    · have := hP j (by omega)
      rw [(hit_of hK (by omega)).2.2.2.2.1, decide_eq_true_eq] at this
      rw [take_get ks n j (by omega)]
      exact this
    · have := hQ n (Nat.le_refl _) (by omega)
      rw [(hit_of hK (by omega)).2.2.1, decide_eq_true_eq] at this
      exact this
  · rintro ⟨⟨h1, h2, h3⟩, h4⟩
    refine ⟨ks.length - 1, by omega, fun j hj => ?_, fun j hj hl => ?_, by omega, by omega⟩
    · have := h2 j (by omega)
      rw [take_get ks _ j (by omega)] at this
      rw [(hit_of hK (by omega)).2.2.2.2.1, decide_eq_true_eq]
      exact this
    · obtain rfl : j = ks.length - 1 := by omega
      rw [(hit_of hK hl).2.2.1, decide_eq_true_eq]
      exact h4
theorem gk_26 {ks : List Int} (hK : KindsIn ks) : greedy (mkp 26) ks = kidsB 26 ks := by
  refine bool_of ?_
  rw [greedy_one (p := mkp 26) (m := 32) (lo := 0) (hi := 200) rfl rfl]
  show _ ↔ alls ks 25 200 = true
  rw [alls_iff]
  constructor
  · rintro ⟨h1, h2, h3⟩
    refine ⟨fun j hj => ?_, by omega⟩
    have := h1 j hj
    rw [(hit_of hK hj).2.2.2.2.2, decide_eq_true_eq] at this
    exact this
  · rintro ⟨h1, h2⟩
    exact ⟨fun j hj => by rw [(hit_of hK hj).2.2.2.2.2, decide_eq_true_eq]; exact h1 j hj, by omega, by omega⟩
theorem gk_1 {ks : List Int} (hK : KindsIn ks) : greedy (mkp 1) ks = kidsB 1 ks := by
  refine bool_of ?_
  rw [greedy_one (p := mkp 1) (m := 0) (lo := 0) (hi := 0) rfl rfl]
  show _ ↔ decide (ks.length = 0) = true
  rw [decide_eq_true_eq]
  constructor
  · rintro ⟨h1, h2, h3⟩
    omega
  · intro h
    exact ⟨fun j hj => by omega, by omega, by omega⟩
theorem gk_2 {ks : List Int} (hK : KindsIn ks) : greedy (mkp 2) ks = kidsB 2 ks := by
  refine bool_of ?_
  rw [greedy_one (p := mkp 2) (m := 0) (lo := 0) (hi := 0) rfl rfl]
  show _ ↔ decide (ks.length = 0) = true
  rw [decide_eq_true_eq]
  constructor
  · rintro ⟨h1, h2, h3⟩
    omega
  · intro h
    exact ⟨fun j hj => by omega, by omega, by omega⟩
theorem gk_3 {ks : List Int} (hK : KindsIn ks) : greedy (mkp 3) ks = kidsB 3 ks := by
  refine bool_of ?_
  rw [greedy_one (p := mkp 3) (m := 0) (lo := 0) (hi := 0) rfl rfl]
  show _ ↔ decide (ks.length = 0) = true
  rw [decide_eq_true_eq]
  constructor
  · rintro ⟨h1, h2, h3⟩
    omega
  · intro h
    exact ⟨fun j hj => by omega, by omega, by omega⟩
theorem gk_4 {ks : List Int} (hK : KindsIn ks) : greedy (mkp 4) ks = kidsB 4 ks := by
  refine bool_of ?_
  rw [greedy_one (p := mkp 4) (m := 0) (lo := 0) (hi := 0) rfl rfl]
  show _ ↔ decide (ks.length = 0) = true
  rw [decide_eq_true_eq]
  constructor
  · rintro ⟨h1, h2, h3⟩
    omega
  · intro h
    exact ⟨fun j hj => by omega, by omega, by omega⟩
theorem gk_18 {ks : List Int} (hK : KindsIn ks) : greedy (mkp 18) ks = kidsB 18 ks := by
  refine bool_of ?_
  rw [greedy_one (p := mkp 18) (m := 0) (lo := 0) (hi := 0) rfl rfl]
  show _ ↔ decide (ks.length = 0) = true
  rw [decide_eq_true_eq]
  constructor
  · rintro ⟨h1, h2, h3⟩
    omega
  · intro h
    exact ⟨fun j hj => by omega, by omega, by omega⟩
theorem gk_19 {ks : List Int} (hK : KindsIn ks) : greedy (mkp 19) ks = kidsB 19 ks := by
  refine bool_of ?_
  rw [greedy_one (p := mkp 19) (m := 0) (lo := 0) (hi := 0) rfl rfl]
  show _ ↔ decide (ks.length = 0) = true
  rw [decide_eq_true_eq]
  constructor
  · rintro ⟨h1, h2, h3⟩
    omega
  · intro h
    exact ⟨fun j hj => by omega, by omega, by omega⟩
theorem gk_24 {ks : List Int} (hK : KindsIn ks) : greedy (mkp 24) ks = kidsB 24 ks := by
  refine bool_of ?_
  rw [greedy_one (p := mkp 24) (m := 0) (lo := 0) (hi := 0) rfl rfl]
  show _ ↔ decide (ks.length = 0) = true
  rw [decide_eq_true_eq]
  constructor
  · rintro ⟨h1, h2, h3⟩
    omega
  · intro h
    exact ⟨fun j hj => by omega, by omega, by omega⟩
theorem greedy_kids : ∀ (k : Nat) {ks : List Int}, 1 ≤ k → k ≤ 26 → KindsIn ks → ks.length ≤ 9223372036854775807 → greedy (mkp k) ks = kidsB (k : Int) ks
  | 0, ks, h1, _, _, _ => by omega
  | 1, ks, _, _, hK, hl => gk_1 hK
  | 2, ks, _, _, hK, hl => gk_2 hK
  | 3, ks, _, _, hK, hl => gk_3 hK
  | 4, ks, _, _, hK, hl => gk_4 hK
  | 5, ks, _, _, hK, hl => gk_5 hK
  | 6, ks, _, _, hK, hl => gk_6 hK
  | 7, ks, _, _, hK, hl => gk_7 hK
  | 8, ks, _, _, hK, hl => gk_8 hK
  | 9, ks, _, _, hK, hl => gk_9 hK
  | 10, ks, _, _, hK, hl => gk_10 hK
  | 11, ks, _, _, hK, hl => gk_11 hK
  | 12, ks, _, _, hK, hl => gk_12 hK
  | 13, ks, _, _, hK, hl => gk_13 hK
  | 14, ks, _, _, hK, hl => gk_14 hK
  | 15, ks, _, _, hK, hl => gk_15 hK
  | 16, ks, _, _, hK, hl => gk_16 hK
  | 17, ks, _, _, hK, hl => gk_17 hK
  | 18, ks, _, _, hK, hl => gk_18 hK
  | 19, ks, _, _, hK, hl => gk_19 hK
  | 20, ks, _, _, hK, hl => gk_20 hK
  | 21, ks, _, _, hK, hl => gk_21 hK
  | 22, ks, _, _, hK, hl => gk_22 hK
  | 23, ks, _, _, hK, hl => gk_23 hK hl
  | 24, ks, _, _, hK, hl => gk_24 hK
  | 25, ks, _, _, hK, hl => gk_25 hK
  | 26, ks, _, _, hK, hl => gk_26 hK
  | n + 27, ks, _, h, _, _ => by omega
theorem lim_num : ∀ (k : Nat) (n : Int), 1 ≤ k → k ≤ 26 → n ≤ 9223372036854775807 → btw (lim (numOf k)).1 (lim (numOf k)).2 n = numB (k : Int) n
  | 0, n, h1, _, _ => by omega
  | 1, n, _, _, h => by show (decide ((0 : Int) ≤ n) && decide (n ≤ (9223372036854775807 : Int))) = decide (0 ≤ n); first | rfl | (rw [Bool.eq_iff_iff]; simp; done) | (rw [Bool.eq_iff_iff]; simp; omega)
  | 2, n, _, _, h => by show (decide ((0 : Int) ≤ n) && decide (n ≤ (1 : Int))) = (decide (n = 0) || decide (n = 1)); first | rfl | (rw [Bool.eq_iff_iff]; simp; done) | (rw [Bool.eq_iff_iff]; simp; omega)
  | 3, n, _, _, h => by show (decide ((0 : Int) ≤ n) && decide (n ≤ (0 : Int))) = decide (n = 0); first | rfl | (rw [Bool.eq_iff_iff]; simp; done) | (rw [Bool.eq_iff_iff]; simp; omega)
  | 4, n, _, _, h => by show (decide ((0 : Int) ≤ n) && decide (n ≤ (0 : Int))) = decide (n = 0); first | rfl | (rw [Bool.eq_iff_iff]; simp; done) | (rw [Bool.eq_iff_iff]; simp; omega)
  | 5, n, _, _, h => by show (decide ((1 : Int) ≤ n) && decide (n ≤ (16 : Int))) = (decide (1 ≤ n) && decide (n ≤ 16)); first | rfl | (rw [Bool.eq_iff_iff]; simp; done) | (rw [Bool.eq_iff_iff]; simp; omega)
  | 6, n, _, _, h => by show (decide ((0 : Int) ≤ n) && decide (n ≤ (0 : Int))) = decide (n = 0); first | rfl | (rw [Bool.eq_iff_iff]; simp; done) | (rw [Bool.eq_iff_iff]; simp; omega)
  | 7, n, _, _, h => by show (decide ((0 : Int) ≤ n) && decide (n ≤ (0 : Int))) = decide (n = 0); first | rfl | (rw [Bool.eq_iff_iff]; simp; done) | (rw [Bool.eq_iff_iff]; simp; omega)
  | 8, n, _, _, h => by show (decide ((0 : Int) ≤ n) && decide (n ≤ (0 : Int))) = decide (n = 0); first | rfl | (rw [Bool.eq_iff_iff]; simp; done) | (rw [Bool.eq_iff_iff]; simp; omega)
  | 9, n, _, _, h => by show (decide ((0 : Int) ≤ n) && decide (n ≤ (0 : Int))) = decide (n = 0); first | rfl | (rw [Bool.eq_iff_iff]; simp; done) | (rw [Bool.eq_iff_iff]; simp; omega)
  | 10, n, _, _, h => by show (decide ((0 : Int) ≤ n) && decide (n ≤ (0 : Int))) = decide (n = 0); first | rfl | (rw [Bool.eq_iff_iff]; simp; done) | (rw [Bool.eq_iff_iff]; simp; omega)
  | 11, n, _, _, h => by show (decide ((0 : Int) ≤ n) && decide (n ≤ (0 : Int))) = decide (n = 0); first | rfl | (rw [Bool.eq_iff_iff]; simp; done) | (rw [Bool.eq_iff_iff]; simp; omega)
  | 12, n, _, _, h => by show (decide ((0 : Int) ≤ n) && decide (n ≤ (0 : Int))) = decide (n = 0); first | rfl | (rw [Bool.eq_iff_iff]; simp; done) | (rw [Bool.eq_iff_iff]; simp; omega)
  | 13, n, _, _, h => by show (decide ((0 : Int) ≤ n) && decide (n ≤ (0 : Int))) = decide (n = 0); first | rfl | (rw [Bool.eq_iff_iff]; simp; done) | (rw [Bool.eq_iff_iff]; simp; omega)
  | 14, n, _, _, h => by show (decide ((0 : Int) ≤ n) && decide (n ≤ (0 : Int))) = decide (n = 0); first | rfl | (rw [Bool.eq_iff_iff]; simp; done) | (rw [Bool.eq_iff_iff]; simp; omega)
  | 15, n, _, _, h => by show (decide ((0 : Int) ≤ n) && decide (n ≤ (0 : Int))) = decide (n = 0); first | rfl | (rw [Bool.eq_iff_iff]; simp; done) | (rw [Bool.eq_iff_iff]; simp; omega)
  | 16, n, _, _, h => by show (decide ((0 : Int) ≤ n) && decide (n ≤ (0 : Int))) = decide (n = 0); first | rfl | (rw [Bool.eq_iff_iff]; simp; done) | (rw [Bool.eq_iff_iff]; simp; omega)
  | 17, n, _, _, h => by show (decide ((0 : Int) ≤ n) && decide (n ≤ (0 : Int))) = decide (n = 0); first | rfl | (rw [Bool.eq_iff_iff]; simp; done) | (rw [Bool.eq_iff_iff]; simp; omega)
  | 18, n, _, _, h => by show (decide ((0 : Int) ≤ n) && decide (n ≤ (0 : Int))) = decide (n = 0); first | rfl | (rw [Bool.eq_iff_iff]; simp; done) | (rw [Bool.eq_iff_iff]; simp; omega)
  | 19, n, _, _, h => by show (decide ((0 : Int) ≤ n) && decide (n ≤ (0 : Int))) = decide (n = 0); first | rfl | (rw [Bool.eq_iff_iff]; simp; done) | (rw [Bool.eq_iff_iff]; simp; omega)
  | 20, n, _, _, h => by show (decide ((0 : Int) ≤ n) && decide (n ≤ (0 : Int))) = decide (n = 0); first | rfl | (rw [Bool.eq_iff_iff]; simp; done) | (rw [Bool.eq_iff_iff]; simp; omega)
  | 21, n, _, _, h => by show (decide ((0 : Int) ≤ n) && decide (n ≤ (0 : Int))) = decide (n = 0); first | rfl | (rw [Bool.eq_iff_iff]; simp; done) | (rw [Bool.eq_iff_iff]; simp; omega)
  | 22, n, _, _, h => by show (decide ((0 : Int) ≤ n) && decide (n ≤ (0 : Int))) = decide (n = 0); first | rfl | (rw [Bool.eq_iff_iff]; simp; done) | (rw [Bool.eq_iff_iff]; simp; omega)
  | 23, n, _, _, h => by show (decide ((0 : Int) ≤ n) && decide (n ≤ (0 : Int))) = decide (n = 0); first | rfl | (rw [Bool.eq_iff_iff]; simp; done) | (rw [Bool.eq_iff_iff]; simp; omega)
  | 24, n, _, _, h => by show (decide ((1 : Int) ≤ n) && decide (n ≤ (3 : Int))) = (decide (1 ≤ n) && decide (n ≤ 3)); first | rfl | (rw [Bool.eq_iff_iff]; simp; done) | (rw [Bool.eq_iff_iff]; simp; omega)
  | 25, n, _, _, h => by show (decide ((1 : Int) ≤ n) && decide (n ≤ (3 : Int))) = (decide (1 ≤ n) && decide (n ≤ 3)); first | rfl | (rw [Bool.eq_iff_iff]; simp; done) | (rw [Bool.eq_iff_iff]; simp; omega)
  | 26, n, _, _, h => by show (decide ((0 : Int) ≤ n) && decide (n ≤ (0 : Int))) = decide (n = 0); first | rfl | (rw [Bool.eq_iff_iff]; simp; done) | (rw [Bool.eq_iff_iff]; simp; omega)
  | n + 27, _, _, h, _ => by omega
/-- by the table and by the document -/
theorem fitT_eq {l : List Nd} {x : Nd} (hK : KindsIn (kd l x.kids)) (hn : x.n ≤ 9223372036854775807) (hl : x.kids.length ≤ 9223372036854775807) : fitT l x = fitB l x := by
  unfold fitT fitB
  by_cases h : x.kind < 1 ∨ 26 < x.kind ∨ x.at_ < 0
  · rw [if_pos h, ownB_not (by omega)]
    rfl
  · rw [if_neg h]
    obtain ⟨k, hk⟩ : ∃ k : Nat, x.kind = (k : Int) := ⟨x.kind.toNat, by omega⟩
    have h1 : 1 ≤ k := by omega
    have h2 : k ≤ 26 := by omega
    unfold ownB
    rw [decide_eq_true (show 1 ≤ x.kind by omega), decide_eq_true (show x.kind ≤ 26 by omega), decide_eq_true (show 0 ≤ x.at_ by omega), hk, Int.toNat_natCast, lim_num k x.n h1 h2 hn, greedy_kids k h1 h2 hK (by rw [kd_length]; exact hl), namOf_eq k (by omega)]
    show _ = (true && true && true && (if namOf k = true then nameB x.t else decide (x.t = [])) && numB (k : Int) x.n && kidsB (k : Int) (kd l x.kids))
    cases (if namOf k = true then nameB x.t else decide (x.t = [])) <;> simp
/-- fits tells what the document says -/
theorem fits_any (a : Option Addr) (c : Nat) (l : List Nd) (x : Nd) (w : World) (hT : Tabs w) (hN : Nodes w a l) (hx : Ok w x) (hI : InL l x.kids) (hKn : KindsIn (kd l x.kids)) (hll : l.length ≤ 9223372036854775807) :
    Calls Tryd.prog 27 #[.slice a l.length c, x.v] w fun e w' => e = .returned (.bool (fitB l x)) ∧ Below w.heap.size w w' := by
  have h := fitsT_any a c l x w hT hN hx hI hKn hll
  have hl := hx.len
  rw [fitT_eq hKn hx.n1 (by omega)] at h
  exact h
end Go.Proofs.YtihcepkdihmjoaaDoor
