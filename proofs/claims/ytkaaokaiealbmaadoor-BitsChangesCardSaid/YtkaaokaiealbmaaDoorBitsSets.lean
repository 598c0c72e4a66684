/- Sets as lists of numbers, and as words: what is in the one is in the other. No program. -/
import Derived.Test.YtkaaokaiealbmaaDoorBitsWords
namespace Go.Proofs.YtkaaokaiealbmaaDoor
open Go.RowKit
set_option linter.unusedVariables false

theorem mem_setL {n : Nat} {A : Nat → Nat} {z : Int} : z ∈ setL n A ↔ ∃ i : Nat, i < 64 * n ∧ (A (i / 64)).testBit (i % 64) = true ∧ z = (i : Int) := by
  unfold setL
  rw [List.mem_map]
  constructor
  · rintro ⟨i, hi, rfl⟩
    rw [List.mem_filter, List.mem_range] at hi
    exact ⟨i, hi.1, hi.2, rfl⟩
  · rintro ⟨i, h1, h2, rfl⟩
    exact ⟨i, by rw [List.mem_filter, List.mem_range]; exact ⟨h1, h2⟩, rfl⟩
theorem mem_setL_at {n j t : Nat} {A : Nat → Nat} (ht : t < 64) : ((64 * j + t : Nat) : Int) ∈ setL n A ↔ (wd n A j).testBit t = true := by
  rw [mem_setL]
  constructor
  · rintro ⟨i, h1, h2, h3⟩
    have : i = 64 * j + t := by omega
    subst this
    rw [show (64 * j + t) / 64 = j by omega, show (64 * j + t) % 64 = t by omega] at h2
    rw [wd_in (by omega)]
    exact h2
  · intro h
    by_cases hj : j < n
    · rw [wd_in hj] at h
      exact ⟨64 * j + t, by omega, by rw [show (64 * j + t) / 64 = j by omega, show (64 * j + t) % 64 = t by omega]; exact h, rfl⟩
    · rw [wd_out hj] at h; simp at h
theorem setL_sorted (n : Nat) (A : Nat → Nat) : (setL n A).Pairwise (· < ·) := by
  unfold setL
  rw [List.pairwise_map]
  refine List.Pairwise.imp ?_ (List.Pairwise.filter _ List.pairwise_lt_range)
  intro a b h
  omega
theorem setL_le (n : Nat) (A : Nat → Nat) : (setL n A).length ≤ 64 * n := by rw [setL_length]; exact tally_le n A
/-- is z among the numbers of a list? -/
theorem isIn_list (xs : List Int) (z : Int) : isIn xs.length (fun j => xs.getD j 0) z = decide (z ∈ xs) := by
  unfold isIn
  exact decide_eq_decide.2 in_list
theorem bool_iff {p : Prop} [Decidable p] {b : Bool} (h : p ↔ b = true) : decide p = b := by
  by_cases hp : p
  · rw [decide_eq_true hp, h.1 hp]
  · rw [decide_eq_false hp]
    cases b
    · rfl
    · exact absurd (h.2 rfl) hp
/-- the words of a list are those of a set, if the same numbers are in both -/
theorem words_of {xs : List Int} {W : Nat → Nat} {N : Nat} (hW : ∀ j, W j < 18446744073709551616) (h : ∀ j t, j < N → t < 64 → (((64 * j + t : Nat) : Int) ∈ xs ↔ (W j).testBit t = true)) :
    allEq N (fun j => (W j : Int)) (fun i => (part (isIn xs.length (fun j => xs.getD j 0)) i 64 : Int)) = true := by
  refine allEq_true fun j hj => ?_
  have e : part (isIn xs.length (fun j => xs.getD j 0)) j 64 = W j := by
    refine part_eq (hW j) fun t ht => ?_
    rw [isIn_list]
    exact (bool_iff (h j t hj ht)).symm
  rw [e]
theorem or_lt64 {a b : Nat} (ha : a < 18446744073709551616) (hb : b < 18446744073709551616) : a ||| b < 18446744073709551616 := Nat.or_lt_two_pow (n := 64) ha hb
theorem joins_or {n m : Nat} {A B : Nat → Nat} (hA : ∀ j, A j < 18446744073709551616) (hB : ∀ j, B j < 18446744073709551616) (xs : List Int) (hx : ∀ z, z ∈ xs ↔ z ∈ setL n A ∨ z ∈ setL m B) (N : Nat) :
    allEq N (fun j => ((wd n A j ||| wd m B j : Nat) : Int)) (fun i => (part (isIn xs.length (fun j => xs.getD j 0)) i 64 : Int)) = true := by
  refine words_of (W := fun j => wd n A j ||| wd m B j) (fun j => or_lt64 (wd_lt hA j) (wd_lt hB j)) fun j t hj ht => ?_
  rw [hx, mem_setL_at ht, mem_setL_at ht, Nat.testBit_or, Bool.or_eq_true]
theorem joins_and {n m : Nat} {A B : Nat → Nat} (hA : ∀ j, A j < 18446744073709551616) (xs : List Int) (hx : ∀ z, z ∈ xs ↔ z ∈ setL n A ∧ z ∈ setL m B) :
    allEq (min n m) (fun j => ((A j &&& B j : Nat) : Int)) (fun i => (part (isIn xs.length (fun j => xs.getD j 0)) i 64 : Int)) = true := by
  refine words_of (W := fun j => A j &&& B j) (fun j => Nat.lt_of_le_of_lt Nat.and_le_left (hA j)) fun j t hj ht => ?_
  rw [hx, mem_setL_at ht, mem_setL_at ht, wd_in (by omega), wd_in (by omega), Nat.testBit_and, Bool.and_eq_true]
theorem joins_less {n m : Nat} {A B : Nat → Nat} (hA : ∀ j, A j < 18446744073709551616) (hB : ∀ j, B j < 18446744073709551616) (xs : List Int) (hx : ∀ z, z ∈ xs ↔ z ∈ setL n A ∧ ¬ z ∈ setL m B) :
    allEq n (fun j => ((A j &&& (18446744073709551615 - wd m B j) : Nat) : Int)) (fun i => (part (isIn xs.length (fun j => xs.getD j 0)) i 64 : Int)) = true := by
  refine words_of (W := fun j => A j &&& (18446744073709551615 - wd m B j)) (fun j => Nat.lt_of_le_of_lt Nat.and_le_left (hA j)) fun j t hj ht => ?_
  rw [hx, mem_setL_at ht, mem_setL_at ht, wd_in hj, Nat.testBit_and, not_bit _ _ (wd_lt hB j) ht]
  cases (A j).testBit t <;> cases (wd m B j).testBit t <;> simp
theorem list_eqB (xs ys : List Int) : (decide (xs.length = ys.length) && allEq xs.length (fun j => xs.getD j 0) (fun j => ys.getD j 0)) = decide (xs = ys) := by
  by_cases h : xs = ys
  · subst h
    rw [allEq_true (fun j _ => rfl)]
    simp
  · rw [decide_eq_false h]
    by_cases hl : xs.length = ys.length
    · have : ∃ k, k < xs.length ∧ xs.getD k 0 ≠ ys.getD k 0 := by
        apply Classical.byContradiction
        intro hn
        apply h
        apply List.ext_getElem hl
        intro i h1 h2
        apply Classical.byContradiction
        intro he
        apply hn
        refine ⟨i, h1, ?_⟩
        rw [List.getD_eq_getElem?_getD, List.getD_eq_getElem?_getD, List.getElem?_eq_getElem h1, List.getElem?_eq_getElem h2]
        exact he
      obtain ⟨k, hk, he⟩ := this
      rw [allEq_false hk he]
      simp
    · simp [hl]
theorem joins_same {n m : Nat} {A B : Nat → Nat} (hA : ∀ j, A j < 18446744073709551616) (hB : ∀ j, B j < 18446744073709551616) : sameW n A m B = decide (setL n A = setL m B) := by
  by_cases h : ∀ j, wd n A j = wd m B j
  · have e : setL n A = setL m B := by
      refine sorted_unique _ _ (setL_sorted n A) (setL_sorted m B) fun z => ?_
      have key : ∀ (p q : Nat) (C D : Nat → Nat), (∀ j, wd p C j = wd q D j) → z ∈ setL p C → z ∈ setL q D := by
        intro p q C D hcd hz
        obtain ⟨i, h1, h2, rfl⟩ := mem_setL.1 hz
        have e1 : ((i : Nat) : Int) = ((64 * (i / 64) + i % 64 : Nat) : Int) := by omega
        rw [e1] at hz ⊢
        rw [mem_setL_at (Nat.mod_lt _ (by omega))] at hz ⊢
        rw [← hcd]; exact hz
      exact ⟨key n m A B h, key m n B A (fun j => (h j).symm)⟩
    rw [decide_eq_true e]
    exact allEq_true fun j hj => by rw [h j]
  · have hne : setL n A ≠ setL m B := by
      intro e
      apply h
      intro j
      apply Nat.eq_of_testBit_eq
      intro t
      by_cases ht : t < 64
      · have e1 := mem_setL_at (n := n) (j := j) (A := A) ht
        have e2 := mem_setL_at (n := m) (j := j) (A := B) ht
        rw [e] at e1
        have := e1.symm.trans e2
        cases h1 : (wd n A j).testBit t <;> cases h2 : (wd m B j).testBit t <;> simp_all
      · rw [high_false (wd_lt hA j) (by omega), high_false (wd_lt hB j) (by omega)]
    rw [decide_eq_false hne]
    have : ∃ k, k < max n m ∧ wd n A k ≠ wd m B k := by
      apply Classical.byContradiction
      intro hn
      apply h
      intro j
      by_cases hj : j < max n m
      · apply Classical.byContradiction
        intro he
        exact hn ⟨j, hj, he⟩
      · rw [wd_out (by omega), wd_out (by omega)]
    obtain ⟨k, hk, he⟩ := this
    exact allEq_false hk (fun h => he (Int.ofNat_inj.1 h))

end Go.Proofs.YtkaaokaiealbmaaDoor
