/- What putting in and taking out does to a set's list; a list that stays while the set is written. -/
import Derived.Test.YtkaaokaiealbmaaDoorBitsMore
namespace Go.Proofs.YtkaaokaiealbmaaDoor
open Go.RowKit
set_option linter.unusedVariables false

/-- v is a list of one's own whose block is B or later -/
def Now (B : Nat) (w : World) (v : Value) (xs : List Int) : Prop := w.ownsRow B 3 1 v xs.length (xs.map (Value.int .i64))
theorem Now.shape {B : Nat} {w : World} {v : Value} {xs : List Int} (h : Now B w v xs) : ∃ a cap, v = .slice a xs.length cap ∧ Rows' .i64 w a xs.length (fun j => xs.getD j 0) ∧ (a = none → xs.length = 0 ∧ cap = 0) := by
  obtain ⟨a, cap, rfl, hr⟩ := Rows'.own h
  refine ⟨a, cap, rfl, hr, ?_⟩
  rintro rfl
  rcases h.2 with ⟨h1, h2⟩ | ⟨g, cap', cur, h1, _⟩
  · injection h1 with _ h3 h4; exact ⟨h3, h4⟩
  · injection h1 with h2; cases h2
theorem Now.of_built {B : Nat} {w0 w : World} {v : Value} {xs : List Int} (h : Built w0 w v xs) (hB : B ≤ w0.heap.size) : Now B w v xs := by
  refine ⟨h.1.1, ?_⟩
  rcases h.1.2 with h1 | ⟨g, cap, cur, h1, h2, r⟩
  · exact .inl h1
  · exact .inr ⟨g, cap, cur, h1, Nat.le_trans hB h2, r⟩
theorem Now.block {B : Nat} {w w' : World} {v : Value} {xs : List Int} (h : Now B w v xs) (hb : ∀ k, B ≤ k → k < w.heap.size → w'.heap[k]? = w.heap[k]?) : Now B w' v xs := by
  refine ⟨h.1, ?_⟩
  rcases h.2 with h1 | ⟨g, cap, cur, h1, h2, h3, r⟩
  · exact .inl h1
  · refine .inr ⟨g, cap, cur, h1, h2, ?_, r⟩
    have hlt : g < w.heap.size := by
      obtain ⟨hlt, _⟩ := Array.getElem?_eq_some_iff.1 h3
      exact hlt
    rw [hb g h2 hlt]; exact h3
theorem Now.but {B g : Nat} {w w' : World} {v : Value} {xs : List Int} (h : Now B w v xs) (hb : But g w w') (hg : g < B) : Now B w' v xs := h.block fun k hk _ => hb.block k (by omega)
theorem Now.below {B : Nat} {w w' : World} {v : Value} {xs : List Int} (h : Now B w v xs) (hb : Below w.heap.size w w') : Now B w' v xs := h.block fun k _ hk => hb.block k hk

theorem hasB_mem (n : Nat) (A : Nat → Nat) (x : Int) : decide (x ∈ setL n A) = hasB n A x := by
  apply bool_iff
  rw [mem_setL]
  unfold hasB
  rw [Bool.and_eq_true, decide_eq_true_iff]
  constructor
  · rintro ⟨i, h1, h2, rfl⟩
    exact ⟨by omega, by simpa using h2⟩
  · rintro ⟨h1, h2⟩
    exact ⟨x.toNat, by omega, h2, by omega⟩
theorem keep_filter (t : Int → Bool) (xs : List Int) : keep t (fun j => xs.getD j 0) xs.length = xs.filter t := by
  have key : ∀ k, k ≤ xs.length → keep t (fun j => xs.getD j 0) k = (xs.take k).filter t := by
    intro k
    induction k with
    | zero => intro _; simp [keep]
    | succ k ih =>
      intro hk
      show keep t (fun j => xs.getD j 0) k ++ (if t (xs.getD k 0) then [xs.getD k 0] else []) = _
      rw [ih (by omega), take_getD xs k (by omega), List.filter_append]
      congr 1
      by_cases h : t (xs.getD k 0) = true
      · simp only [h, if_true, List.filter_cons, List.filter_nil]
      · simp only [h, List.filter_cons, List.filter_nil]
  rw [key xs.length (Nat.le_refl _), List.take_length]
theorem isIn_one (x z : Int) : isIn 1 (fun j => ([x] : List Int).getD j 0) z = decide (z = x) := by
  have h := isIn_list [x] z
  rw [List.length_singleton] at h
  rw [h]
  exact decide_eq_decide.2 (by simp)
theorem dropW_bit (A : Nat → Nat) (i j t : Nat) (ht : t < 64) : (dropW A i j).testBit t = ((A j).testBit t && !decide (j = i / 64 ∧ t = i % 64)) := by
  unfold dropW
  by_cases h : j = i / 64
  · rw [if_pos h, Nat.testBit_and, not_bit _ _ (pow_lt64 i) ht]
    unfold pw
    rw [Nat.testBit_two_pow]
    congr 2
    by_cases h2 : t = i % 64
    · rw [decide_eq_true (show j = i / 64 ∧ t = i % 64 from ⟨h, h2⟩), decide_eq_true h2.symm]
    · rw [decide_eq_false (show ¬ (j = i / 64 ∧ t = i % 64) from fun e => h2 e.2), decide_eq_false (fun e => h2 e.symm)]
  · rw [if_neg h, decide_eq_false (show ¬ (j = i / 64 ∧ t = i % 64) from fun e => h e.1)]
    simp
/-- taken out of the set, taken out of the list -/
theorem turn_drop {n : Nat} {A : Nat → Nat} {i : Nat} {x : Int} (hx : x = (i : Int)) :
    keep (fun z => !isIn 1 (fun j => ([x] : List Int).getD j 0) z) (fun j => (setL n A).getD j 0) (setL n A).length = setL n (dropW A i) := by
  rw [keep_filter]
  refine sorted_unique _ _ (List.Pairwise.filter _ (setL_sorted n A)) (setL_sorted n _) fun z => ?_
  rw [List.mem_filter, isIn_one, mem_setL, mem_setL]
  constructor
  · rintro ⟨⟨k, h1, h2, rfl⟩, h3⟩
    refine ⟨k, h1, ?_, rfl⟩
    rw [dropW_bit _ _ _ _ (Nat.mod_lt _ (by omega)), h2, decide_eq_false (show ¬ (k / 64 = i / 64 ∧ k % 64 = i % 64) from fun e => by simp [hx] at h3; omega)]
    rfl
  · rintro ⟨k, h1, h2, rfl⟩
    rw [dropW_bit _ _ _ _ (Nat.mod_lt _ (by omega)), Bool.and_eq_true] at h2
    refine ⟨⟨k, h1, h2.1, rfl⟩, ?_⟩
    have h3 := h2.2
    simp only [Bool.not_eq_true', decide_eq_false_iff_not] at h3 ⊢
    intro e
    apply h3
    have : k = i := by omega
    subst this
    exact ⟨rfl, rfl⟩
/-- who is not there changes nothing -/
theorem turn_none {n : Nat} {A : Nat → Nat} {x : Int} (hx : ¬ (0 ≤ x ∧ x < 64 * (n : Int))) :
    keep (fun z => !isIn 1 (fun j => ([x] : List Int).getD j 0) z) (fun j => (setL n A).getD j 0) (setL n A).length = setL n A := by
  rw [keep_filter, List.filter_eq_self]
  intro z hz
  obtain ⟨k, h1, h2, rfl⟩ := mem_setL.1 hz
  rw [isIn_one, decide_eq_false (fun e => hx (by omega))]
  rfl
/-- put into the set, put into the list -/
theorem turn_put {n : Nat} {A : Nat → Nat} {i : Nat} {x : Int} (hx : x = (i : Int)) (hi : i < 64 * n) :
    srt (fun j => (setL n A ++ [x]).getD j 0) ((setL n A).length + 1) = setL n (putW A i) := by
  refine sorted_unique _ _ (srt_sorted _ _) (setL_sorted n _) fun z => ?_
  have hl : (setL n A).length + 1 = (setL n A ++ [x]).length := by simp
  rw [mem_srt, hl, in_list, List.mem_append, List.mem_singleton, mem_setL, mem_setL]
  constructor
  · rintro (⟨k, h1, h2, rfl⟩ | rfl)
    · exact ⟨k, h1, by rw [putW_bit, h2]; rfl, rfl⟩
    · exact ⟨i, hi, by rw [putW_bit, decide_eq_true (show i / 64 = i / 64 ∧ i % 64 = i % 64 from ⟨rfl, rfl⟩)]; simp, hx⟩
  · rintro ⟨k, h1, h2, rfl⟩
    rw [putW_bit, Bool.or_eq_true] at h2
    rcases h2 with h2 | h2
    · exact .inl ⟨k, h1, h2, rfl⟩
    · have := of_decide_eq_true h2
      right
      rw [hx]; omega
theorem and_same (x i : Nat) (hx : x < 18446744073709551616) (h : x.testBit (i % 64) = false) : x &&& (18446744073709551615 - pw i) = x := by
  apply Nat.eq_of_testBit_eq
  intro j
  rw [Nat.testBit_and]
  by_cases hj : j < 64
  · rw [not_bit _ _ (pow_lt64 i) hj]
    unfold pw
    rw [Nat.testBit_two_pow]
    by_cases e : i % 64 = j
    · subst e; simp [h]
    · simp [e]
  · rw [high_false hx (by omega)]; rfl
theorem drop_any (g n cap i : Nat) (A : Nat → Nat) (w : World) (hn : n ≤ 100000) (hi : i < 64 * n) (hA : ∀ j, A j < 18446744073709551616) (hM : Mine .u64 48 w g n (fun j => (A j : Int))) :
    Calls Tryd.prog 22 #[.slice (some ⟨g, 0, none⟩) n cap, .int .i64 i] w fun e w' => e = .returned (.bool ((A (i / 64)).testBit (i % 64))) ∧ Mine .u64 48 w' g n (fun j => (dropW A i j : Int)) ∧ But g w w' := by
  cases hh : (A (i / 64)).testBit (i % 64)
  · refine (drop_not (some ⟨g, 0, none⟩) n cap A i w hn (by omega) hA hM.rows (by rw [hasB_nat hi]; exact hh)).mono ?_
    rintro e w1 ⟨rfl, q, rfl⟩
    refine ⟨rfl, ?_, But.drewN g w q⟩
    refine (hM.drewN q).congr fun j hj => ?_
    unfold dropW
    split
    · rename_i h; rw [h, and_same _ _ (hA _) hh]
    · rfl
  · exact drop_old g n cap i A w hn hi hA hM hh

end Go.Proofs.YtkaaokaiealbmaaDoor
