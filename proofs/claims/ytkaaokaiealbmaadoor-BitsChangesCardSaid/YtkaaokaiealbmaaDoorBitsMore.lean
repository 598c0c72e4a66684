/- The walks through May, Many, Below, and Full of no width; what Full, Of and Right tell, number by number. -/
import Derived.Test.YtkaaokaiealbmaaDoorBitsSets
namespace Go.Proofs.YtkaaokaiealbmaaDoor
open Go.RowKit
set_option linter.unusedVariables false

theorem may_any (x : Int) (w : World) :
    Calls Tryd.prog 8 #[.int .i64 x] w fun e w' => e = .returned (.bool (isW x)) ∧ w' = w := by
  go_enter Tryd.func8, Tryd.ntmps8
  go_wp2
  · have h0 : 0 ≤ x := by assumption
    go_ret
    refine ⟨?_, rfl⟩
    show Ending.returned (Value.bool (decide (x ≤ 65536))) = _
    simp [isW, h0]
  · have h0 : x < 0 := by assumption
    go_ret
    refine ⟨?_, rfl⟩
    show Ending.returned (Value.bool false) = _
    rw [isW_low h0]
theorem many_any (n : Nat) (w : World) (h : n ≤ 65536) :
    Calls Tryd.prog 14 #[.int .i64 n] w fun e w' => e = .returned (.int .i64 (((n + 63) / 64 : Nat) : Int)) ∧ w' = w := by
  go_enter Tryd.func14, Tryd.ntmps14
  go_wp2
  go_ret
  refine ⟨?_, rfl⟩
  show Ending.returned (Value.int .i64 (((n : Int) + 63) / 64)) = _
  rw [show ((n : Int) + 63) / 64 = (((n + 63) / 64 : Nat) : Int) by omega]
theorem full_not (u : Int) (w : World) (h : isW u = false) :
    Calls Tryd.prog 10 #[.int .i64 u] w fun e w' => e = .returned (.slice none 0 0) ∧ w' = w := by
  go_enter Tryd.func10, Tryd.ntmps10
  go_wp2_with fail
  refine (new_not u _ h).mono ?_
  rintro e w1 ⟨rfl, hw1⟩
  rw [hw1]
  clear hw1 w1
  go_wp2_with fail
  refine wp_loop_rounds 1 ?_
  rw [rounds_succ]
  go_wp2
  go_ret
  exact ⟨rfl, rfl⟩

def inW (u : Int) (x : Int) : Bool := decide (0 ≤ x) && decide (x < u)
set_option maxHeartbeats 800000 in
theorem rbelow_any (a : Option Addr) (n c : Nat) (f : Nat → Int) (u : Int) (w : World) (hn : n ≤ 50000) (ha : Rows' .i64 w a n f) :
    Calls Tryd.prog 19 #[.slice a n c, .int .i64 u] w fun e w' => ∃ v xs, e = .returned v ∧ Built w w' v xs ∧ xs.length ≤ n ∧ ∀ z, z ∈ xs ↔ (∃ j, j < n ∧ f j = z) ∧ inW u z = true := by
  have HX := hidden ha
  clear ha
  go_enter Tryd.func19, Tryd.ntmps19
  go_wp2_with fail
  go_loopw [5, 6] (fun v i wr => ∃ k : Nat, k ≤ n ∧ i = .int .i64 (k : Int) ∧ Hid (Built w wr v (keep (inW u) f k))) (fun _ i _ => n - (intOf i).toNat)
  case atStart => exact ⟨0, by omega, rfl, Built.start w _ rfl⟩
  case round =>
    obtain ⟨k, hk, rfl, hB⟩ := hrel
    by_cases hkn : k < n
    · obtain ⟨bb, off, rfl, hlt, hc⟩ := HX.out (by omega)
      have hcell : wr.cell? ⟨bb, off + k, none⟩ = some (.int .i64 (f k)) := (hB.out.below.cell (p := ⟨bb, off + k, none⟩) hlt).trans (hc k hkn)
      clear hc
      have hki : (k : Int) < (n : Int) := by omega
      have hlen := keep_length (inW u) f k
      have hsucc : keep (inW u) f (k + 1) = keep (inW u) f k ++ (if inW u (f k) then [f k] else []) := rfl
      by_cases h0 : 0 ≤ f k
      · by_cases h1 : f k < u
        · have HS : Hid (keep (inW u) f (k + 1) = keep (inW u) f k ++ [f k]) := by show _ = _; rw [hsucc]; simp [inW, h0, h1]
          clear hsucc
          go_wp2_with (at_builtin; refine wpList_push rfl (.tmp 27) (.tmp 32) rfl w _ _ _ _ rfl rfl hB.out (by omega) ?_; intro v1 w1 hb1)
          have HB1 := hidden hb1
          clear hb1
          go_wp2_with fail
          go_roundw
          case rel => exact ⟨k + 1, by omega, by go_num, by rw [HS.out]; exact HB1⟩
          case measure => simp [intOf]; omega
        · have HS : Hid (keep (inW u) f (k + 1) = keep (inW u) f k) := by show _ = _; rw [hsucc]; simp [inW, h1]
          clear hsucc
          go_wp2_with fail
          go_roundw
          case rel => exact ⟨k + 1, by omega, by go_num, by rw [HS.out]; exact hB⟩
          case measure => simp [intOf]; omega
      · have HS : Hid (keep (inW u) f (k + 1) = keep (inW u) f k) := by show _ = _; rw [hsucc]; simp [inW, h0]
        clear hsucc
        go_wp2_with fail
        go_roundw
        case rel => exact ⟨k + 1, by omega, by go_num, by rw [HS.out]; exact hB⟩
        case measure => simp [intOf]; omega
    · have : k = n := by omega
      subst this
      obtain ⟨a5, c5, rfl, hR5, _, _⟩ := hB.out.shape
      have HR5 := hidden hR5
      have hlen := keep_length (inW u) f k
      obtain ⟨L, hL⟩ : ∃ L, L = (keep (inW u) f k).length := ⟨_, rfl⟩
      rw [← hL] at HR5 hlen
      rw [← hL]
      have HL := hidden hL
      clear hR5 hL
      go_wp2_with fail
      refine (sorted_any a5 L c5 _ _ (by omega) HR5.out).mono ?_
      rintro e w1 ⟨v1, rfl, hb1⟩
      have HB1 := hidden (hb1.widen hB.out.below)
      clear hb1
      go_wp2_with fail
      go_ret
      refine ⟨_, _, rfl, HB1.out, Nat.le_trans (srt_length _ _) hlen, fun z => ?_⟩
      rw [mem_srt, HL.out, in_list, mem_keep]

theorem fullW_bit (u j t : Nat) (ht : t < 64) : (fullW u j).testBit t = decide (64 * j + t < u) := by
  unfold fullW
  rw [Nat.testBit_two_pow_sub_one]
  by_cases h : 64 * j + t < u
  · rw [decide_eq_true h, decide_eq_true (show t < min (u - 64 * j) 64 by omega)]
  · rw [decide_eq_false h, decide_eq_false (show ¬ t < min (u - 64 * j) 64 by omega)]
theorem putW_bit (A : Nat → Nat) (i j t : Nat) : (putW A i j).testBit t = ((A j).testBit t || decide (j = i / 64 ∧ t = i % 64)) := by
  unfold putW
  by_cases h : j = i / 64
  · rw [if_pos h, Nat.testBit_or]
    unfold pw
    rw [Nat.testBit_two_pow]
    congr 1
    by_cases h2 : t = i % 64
    · rw [decide_eq_true (show j = i / 64 ∧ t = i % 64 from ⟨h, h2⟩), decide_eq_true h2.symm]
    · rw [decide_eq_false (show ¬ (j = i / 64 ∧ t = i % 64) from fun e => h2 e.2), decide_eq_false (fun e => h2 e.symm)]
  · rw [if_neg h, decide_eq_false (show ¬ (j = i / 64 ∧ t = i % 64) from fun e => h e.1)]
    simp
theorem ofA_bit (u : Nat) (f : Nat → Int) (j t : Nat) (ht : t < 64) : ∀ k, (ofA u f k j).testBit t = true ↔ (∃ i, i < k ∧ f i = ((64 * j + t : Nat) : Int)) ∧ 64 * j + t < u
  | 0 => by simp [ofA]
  | k + 1 => by
    have ih := ofA_bit u f j t ht k
    have e : ofA u f (k + 1) = if 0 ≤ f k ∧ f k < (u : Int) then putW (ofA u f k) (f k).toNat else ofA u f k := rfl
    rw [e]
    constructor
    · intro h
      split at h
      · rename_i hr
        rw [putW_bit, Bool.or_eq_true] at h
        rcases h with h | h
        · obtain ⟨⟨i, hi, he⟩, hu⟩ := ih.1 h
          exact ⟨⟨i, by omega, he⟩, hu⟩
        · have h2 := of_decide_eq_true h
          have : f k = ((64 * j + t : Nat) : Int) := by omega
          exact ⟨⟨k, by omega, this⟩, by omega⟩
      · obtain ⟨⟨i, hi, he⟩, hu⟩ := ih.1 h
        exact ⟨⟨i, by omega, he⟩, hu⟩
    · rintro ⟨⟨i, hi, he⟩, hu⟩
      rcases Nat.lt_or_ge i k with h | h
      · have h1 := ih.2 ⟨⟨i, h, he⟩, hu⟩
        split
        · rw [putW_bit, h1]; rfl
        · exact h1
      · have : i = k := by omega
        subst this
        rw [if_pos (by omega), putW_bit, Bool.or_eq_true]
        right
        exact decide_eq_true (by omega)
/-- the numbers below u -/
def upTo (k : Nat) : List Int := (List.range k).map (fun i => ((i : Nat) : Int))
theorem upTo_succ (k : Nat) : upTo (k + 1) = upTo k ++ [(k : Int)] := by unfold upTo; rw [List.range_succ, List.map_append]; rfl
theorem upTo_length (k : Nat) : (upTo k).length = k := by simp [upTo]
theorem mem_upTo {k : Nat} {z : Int} : z ∈ upTo k ↔ 0 ≤ z ∧ z < (k : Int) := by
  unfold upTo
  rw [List.mem_map]
  constructor
  · rintro ⟨i, hi, rfl⟩
    rw [List.mem_range] at hi
    omega
  · rintro ⟨h0, h1⟩
    exact ⟨z.toNat, by rw [List.mem_range]; omega, by omega⟩
theorem makes_new (N : Nat) : allEq N (fun _ => 0) (fun i => (part (isIn 0 (fun j => ([] : List Int).getD j 0)) i 64 : Int)) = true := by
  have h := words_of (xs := []) (W := fun _ => 0) (N := N) (fun _ => by decide) (fun j t _ _ => by simp)
  exact h
theorem makes_full (u N : Nat) : allEq N (fun j => (fullW u j : Int)) (fun i => (part (isIn (upTo u).length (fun j => (upTo u).getD j 0)) i 64 : Int)) = true := by
  refine words_of (W := fullW u) (fullW_lt u) fun j t _ ht => ?_
  rw [mem_upTo, fullW_bit u j t ht, decide_eq_true_iff]
  omega
theorem makes_of (u N : Nat) (f : Nat → Int) (m : Nat) (xs : List Int) (hx : ∀ z, z ∈ xs ↔ (∃ j, j < m ∧ f j = z) ∧ inW (u : Int) z = true) :
    allEq N (fun j => (ofA u f m j : Int)) (fun i => (part (isIn xs.length (fun j => xs.getD j 0)) i 64 : Int)) = true := by
  refine words_of (W := ofA u f m) (ofA_lt u f m) fun j t _ ht => ?_
  rw [hx, ofA_bit u f j t ht m]
  unfold inW
  rw [Bool.and_eq_true, decide_eq_true_iff, decide_eq_true_iff]
  constructor
  · rintro ⟨h1, h2, h3⟩; exact ⟨h1, by omega⟩
  · rintro ⟨h1, h2⟩; exact ⟨h1, by omega, by omega⟩
theorem makes_right (u n : Nat) (A : Nat → Nat) (hn : n = (u + 63) / 64) :
    rightB n A u = decide ((keep (fun x => !isIn (upTo u).length (fun j => (upTo u).getD j 0) x) (fun j => (setL n A).getD j 0) (setL n A).length).length = 0) := by
  have hk : ∀ z, z ∈ keep (fun x => !isIn (upTo u).length (fun j => (upTo u).getD j 0) x) (fun j => (setL n A).getD j 0) (setL n A).length ↔ z ∈ setL n A ∧ ¬ (0 ≤ z ∧ z < (u : Int)) := by
    intro z
    rw [mem_keep, in_list, isIn_list]
    simp only [mem_upTo]
    simp
    intro _
    constructor
    · intro h h0; omega
    · intro h
      by_cases h0 : 0 ≤ z
      · exact .inr (h h0)
      · exact .inl (by omega)
  generalize keep (fun x => !isIn (upTo u).length (fun j => (upTo u).getD j 0) x) (fun j => (setL n A).getD j 0) (setL n A).length = K at hk
  unfold rightB
  rw [decide_eq_true hn, Bool.true_and]
  by_cases h : ∀ j, j < n → A j &&& (18446744073709551615 - fullW u j) = 0
  · rw [allEq_true (g := fun _ => 0) (fun j hj => Int.ofNat_inj.2 (h j hj))]
    have : K.length = 0 := by
      apply Classical.byContradiction
      intro hne
      obtain ⟨z, hz⟩ : ∃ z, z ∈ K := by
        cases K with
        | nil => exact absurd rfl hne
        | cons z r => exact ⟨z, by simp⟩
      obtain ⟨h1, h2⟩ := (hk z).1 hz
      obtain ⟨i, h3, h4, rfl⟩ := mem_setL.1 h1
      have h5 := h (i / 64) (by omega)
      have h6 : (A (i / 64) &&& (18446744073709551615 - fullW u (i / 64))).testBit (i % 64) = true := by
        rw [Nat.testBit_and, h4, not_bit _ _ (fullW_lt u _) (Nat.mod_lt _ (by omega)), fullW_bit u _ _ (Nat.mod_lt _ (by omega)), decide_eq_false (by omega)]
        rfl
      rw [h5] at h6
      simp at h6
    rw [decide_eq_true this]
  · have : ∃ j, j < n ∧ A j &&& (18446744073709551615 - fullW u j) ≠ 0 := by
      apply Classical.byContradiction
      intro hn2
      apply h
      intro j hj
      apply Classical.byContradiction
      intro he
      exact hn2 ⟨j, hj, he⟩
    obtain ⟨j, hj, he⟩ := this
    rw [allEq_false (g := fun _ => 0) hj (fun h => he (Int.ofNat_inj.1 h))]
    have : ¬ K.length = 0 := by
      intro h0
      have hK : K = [] := List.eq_nil_of_length_eq_zero h0
      obtain ⟨t, ht⟩ := Nat.exists_testBit_of_ne_zero he
      have ht64 : t < 64 := by
        apply Nat.lt_of_not_le
        intro hle
        rw [Nat.testBit_and, high_false (show 18446744073709551615 - fullW u j < 18446744073709551616 by omega) hle] at ht
        simp at ht
      rw [Nat.testBit_and, not_bit _ _ (fullW_lt u j) ht64, fullW_bit u j t ht64, Bool.and_eq_true] at ht
      have h1 : ((64 * j + t : Nat) : Int) ∈ K := by
        rw [hk]
        refine ⟨(mem_setL_at ht64).2 (by rw [wd_in hj]; exact ht.1), ?_⟩
        have h2 := ht.2
        simp at h2
        omega
      rw [hK] at h1
      simp at h1
    rw [decide_eq_false this]

end Go.Proofs.YtkaaokaiealbmaaDoor
