/- The walks through the answers by definition: List, In, Out, Words, and the helpers Ints and Sorted. -/
import Derived.Test.YtkaaokaiealbmaaDoorBitsLaws
namespace Go.Proofs.YtkaaokaiealbmaaDoor
open Go.RowKit
set_option linter.unusedVariables false

theorem Built.rows' {w0 w : World} {v : Value} {xs : List Int} (h : Built w0 w v xs) : ∃ a cap, v = .slice a xs.length cap ∧ Rows' .i64 w a xs.length (fun j => xs.getD j 0) ∧ (a = none → xs.length = 0 ∧ cap = 0) := by
  obtain ⟨a, cap, rfl, hr⟩ := h.rows
  refine ⟨a, cap, rfl, hr, ?_⟩
  rintro rfl
  rcases h.1.2 with ⟨h1, h2⟩ | ⟨g, cap', cur, h1, _⟩
  · injection h1 with _ h3 h4; exact ⟨h3, h4⟩
  · injection h1 with h2; cases h2
theorem Built.widen {w w1 w2 : World} {v : Value} {xs : List Int} (h : Built w1 w2 v xs) (hb : Below w.heap.size w w1) : Built w w2 v xs := by
  refine ⟨⟨h.1.1, ?_⟩, hb.trans (h.2.mono hb.size)⟩
  rcases h.1.2 with h1 | ⟨g, cap, cur, h1, h2, r⟩
  · exact .inl h1
  · exact .inr ⟨g, cap, cur, h1, Nat.le_trans hb.size h2, r⟩
theorem Built.quiet {w0 w w' : World} {v : Value} {xs : List Int} (h : Built w0 w v xs) (hb : Below w.heap.size w w') : Built w0 w' v xs := by
  refine ⟨⟨h.1.1, ?_⟩, h.2.trans (hb.mono h.2.size)⟩
  rcases h.1.2 with h1 | ⟨g, cap, cur, h1, h2, h3, r⟩
  · exact .inl h1
  · refine .inr ⟨g, cap, cur, h1, h2, ?_, r⟩
    have hlt : g < w.heap.size := by
      obtain ⟨hlt, _⟩ := Array.getElem?_eq_some_iff.1 h3
      exact hlt
    rw [hb.block g hlt]; exact h3

/-- the numbers of the set below k -/
def lst (A : Nat → Nat) (k : Nat) : List Int := ((List.range k).filter (fun i => (A (i / 64)).testBit (i % 64))).map (fun i => ((i : Nat) : Int))
theorem lst_succ (A : Nat → Nat) (k : Nat) : lst A (k + 1) = lst A k ++ (if (A (k / 64)).testBit (k % 64) then [((k : Nat) : Int)] else []) := by
  unfold lst
  rw [List.range_succ, List.filter_append, List.map_append]
  congr 1
  by_cases h : (A (k / 64)).testBit (k % 64) <;> simp [h]
theorem lst_length (A : Nat → Nat) (k : Nat) : (lst A k).length ≤ k := by
  unfold lst
  rw [List.length_map]
  exact Nat.le_trans (List.length_filter_le _ _) (by simp)
theorem lst_setL (A : Nat → Nat) (n : Nat) : lst A (64 * n) = setL n A := rfl

theorem shift_bit (x i : Nat) (hx : x < 18446744073709551616) : (bits .and .u64 ((x : Int) / 2 ^ i) 1 == 1) = x.testBit i := by
  have e1 : (x : Int) / 2 ^ i = ((x / 2 ^ i : Nat) : Int) := by simp
  have h1 : x / 2 ^ i < 18446744073709551616 := Nat.lt_of_le_of_lt (Nat.div_le_self _ _) hx
  have e2 := u64_and_nat (x / 2 ^ i) 1 h1 (by omega)
  rw [e1]
  have e3 : bits .and .u64 ((x / 2 ^ i : Nat) : Int) 1 = ((x / 2 ^ i % 2 : Nat) : Int) := by rw [← nat_mask1]; exact e2
  rw [e3, Nat.testBit_eq_decide_div_mod_eq]
  generalize x / 2 ^ i % 2 = y
  by_cases hy : y = 1
  · subst hy; rfl
  · simp [hy]
    omega
set_option maxHeartbeats 800000 in
theorem rlist_any (a : Option Addr) (n c : Nat) (A : Nat → Nat) (w : World) (hn : n ≤ 100) (hA : ∀ j, A j < 18446744073709551616) (ha : Rows' .u64 w a n (fun j => (A j : Int))) :
    Calls Tryd.prog 16 #[.slice a n c] w fun e w' => ∃ v, e = .returned v ∧ Built w w' v (setL n A) := by
  have HA := hidden hA
  have HX := hidden ha
  clear hA ha
  go_enter Tryd.func16, Tryd.ntmps16
  go_wp2_with fail
  go_loopw [3, 4] (fun v i wr => ∃ k : Nat, k ≤ 64 * n ∧ i = .int .i64 (k : Int) ∧ Hid (Built w wr v (lst A k))) (fun _ i _ => 64 * n - (intOf i).toNat)
  case atStart => exact ⟨0, by omega, rfl, Built.start w _ rfl⟩
  case round =>
    obtain ⟨k, hk, rfl, hB⟩ := hrel
    by_cases hkn : k < 64 * n
    · obtain ⟨b, off, rfl, hlt, hc⟩ := HX.out (by omega)
      have hcell : wr.cell? ⟨b, off + k / 64, none⟩ = some (.int .u64 (A (k / 64) : Int)) := (hB.out.below.cell (p := ⟨b, off + k / 64, none⟩) hlt).trans (hc (k / 64) (by omega))
      clear hc
      have hki : (k : Int) < 64 * (n : Int) := by omega
      have hdi : (k : Int) / 64 < (n : Int) := by omega
      have hlen := lst_length A k
      have hbit := shift_bit (A (k / 64)) (k % 64) (HA.out _)
      have hsucc := lst_succ A k
      cases ht : (A (k / 64)).testBit (k % 64)
      · rw [ht] at hbit hsucc
        have HS : Hid (lst A (k + 1) = lst A k) := by show _ = _; rw [hsucc]; simp
        clear hsucc ht
        go_wp2_with fail
        go_roundw
        case rel => exact ⟨k + 1, by omega, by go_num, by rw [HS.out]; exact hB⟩
        case measure => simp [intOf]; omega
      · rw [ht] at hbit hsucc
        have HS : Hid (lst A (k + 1) = lst A k ++ [(k : Int)]) := by show _ = _; rw [hsucc]; simp
        clear hsucc ht
        go_wp2_with (at_builtin; refine wpList_push rfl (.tmp 23) (.tmp 25) rfl w _ _ _ _ rfl rfl hB.out (by omega) ?_; intro v1 w1 hb1)
        have HB1 := hidden hb1
        clear hb1
        go_wp2_with fail
        go_roundw
        case rel => exact ⟨k + 1, by omega, by go_num, by rw [HS.out]; exact HB1⟩
        case measure => simp [intOf]; omega
    · have : k = 64 * n := by omega
      subst this
      go_wp2
      go_ret
      exact ⟨_, rfl, hB.out⟩

/-- which of the numbers f 0 .. a test keeps, up to k -/
def keep (t : Int → Bool) (f : Nat → Int) : Nat → List Int
  | 0 => []
  | k + 1 => keep t f k ++ (if t (f k) then [f k] else [])
theorem keep_length (t : Int → Bool) (f : Nat → Int) : ∀ k, (keep t f k).length ≤ k
  | 0 => Nat.le_refl _
  | k + 1 => by
    have := keep_length t f k
    show (keep t f k ++ (if t (f k) then [f k] else [])).length ≤ k + 1
    rw [List.length_append]
    split <;> simp <;> omega
theorem mem_keep {t : Int → Bool} {f : Nat → Int} {x : Int} : ∀ k, x ∈ keep t f k ↔ (∃ j, j < k ∧ f j = x) ∧ t x = true
  | 0 => by simp [keep]
  | k + 1 => by
    show x ∈ keep t f k ++ (if t (f k) then [f k] else []) ↔ _
    rw [List.mem_append, mem_keep k]
    constructor
    · rintro (⟨⟨j, hj, he⟩, ht⟩ | h)
      · exact ⟨⟨j, by omega, he⟩, ht⟩
      · by_cases hk : t (f k) = true
        · simp [hk] at h; subst h; exact ⟨⟨k, by omega, rfl⟩, hk⟩
        · simp [hk] at h
    · rintro ⟨⟨j, hj, he⟩, ht⟩
      rcases Nat.lt_or_ge j k with h | h
      · exact .inl ⟨⟨j, h, he⟩, ht⟩
      · have : j = k := by omega
        subst this
        right
        rw [he, ht]; simp
/-- is x among the first n? -/
def isIn (n : Nat) (f : Nat → Int) (x : Int) : Bool := decide (∃ j, j < n ∧ f j = x)

set_option maxHeartbeats 800000 in
theorem out_any (a b : Option Addr) (n c m c' : Nat) (f g : Nat → Int) (w : World) (hn : n ≤ 100000) (hm : m ≤ 100000) (ha : Rows' .i64 w a n f) (hb : Rows' .i64 w b m g) :
    Calls Tryd.prog 15 #[.slice a n c, .slice b m c'] w fun e w' => ∃ v, e = .returned v ∧ Built w w' v (keep (fun x => !isIn m g x) f n) := by
  have HX := hidden ha
  have HY := hidden hb
  clear ha hb
  go_enter Tryd.func15, Tryd.ntmps15
  go_wp2_with fail
  go_loopw [5, 6] (fun v i wr => ∃ k : Nat, k ≤ n ∧ i = .int .i64 (k : Int) ∧ Hid (Built w wr v (keep (fun x => !isIn m g x) f k))) (fun _ i _ => n - (intOf i).toNat)
  case atStart => exact ⟨0, by omega, rfl, Built.start w _ rfl⟩
  case round =>
    obtain ⟨k, hk, rfl, hB⟩ := hrel
    by_cases hkn : k < n
    · obtain ⟨bb, off, rfl, hlt, hc⟩ := HX.out (by omega)
      have hcell : wr.cell? ⟨bb, off + k, none⟩ = some (.int .i64 (f k)) := (hB.out.below.cell (p := ⟨bb, off + k, none⟩) hlt).trans (hc k hkn)
      clear hc
      have hki : (k : Int) < (n : Int) := by omega
      have hlen := keep_length (fun x => !isIn m g x) f k
      have hsucc : keep (fun x => !isIn m g x) f (k + 1) = keep (fun x => !isIn m g x) f k ++ (if (fun x => !isIn m g x) (f k) then [f k] else []) := rfl
      go_wp2_with fail
      refine (hasInt_any b m c' g (f k) _ hm (HY.out.below hB.out.below)).mono ?_
      rintro e w1 ⟨rfl, hw1⟩
      rw [hw1]
      clear hw1 w1
      cases ht : decide (∃ j, j < m ∧ g j = f k)
      · have HS : Hid (keep (fun x => !isIn m g x) f (k + 1) = keep (fun x => !isIn m g x) f k ++ [f k]) := by show _ = _; rw [hsucc]; simp only [isIn, ht]; simp
        clear hsucc ht
        go_wp2_with (at_builtin; refine wpList_push rfl (.tmp 21) (.tmp 26) rfl w _ _ _ _ rfl rfl hB.out (by omega) ?_; intro v1 w1 hb1)
        have HB1 := hidden hb1
        clear hb1
        go_wp2_with fail
        go_roundw
        case rel => exact ⟨k + 1, by omega, by go_num, by rw [HS.out]; exact HB1⟩
        case measure => simp [intOf]; omega
      · have HS : Hid (keep (fun x => !isIn m g x) f (k + 1) = keep (fun x => !isIn m g x) f k ) := by show _ = _; rw [hsucc]; simp only [isIn, ht]; simp
        clear hsucc ht
        go_wp2_with fail
        go_roundw
        case rel => exact ⟨k + 1, by omega, by go_num, by rw [HS.out]; exact hB⟩
        case measure => simp [intOf]; omega
    · have : k = n := by omega
      subst this
      go_wp2
      go_ret
      exact ⟨_, rfl, hB.out⟩

set_option maxHeartbeats 800000 in
theorem in_any (a b : Option Addr) (n c m c' : Nat) (f g : Nat → Int) (w : World) (hn : n ≤ 100000) (hm : m ≤ 100000) (ha : Rows' .i64 w a n f) (hb : Rows' .i64 w b m g) :
    Calls Tryd.prog 31 #[.slice a n c, .slice b m c'] w fun e w' => ∃ v, e = .returned v ∧ Built w w' v (keep (isIn m g) f n) := by
  have HX := hidden ha
  have HY := hidden hb
  clear ha hb
  go_enter Tryd.func31, Tryd.ntmps31
  go_wp2_with fail
  go_loopw [5, 6] (fun v i wr => ∃ k : Nat, k ≤ n ∧ i = .int .i64 (k : Int) ∧ Hid (Built w wr v (keep (isIn m g) f k))) (fun _ i _ => n - (intOf i).toNat)
  case atStart => exact ⟨0, by omega, rfl, Built.start w _ rfl⟩
  case round =>
    obtain ⟨k, hk, rfl, hB⟩ := hrel
    by_cases hkn : k < n
    · obtain ⟨bb, off, rfl, hlt, hc⟩ := HX.out (by omega)
      have hcell : wr.cell? ⟨bb, off + k, none⟩ = some (.int .i64 (f k)) := (hB.out.below.cell (p := ⟨bb, off + k, none⟩) hlt).trans (hc k hkn)
      clear hc
      have hki : (k : Int) < (n : Int) := by omega
      have hlen := keep_length (isIn m g) f k
      have hsucc : keep (isIn m g) f (k + 1) = keep (isIn m g) f k ++ (if (isIn m g) (f k) then [f k] else []) := rfl
      go_wp2_with fail
      refine (hasInt_any b m c' g (f k) _ hm (HY.out.below hB.out.below)).mono ?_
      rintro e w1 ⟨rfl, hw1⟩
      rw [hw1]
      clear hw1 w1
      cases ht : decide (∃ j, j < m ∧ g j = f k)
      · have HS : Hid (keep (isIn m g) f (k + 1) = keep (isIn m g) f k ) := by show _ = _; rw [hsucc]; simp only [isIn, ht]; simp
        clear hsucc ht
        go_wp2_with fail
        go_roundw
        case rel => exact ⟨k + 1, by omega, by go_num, by rw [HS.out]; exact hB⟩
        case measure => simp [intOf]; omega
      · have HS : Hid (keep (isIn m g) f (k + 1) = keep (isIn m g) f k ++ [f k]) := by show _ = _; rw [hsucc]; simp only [isIn, ht]; simp
        clear hsucc ht
        go_wp2_with (at_builtin; refine wpList_push rfl (.tmp 20) (.tmp 25) rfl w _ _ _ _ rfl rfl hB.out (by omega) ?_; intro v1 w1 hb1)
        have HB1 := hidden hb1
        clear hb1
        go_wp2_with fail
        go_roundw
        case rel => exact ⟨k + 1, by omega, by go_num, by rw [HS.out]; exact HB1⟩
        case measure => simp [intOf]; omega
    · have : k = n := by omega
      subst this
      go_wp2
      go_ret
      exact ⟨_, rfl, hB.out⟩


end Go.Proofs.YtkaaokaiealbmaaDoor
