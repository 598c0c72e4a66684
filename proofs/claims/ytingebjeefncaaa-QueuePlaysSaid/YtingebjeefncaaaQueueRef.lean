/- The walks through what the statements hold queues against: May, Put and First of lists. -/
import Derived.Test.YtingebjeefncaaaQueueWorks
import Derived.Test.YtingebjeefncaaaGenBase
import Derived.WalkKit
namespace Go.Proofs.Ytingebjeefncaaa
open Go.RowKit Go.Conc
set_option linter.unusedVariables false

theorem may_any (n : Int) (w : World) :
    Calls Try.prog 8 #[.int .i64 n] w fun e w' => e = .returned (.bool (decide (0 ≤ n ∧ n ≤ 65536))) ∧ w' = w := by
  by_cases h : 0 ≤ n
  · by_cases h2 : n ≤ 65536
    · go_enter Try.func8, Try.ntmps8
      go_wp2
      go_ret
      refine ⟨?_, rfl⟩
      rw [decide_eq_true (by omega)]
      rfl
    · go_enter Try.func8, Try.ntmps8
      go_wp2
      go_ret
      refine ⟨?_, rfl⟩
      rw [decide_eq_false (by omega)]
      rfl
  · go_enter Try.func8, Try.ntmps8
    go_wp2
    go_ret
    refine ⟨?_, rfl⟩
    rw [decide_eq_false (by omega)]
    rfl
theorem first_any (a : Option Addr) (L cap : Nat) (m : Int) (w : World) (hL : L ≤ 100000) :
    Calls Try.prog 16 #[.slice a L cap, .int .i64 m] w fun e w' => e = .returned (.int .i64 ((min L m.toNat : Nat) : Int)) ∧ w' = w := by
  rcases Int.lt_trichotomy (L : Int) m with h | h | h
  · rcases Nat.eq_zero_or_pos L with h0 | h0
    · subst h0
      go_enter Try.func16, Try.ntmps16
      go_wp2
      all_goals (go_ret; exact ⟨by simp, rfl⟩)
    · have hp : (0 : Int) < (L : Int) := by omega
      have e : min L m.toNat = L := by omega
      rw [e]
      clear e
      go_enter Try.func16, Try.ntmps16
      go_wp2
      all_goals (go_ret; exact ⟨rfl, rfl⟩)
  · subst h
    have e : min L ((L : Int)).toNat = L := by omega
    rw [e]
    clear e
    rcases Nat.eq_zero_or_pos L with h0 | h0
    · subst h0
      go_enter Try.func16, Try.ntmps16
      go_wp2
      all_goals (go_ret; exact ⟨by simp, rfl⟩)
    · have hp : (0 : Int) < (L : Int) := by omega
      go_enter Try.func16, Try.ntmps16
      go_wp2
      all_goals (go_ret; exact ⟨rfl, rfl⟩)
  · by_cases h0 : 0 < m
    · obtain ⟨k, rfl⟩ : ∃ k : Nat, m = (k : Int) := ⟨m.toNat, by omega⟩
      have e : min L ((k : Int)).toNat = k := by omega
      rw [e]
      clear e
      go_enter Try.func16, Try.ntmps16
      go_wp2
      all_goals (go_ret; exact ⟨rfl, rfl⟩)
    · have e : min L m.toNat = 0 := by omega
      rw [e]
      clear e
      by_cases h1 : m = 0
      · subst h1
        go_enter Try.func16, Try.ntmps16
        go_wp2
        all_goals (go_ret; exact ⟨rfl, rfl⟩)
      · have h2 : m < 0 := by omega
        clear h0 h1
        go_enter Try.func16, Try.ntmps16
        go_wp2
        all_goals (go_ret; exact ⟨rfl, rfl⟩)
/-- may i be put, if xs wait? -/
def isNew (n : Nat) (xs : List Int) (i : Int) : Bool := decide ((0 ≤ i ∧ i < (n : Int)) ∧ ¬ i ∈ xs)
theorem isNew_true {n : Nat} {xs : List Int} {i : Int} (h : (0 ≤ i ∧ i < (n : Int)) ∧ ¬ i ∈ xs) : isNew n xs i = true := decide_eq_true h
theorem isNew_false {n : Nat} {xs : List Int} {i : Int} (h : ¬ ((0 ≤ i ∧ i < (n : Int)) ∧ ¬ i ∈ xs)) : isNew n xs i = false := decide_eq_false h
theorem refPut_any (n : Nat) (a : Option Addr) (L cap : Nat) (xs : List Int) (i : Int) (w : World) (hL : L = xs.length) (hlen : L ≤ 50000) (ha : a = none → L = 0 ∧ cap = 0) (hr : Rows' .i64 w a L (fun j => xs.getD j 0)) :
    Calls Try.prog 13 #[.int .i64 (n : Int), .slice a L cap, .int .i64 i] w fun e w' => ∃ v,
      e = .returned (.tuple #[v, .bool (isNew n xs i)]) ∧ Below w.heap.size w w' ∧ (isNew n xs i = true → Built w w' v (xs ++ [i])) ∧ (isNew n xs i = false → v = .slice a L cap ∧ w' = w) := by
  have HR := hidden hr
  have HL := hidden hL
  have HA := hidden ha
  clear hr hL ha
  by_cases h0 : i < 0
  · go_enter Try.func13, Try.ntmps13
    go_wp2
    go_ret2
    have hc : ¬ ((0 ≤ i ∧ i < (n : Int)) ∧ ¬ i ∈ xs) := fun h => by omega
    rw [isNew_false hc]
    exact ⟨_, rfl, Below.refl _ _, (fun h => by cases h), fun _ => ⟨rfl, rfl⟩⟩
  · by_cases h1 : (n : Int) ≤ i
    · go_enter Try.func13, Try.ntmps13
      go_wp2
      go_ret2
      have hc : ¬ ((0 ≤ i ∧ i < (n : Int)) ∧ ¬ i ∈ xs) := fun h => by omega
      rw [isNew_false hc]
      exact ⟨_, rfl, Below.refl _ _, (fun h => by cases h), fun _ => ⟨rfl, rfl⟩⟩
    · have hdec : decide (∃ j, j < L ∧ xs.getD j 0 = i) = decide (i ∈ xs) := by
        rw [HL.out]; exact decide_eq_decide.2 in_list
      have HD := hidden hdec
      clear hdec
      go_enter Try.func13, Try.ntmps13
      go_wp2_with fail
      refine (hasInt_any a L cap (fun j => xs.getD j 0) i w (by omega) HR.out).mono ?_
      rintro e w1 ⟨rfl, hw1⟩
      rw [hw1, HD.out]
      clear hw1 w1
      by_cases hm : i ∈ xs
      · have hc : ¬ ((0 ≤ i ∧ i < (n : Int)) ∧ ¬ i ∈ xs) := fun h => h.2 hm
        have HC := hidden hc
        rw [decide_eq_true hm]
        clear hm hc
        go_wp2_with fail
        go_ret2
        rw [isNew_false HC.out]
        exact ⟨_, rfl, Below.refl _ _, (fun h => by cases h), fun _ => ⟨rfl, rfl⟩⟩
      · have hc : (0 ≤ i ∧ i < (n : Int)) ∧ ¬ i ∈ xs := ⟨⟨by omega, by omega⟩, hm⟩
        have HC := hidden hc
        rw [decide_eq_false hm]
        clear hm hc
        go_wp2_with fail
        refine (ints_any a L cap (fun j => xs.getD j 0) w (by omega) HA.out HR.out).mono ?_
        rintro e w1 ⟨v1, rfl, hb1, hv1⟩
        have hall := cells_all xs
        rw [← HL.out] at hall
        rw [hall] at hb1
        have HB1 := hidden hb1
        clear hb1 hv1 hall
        go_wp2_with (at_builtin; refine wpList_push rfl (.tmp 22) (.tmp 24) rfl w _ _ xs _ rfl rfl HB1.out (by rw [← HL.out]; omega) ?_; intro v2 w2 hb2)
        have HB2 := hidden hb2
        clear hb2
        go_wp2_with fail
        go_ret2
        rw [isNew_true HC.out]
        exact ⟨_, rfl, HB2.out.below, fun _ => HB2.out, fun h => by cases h⟩
/-- who waits then -/
def putL (n : Nat) (xs : List Int) (i : Int) : List Int := if isNew n xs i = true then xs ++ [i] else xs
theorem refPut_some (n : Nat) (b off : Nat) (L cap : Nat) (xs : List Int) (i : Int) (w : World) (hL : L = xs.length) (hlen : L ≤ 50000) (hc : L ≤ cap) (hr : Rows' .i64 w (some ⟨b, off, none⟩) L (fun j => xs.getD j 0)) :
    Calls Try.prog 13 #[.int .i64 (n : Int), .slice (some ⟨b, off, none⟩) L cap, .int .i64 i] w fun e w' => ∃ b' off' cap',
      e = .returned (.tuple #[.slice (some ⟨b', off', none⟩) (putL n xs i).length cap', .bool (isNew n xs i)]) ∧ Below w.heap.size w w' ∧ (putL n xs i).length ≤ cap' ∧ Rows' .i64 w' (some ⟨b', off', none⟩) (putL n xs i).length (fun j => (putL n xs i).getD j 0) := by
  refine (refPut_any n _ L cap xs i w hL hlen (fun h => by cases h) hr).mono ?_
  rintro e w1 ⟨v, rfl, hb, hy, hno⟩
  cases hi : isNew n xs i with
  | true =>
    obtain ⟨g, cap', rfl, hc', hr'⟩ := (hy hi).some (by simp)
    have e : putL n xs i = xs ++ [i] := by unfold putL; rw [hi]; rfl
    rw [e]
    exact ⟨g, 0, cap', rfl, hb, hc', hr'⟩
  | false =>
    obtain ⟨rfl, rfl⟩ := hno hi
    have e : putL n xs i = xs := by unfold putL; rw [hi]; rfl
    rw [e, ← hL]
    exact ⟨b, off, cap, rfl, hb, hc, hr⟩
theorem put_list (p g c n : Nat) (xs : List Int) (i : Int) (w : World) (h : IsQ w p g c n xs) :
    Calls Try.prog 9 #[.pointer (some ⟨p, 0, none⟩), .int .i64 i] w fun e w' => e = .returned (.bool (isNew n xs i)) ∧ IsQ w' p g c n (putL n xs i) ∧ Turn g c w w' := by
  refine (put_any p g c n xs i w h).mono ?_
  rintro e w1 ⟨rfl, hq, ht⟩
  refine ⟨rfl, ?_, ht⟩
  unfold putL isNew
  simpa using hq
theorem IsQ.drewN {w : World} {p g c n : Nat} {xs : List Int} (h : IsQ w p g c n xs) (q : Nat) : IsQ (w.drewN q) p g c n xs := ⟨h.box, h.row, h.line, h.once, h.fits, h.small, h.pg⟩
theorem IsQ.drew {w : World} {p g c n : Nat} {xs : List Int} (h : IsQ w p g c n xs) : IsQ w.drew p g c n xs := ⟨h.box, h.row, h.line, h.once, h.fits, h.small, h.pg⟩

end Go.Proofs.Ytingebjeefncaaa
