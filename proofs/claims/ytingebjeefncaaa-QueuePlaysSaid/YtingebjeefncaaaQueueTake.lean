/- The walks through Take and Put. -/
import Derived.Test.YtingebjeefncaaaQueueRead
import Derived.WalkKit
namespace Go.Proofs.Ytingebjeefncaaa
open Go.RowKit Go.Conc
set_option linter.unusedVariables false

theorem take_zero (p : Nat) (w : World) (h0 : w.cell? ⟨p, 0, none⟩ = some (.chan none)) :
    Calls Try.prog 15 #[.pointer (some ⟨p, 0, none⟩)] w fun e w' => e = .returned (.tuple #[.int .i64 0, .bool false]) ∧ w' = w := by
  go_enter Try.func15, Try.ntmps15
  rw [veil 4]
  go_wp2_with fail
  refine wp_veil ?_
  refine wp_select_nil (z := .int .i64 0) rfl ?_ ?_
  · simp [go_sem, rcaseNil]
  go_wp2_with fail
  go_ret2
  exact ⟨rfl, rfl⟩
theorem take_none (p c n s r : Nat) (w : World) (h0 : w.cell? ⟨p, 0, none⟩ = some (.chan (some c))) (hl : w.heap[c]? = some (.chan n #[] false s r false)) :
    Calls Try.prog 15 #[.pointer (some ⟨p, 0, none⟩)] w fun e w' => e = .returned (.tuple #[.int .i64 0, .bool false]) ∧ w' = w := by
  go_enter Try.func15, Try.ntmps15
  rw [veil 4]
  go_wp2_with fail
  refine wp_veil ?_
  refine wp_select_none (z := .int .i64 0) rfl ?_ hl ?_
  · simp [go_sem, rcase]
  go_wp2_with fail
  go_ret2
  exact ⟨rfl, rfl⟩
theorem take_some (p g c n : Nat) (xs : List Int) (i : Int) (w : World) (h : IsQ w p g c n (i :: xs)) :
    Calls Try.prog 15 #[.pointer (some ⟨p, 0, none⟩)] w fun e w' => e = .returned (.tuple #[.int .i64 i, .bool true]) ∧ IsQ w' p g c n xs ∧ Turn g c w w' := by
  obtain ⟨s, r, hl⟩ := h.line
  have hf := h.fits i (by simp)
  obtain ⟨k, rfl⟩ : ∃ k : Nat, i = (k : Int) := ⟨i.toNat, by omega⟩
  have hki : (k : Int) < (n : Int) := hf.2
  have h0 := h.cell0
  obtain ⟨w1, hw1⟩ : ∃ w1, w1 = w.setChan c n ((bufOf ((k : Int) :: xs)).extract 1 (bufOf ((k : Int) :: xs)).size) false s (r + 1) false := ⟨_, rfl⟩
  have hoff : ∀ q, q ≠ c → w1.heap[q]? = w.heap[q]? := fun q hq => by rw [hw1]; exact setChan_off _ _ _ _ _ _ _ _ hq
  have h1 : w1.cell? ⟨p, 1, none⟩ = some (.slice (some ⟨g, 0, none⟩) n n) := (World.cell?_of_block (w := w) (hoff p h.pc)).trans h.cell1
  have hc : w1.cell? ⟨g, k, none⟩ = some (.bool true) := by
    refine (World.cell?_of_block (w := w) (hoff g h.gc)).trans ?_
    rw [h.row.cell (j := k) (by omega)]
    simp
  have hfr : w1.frozen? ⟨g, k, none⟩ = false := by
    rw [World.frozen?_of_block (w := w) (hoff g h.gc)]
    exact h.row.frozen k
  have HQ := hidden h
  have HW := hidden hw1
  have HL := hidden hl
  clear hoff hf h hl
  go_enter Try.func15, Try.ntmps15
  rw [veil 4]
  go_wp2_with fail
  refine wp_veil ?_
  refine wp_select_some (z := .int .i64 0) rfl ?_ HL.out (by rw [bufOf_size]; simp) ?_
  · simp [go_sem, rcase]
  rw [bufOf_head, ← hw1]
  clear hw1 h0
  go_wp2_with fail
  go_ret2
  refine ⟨rfl, ?_, ?_⟩
  · rw [HW.out]; exact HQ.out.take rfl
  · rw [HW.out]; exact (Turn.setChan _ _ _ _ _ _ _ _ _).trans (Turn.setCell _ _ _ _ _)
theorem take_any (p g c n : Nat) (xs : List Int) (w : World) (h : IsQ w p g c n xs) :
    Calls Try.prog 15 #[.pointer (some ⟨p, 0, none⟩)] w fun e w' => e = .returned (.tuple #[.int .i64 (xs.headD 0), .bool (decide (0 < xs.length))]) ∧ IsQ w' p g c n xs.tail ∧ Turn g c w w' := by
  cases xs with
  | nil =>
    obtain ⟨s, r, hl⟩ := h.line
    refine (take_none p c n s r w h.cell0 hl).mono ?_
    rintro e w1 ⟨rfl, hw1⟩
    rw [hw1]
    exact ⟨rfl, h, Turn.refl _ _ _⟩
  | cons i xs => exact take_some p g c n xs i w h
theorem put_none (p n cap : Nat) (a : Option Addr) (i : Int) (w : World) (hcell : w.cell? ⟨p, 1, none⟩ = some (.slice a n cap)) (hi : ¬ (0 ≤ i ∧ i < (n : Int))) :
    Calls Try.prog 9 #[.pointer (some ⟨p, 0, none⟩), .int .i64 i] w fun e w' => e = .returned (.bool false) ∧ w' = w := by
  have HI := hidden hi
  have HC := hidden hcell
  clear hi
  go_enter Try.func9, Try.ntmps9
  rw [veil 4]
  go_wp2_with fail
  refine (isOf_any p n cap a i w HC.out).mono ?_
  rintro e w1 ⟨rfl, hw1⟩
  rw [hw1]
  clear hw1 w1
  rw [decide_eq_false HI.out]
  go_wp2_with fail
  go_ret
  exact ⟨rfl, rfl⟩
theorem put_nil (i : Int) (w : World) :
    Calls Try.prog 9 #[.pointer none, .int .i64 i] w fun e w' => e = .returned (.bool false) ∧ w' = w := by
  go_enter Try.func9, Try.ntmps9
  rw [veil 4]
  go_wp2_with fail
  refine (isOf_nil i w).mono ?_
  rintro e w1 ⟨rfl, hw1⟩
  rw [hw1]
  clear hw1 w1
  go_wp2_with fail
  go_ret
  exact ⟨rfl, rfl⟩
theorem put_twice (p g n cap k : Nat) (i : Int) (w : World) (hcell : w.cell? ⟨p, 1, none⟩ = some (.slice (some ⟨g, 0, none⟩) n cap)) (hi : i = (k : Int)) (hk : k < n) (hx : w.cell? ⟨g, k, none⟩ = some (.bool true)) :
    Calls Try.prog 9 #[.pointer (some ⟨p, 0, none⟩), .int .i64 i] w fun e w' => e = .returned (.bool false) ∧ w' = w := by
  subst hi
  have hki : (k : Int) < (n : Int) := by omega
  go_enter Try.func9, Try.ntmps9
  rw [veil 4]
  go_wp2_with fail
  refine (isOf_any p n cap _ k w hcell).mono ?_
  rintro e w1 ⟨rfl, hw1⟩
  rw [hw1]
  clear hw1 w1
  rw [decide_eq_true (show 0 ≤ (k : Int) ∧ (k : Int) < (n : Int) from ⟨by omega, by omega⟩)]
  go_wp2_with fail
  go_ret
  exact ⟨rfl, rfl⟩
theorem put_new (p g c n : Nat) (xs : List Int) (i : Int) (w : World) (h : IsQ w p g c n xs) (hi : 0 ≤ i ∧ i < (n : Int)) (hx : ¬ i ∈ xs) :
    Calls Try.prog 9 #[.pointer (some ⟨p, 0, none⟩), .int .i64 i] w fun e w' => e = .returned (.bool true) ∧ IsQ w' p g c n (xs ++ [i]) ∧ Turn g c w w' := by
  obtain ⟨s, r, hl⟩ := h.line
  obtain ⟨k, rfl⟩ : ∃ k : Nat, i = (k : Int) := ⟨i.toNat, by omega⟩
  have hki : (k : Int) < (n : Int) := hi.2
  have hroom := h.room hi.1 hi.2 hx
  have h1 := h.cell1
  have hc := h.row.cell (j := k) (by omega)
  rw [decide_eq_false hx] at hc
  have hfr := h.row.frozen k
  obtain ⟨w1, hw1⟩ : ∃ w1, w1 = w.setCell ⟨g, k, none⟩ (.bool true) := ⟨_, rfl⟩
  have hoff : ∀ q, q ≠ g → w1.heap[q]? = w.heap[q]? := fun q hq => by rw [hw1]; exact Below.heap_setCell _ _ _ _ hq
  have h0 : w1.cell? ⟨p, 0, none⟩ = some (.chan (some c)) := (World.cell?_of_block (w := w) (hoff p h.pg)).trans h.cell0
  have hl1 : w1.heap[c]? = some (.chan n (bufOf xs) false s r false) := (hoff c (fun e => h.gc e.symm)).trans hl
  have HQ := hidden h
  have HW := hidden hw1
  have HX := hidden hx
  have HL := hidden hl1
  have HI := hidden hi
  clear hoff h hl hl1 hx hi
  go_enter Try.func9, Try.ntmps9
  rw [veil 4]
  go_wp2_with fail
  refine (isOf_any p n n _ k w h1).mono ?_
  rintro e w2 ⟨rfl, hw2⟩
  rw [hw2]
  clear hw2 w2
  rw [decide_eq_true (show 0 ≤ (k : Int) ∧ (k : Int) < (n : Int) from ⟨by omega, by omega⟩)]
  go_wp2_with fail
  rw [← hw1]
  clear hw1
  refine wp_veil (Reg.region ?_)
  change Reg _ _ _ [0, 1, 2, 3, 4, 5] _ _
  refine Reg.val (v := .pointer (some ⟨p, 0, none⟩)) (w' := w1) rfl rfl (by simp [go_sem]) ?_
  refine Reg.val (v := .pointer (some ⟨p, 0, none⟩)) (w' := w1) rfl rfl (by simp [go_sem]) ?_
  refine Reg.val (v := .pointer (some ⟨p, 0, none⟩)) (w' := w1) rfl rfl (by go_simp) ?_
  refine Reg.val (v := .chan (some c)) (w' := w1) rfl rfl (by go_simp) ?_
  refine Reg.val (v := .int .i64 (k : Int)) (w' := w1) rfl rfl (by simp [go_sem]) ?_
  refine Reg.send (c := c) (x := .int .i64 (k : Int)) (z' := .tuple #[]) rfl rfl (by simp [go_sem, scase]) HL.out (by rw [bufOf_size]; exact hroom) ?_
  refine Reg.nil ?_
  go_wp2_with fail
  go_ret
  refine ⟨rfl, ?_, ?_⟩
  · rw [HW.out]; exact HQ.out.put rfl HI.out.2 HX.out
  · rw [HW.out]; exact (Turn.setCell _ _ _ _ _).trans (Turn.setChan _ _ _ _ _ _ _ _ _)
theorem put_any (p g c n : Nat) (xs : List Int) (i : Int) (w : World) (h : IsQ w p g c n xs) :
    Calls Try.prog 9 #[.pointer (some ⟨p, 0, none⟩), .int .i64 i] w fun e w' => e = .returned (.bool (decide ((0 ≤ i ∧ i < (n : Int)) ∧ ¬ i ∈ xs))) ∧ IsQ w' p g c n (if (0 ≤ i ∧ i < (n : Int)) ∧ ¬ i ∈ xs then xs ++ [i] else xs) ∧ Turn g c w w' := by
  by_cases hi : 0 ≤ i ∧ i < (n : Int)
  · by_cases hx : i ∈ xs
    · have e : i = (i.toNat : Int) := by omega
      have hc := h.row.cell (j := i.toNat) (by omega)
      rw [← e, decide_eq_true hx] at hc
      refine (put_twice p g n n i.toNat i w h.cell1 e (by omega) hc).mono ?_
      rintro e w1 ⟨rfl, hw1⟩
      rw [hw1, if_neg (fun hh => hh.2 hx), decide_eq_false (fun hh => hh.2 hx)]
      exact ⟨rfl, h, Turn.refl _ _ _⟩
    · rw [if_pos ⟨hi, hx⟩, decide_eq_true ⟨hi, hx⟩]
      exact put_new p g c n xs i w h hi hx
  · refine (put_none p n n _ i w h.cell1 hi).mono ?_
    rintro e w1 ⟨rfl, hw1⟩
    rw [hw1, if_neg (fun hh => hi hh.1), decide_eq_false (fun hh => hi hh.1)]
    exact ⟨rfl, h, Turn.refl _ _ _⟩

end Go.Proofs.Ytingebjeefncaaa
