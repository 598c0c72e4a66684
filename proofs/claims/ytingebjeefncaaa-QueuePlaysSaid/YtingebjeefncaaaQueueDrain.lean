/- The walks through Drain. -/
import Derived.Test.YtingebjeefncaaaQueueNew
import Derived.WalkKit
import Derived.WalkMore
namespace Go.Proofs.Ytingebjeefncaaa
open Go.RowKit Go.Conc
set_option linter.unusedVariables false

theorem drain_nil (m : Int) (w : World) :
    Calls Try.prog 12 #[.pointer none, .int .i64 m] w fun e w' => e = .returned (.slice none 0 0) ∧ w' = w := by
  go_enter Try.func12, Try.ntmps12
  rw [veil 6]
  go_wp2_with fail
  go_step3
  go_wp2_with fail
  try rw [Exit.noGoto_ret]
  go_ret
  exact ⟨rfl, rfl⟩
theorem drain_zero (p : Nat) (m : Int) (w : World) (h0 : w.cell? ⟨p, 0, none⟩ = some (.chan none)) :
    Calls Try.prog 12 #[.pointer (some ⟨p, 0, none⟩), .int .i64 m] w fun e w' => e = .returned (.slice none 0 0) ∧ w' = w := by
  by_cases hm : 0 < m
  · go_enter Try.func12, Try.ntmps12
    rw [veil 6]
    go_wp2_with fail
    go_step3
    go_wp2_with fail
    go_step3
    go_wp2_with fail
    refine wp_loop_once ?_
    go_wp2_with fail
    refine wp_veil ?_
    refine wp_select_nil (z := .int .i64 0) rfl ?_ ?_
    · simp [go_sem, rcaseNil]
    go_wp2_with fail
    try rw [Exit.noGoto_ret]
    go_ret
    exact ⟨rfl, rfl⟩
  · go_enter Try.func12, Try.ntmps12
    rw [veil 6]
    go_wp2_with fail
    go_step3
    go_wp2_with fail
    go_step3
    go_wp2_with fail
    refine wp_loop_once ?_
    go_wp2_with fail
    try rw [Exit.noGoto_ret]
    go_ret
    exact ⟨rfl, rfl⟩
theorem drain_any (p g c n : Nat) (xs : List Int) (m : Int) (w : World) (h : IsQ w p g c n xs) :
    Calls Try.prog 12 #[.pointer (some ⟨p, 0, none⟩), .int .i64 m] w fun e w' => ∃ v, e = .returned v ∧ Now w.heap.size w' v (xs.take m.toNat) ∧ IsQ w' p g c n (xs.drop m.toNat) ∧ Turn g c w w' := by
  have hlen := h.len
  have hsm := h.small
  have hp := h.p_lt
  have hg := h.row.lt
  have hc := h.c_lt
  have HQ := hidden h
  have HP := hidden hp
  have HG := hidden hg
  have HC := hidden hc
  clear h hp hg hc
  go_enter Try.func12, Try.ntmps12
  rw [veil 6, veil 9]
  go_wp2_with fail
  go_step3
  go_wp2_with fail
  go_step3
  go_wp2_with fail
  go_loopw [5, 6] (fun v i wr => ∃ j : Nat, j ≤ xs.length ∧ j ≤ m.toNat ∧ Hid (Now w.heap.size wr v (xs.take j)) ∧ Hid (IsQ wr p g c n (xs.drop j)) ∧ Hid (Turn g c w wr)) (fun v _ _ => xs.length - sliceLen v)
  case atStart => exact ⟨0, by omega, by omega, Now.nil _ _, HQ, Turn.refl _ _ _⟩
  case round =>
    obtain ⟨j, hj, hjm, hN, hI, hT⟩ := hrel
    obtain ⟨a5, cap5, rfl, _, _⟩ := hN.out.shape
    have hjl : (xs.take j).length = j := by rw [List.length_take]; omega
    rw [hjl] at hN
    rw [hjl]
    have HJL := hidden hjl
    clear hjl
    have h0 := hI.out.cell0
    by_cases hjm2 : (j : Int) < m
    · rcases hd : xs.drop j with _ | ⟨i, ys⟩
      · have hjx : xs.length ≤ j := by
          have := congrArg List.length hd
          rw [List.length_drop] at this
          simp at this
          omega
        have e1 : xs.take m.toNat = xs.take j := by rw [List.take_of_length_le (by omega), List.take_of_length_le (by omega)]
        have e2 : xs.drop m.toNat = xs.drop j := by rw [List.drop_of_length_le (by omega), List.drop_of_length_le (by omega)]
        have HE1 := hidden e1
        have HE2 := hidden e2
        rw [hd] at hI
        have HD := hidden hd
        clear e1 e2 hd hjx
        obtain ⟨s, r, hl⟩ := hI.out.line
        have HL := hidden hl
        clear hl
        go_wp2_with fail
        refine wp_veil ?_
        refine wp_select_none (z := .int .i64 0) rfl ?_ HL.out ?_
        · simp [go_sem, rcase]
        go_wp2_with fail
        try rw [Exit.noGoto_ret]
        go_ret
        refine ⟨_, rfl, ?_, ?_, hT.out⟩
        · rw [HE1.out]; exact hN.out
        · rw [HE2.out, HD.out]; exact hI.out
      · have hjx : j < xs.length := by
          have := congrArg List.length hd
          rw [List.length_drop] at this
          simp at this
          omega
        have e1 : xs.take (j + 1) = xs.take j ++ [i] := by
          rw [List.take_add_one, ← List.head?_drop, hd]
          rfl
        have e2 : xs.drop (j + 1) = ys := by
          rw [← List.tail_drop, hd]
          rfl
        have HE1 := hidden e1
        have HE2 := hidden e2
        rw [hd] at hI
        clear e1 e2 hd
        obtain ⟨s, r, hl⟩ := hI.out.line
        have HL := hidden hl
        have hf := hI.out.fits i (by simp)
        obtain ⟨k, rfl⟩ : ∃ k : Nat, i = (k : Int) := ⟨i.toNat, by omega⟩
        have hki : (k : Int) < (n : Int) := hf.2
        obtain ⟨w1, hw1⟩ : ∃ w1, w1 = wr.setChan c n ((bufOf ((k : Int) :: ys)).extract 1 (bufOf ((k : Int) :: ys)).size) false s (r + 1) false := ⟨_, rfl⟩
        have hoff : ∀ q, q ≠ c → w1.heap[q]? = wr.heap[q]? := fun q hq => by rw [hw1]; exact setChan_off _ _ _ _ _ _ _ _ hq
        have h1 : w1.cell? ⟨p, 1, none⟩ = some (.slice (some ⟨g, 0, none⟩) n n) := (World.cell?_of_block (w := wr) (hoff p hI.out.pc)).trans hI.out.cell1
        have hc : w1.cell? ⟨g, k, none⟩ = some (.bool true) := by
          refine (World.cell?_of_block (w := wr) (hoff g hI.out.gc)).trans ?_
          rw [hI.out.row.cell (j := k) (by omega)]
          simp
        have hfr : w1.frozen? ⟨g, k, none⟩ = false := by
          rw [World.frozen?_of_block (w := wr) (hoff g hI.out.gc)]
          exact hI.out.row.frozen k
        obtain ⟨w2, hw2⟩ : ∃ w2, w2 = w1.setCell ⟨g, k, none⟩ (.bool false) := ⟨_, rfl⟩
        have hI2 : IsQ w2 p g c n ys := by rw [hw2, hw1]; exact hI.out.take rfl
        have hT2 : Turn g c wr w2 := by rw [hw2, hw1]; exact (Turn.setChan _ _ _ _ _ _ _ _ _).trans (Turn.setCell _ _ _ _ _)
        have HI2 := hidden hI2
        have HT2 := hidden hT2
        have HN2 := hidden (hN.out.turn hI.out hT2)
        have HS2 := hidden (Nat.le_trans hT.out.size hT2.size)
        clear hoff hf hl hI2 hT2
        go_wp2_with fail
        refine wp_veil ?_
        refine wp_select_some (z := .int .i64 0) rfl ?_ HL.out (by rw [bufOf_size]; simp) ?_
        · simp [go_sem, rcase]
        rw [bufOf_head, ← hw1]
        clear hw1 h0
        go_wp2_with fail
        rw [← hw2]
        clear hw2 hc hfr h1
        refine wp_veil ?_
        go_wp2_with (at_builtin; refine wpList_push_now rfl (.tmp 27) (.tmp 29) rfl w.heap.size w2 _ _ _ rfl rfl HN2.out HS2.out (by rw [HJL.out]; omega) ?_; intro v1 w3 hN3 hB3)
        have HN3 := hidden hN3
        have HB3 := hidden hB3
        clear hN3 hB3
        go_wp2_with fail
        go_roundw
        case rel =>
          refine ⟨j + 1, by omega, by omega, ?_, ?_, ?_⟩
          · rw [HE1.out]; exact HN3
          · rw [HE2.out]; exact HI2.out.below HB3.out HP.out HG.out HC.out
          · exact (hT.out.trans HT2.out).then_below HB3.out (Nat.le_refl _)
        case measure =>
          obtain ⟨a7, cap7, rfl, _, _⟩ := HN3.out.shape
          simp [sliceLen, HJL.out]
          omega
    · have e1 : m.toNat = j := by omega
      have HE1 := hidden e1
      clear e1
      go_wp2_with fail
      try rw [Exit.noGoto_ret]
      go_ret
      refine ⟨_, rfl, ?_, ?_, hT.out⟩
      · rw [HE1.out]; exact hN.out
      · rw [HE1.out]; exact hI.out

end Go.Proofs.Ytingebjeefncaaa
