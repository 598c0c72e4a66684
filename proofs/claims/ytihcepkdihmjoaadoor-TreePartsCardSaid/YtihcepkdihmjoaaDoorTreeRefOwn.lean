/- The walk through the reference's own. -/
import Derived.Test.YtihcepkdihmjoaaDoorTreeRefKids3
import Derived.Test.YtihcepkdihmjoaaDoorTreeName2
import Derived.Lib.QuietBelow
import Derived.Deep.QuietTactic
import Derived.BigQuiet
namespace Go.Proofs.YtihcepkdihmjoaaDoor
open Go.RowKit
set_option linter.unusedVariables false

theorem bcell {W w1 : World} (hb : Below W.heap.size W w1) : (∀ b o, b < W.heap.size → w1.cell? ⟨b, o, none⟩ = W.cell? ⟨b, o, none⟩) :=
  fun b o h => hb.cell (p := ⟨b, o, none⟩) h
theorem ownB_not {x : Nd} (h : ¬ (1 ≤ x.kind ∧ x.kind ≤ 26 ∧ 0 ≤ x.at_)) : ownB x = false := by
  unfold ownB
  by_cases h1 : 1 ≤ x.kind
  · by_cases h2 : x.kind ≤ 26
    · rw [decide_eq_false (show ¬ 0 ≤ x.at_ by omega)]; simp
    · rw [decide_eq_false h2]; simp
  · rw [decide_eq_false h1]; simp
set_option maxRecDepth 100000 in
set_option maxHeartbeats 4000000 in
theorem own_low (K : Int) (ka : Option Addr) (kc m : Nat) (n : Int) (s : ByteArray) (at_ : Int) (w : World) (h : K < 1 ∨ 26 < K ∨ at_ < 0) :
    Calls Tryd.prog 30 #[.agg #[.int .i64 K, .slice ka m kc, .int .i64 n, .string s, .int .i64 at_]] w fun e w' => e = .returned (.bool false) ∧ Below w.heap.size w w' := by
  by_cases h1 : K < 1
  · clear h
    go_enter Tryd.func30, Tryd.ntmps30
    go_wp2_with fail
    go_quiet (fail)
    go_wp2_with fail
    go_ret
    exact ⟨rfl, ((Below.refl _ _).alloc (Nat.le_refl _) _).trans (below_drewN _ _ _)⟩
  · have h1' : decide (K < 1) = false := by simpa using h1
    by_cases h2 : 26 < K
    · clear h
      go_enter Tryd.func30, Tryd.ntmps30
      go_wp2_with fail
      go_quiet (fail)
      go_wp2_with fail
      go_ret
      exact ⟨rfl, ((Below.refl _ _).alloc (Nat.le_refl _) _).trans (below_drewN _ _ _)⟩
    · have h2' : decide (26 < K) = false := by simpa using h2
      have h3 : at_ < 0 := by omega
      clear h
      go_enter Tryd.func30, Tryd.ntmps30
      go_wp2_with fail
      go_quiet (fail)
      go_wp2_with fail
      go_ret
      exact ⟨rfl, ((Below.refl _ _).alloc (Nat.le_refl _) _).trans (below_drewN _ _ _)⟩
theorem numB_1 (n : Int) : numB 1 n = decide (0 ≤ n) := rfl
set_option maxRecDepth 100000 in
set_option maxHeartbeats 4000000 in
theorem own_high (K : Int) (ka : Option Addr) (kc m : Nat) (n : Int) (s : ByteArray) (at_ : Int) (w : World) (h1 : 1 ≤ K) (h2 : K ≤ 26) (h3 : 0 ≤ at_) (hs : s.size ≤ 140737488351232) :
    Calls Tryd.prog 30 #[.agg #[.int .i64 K, .slice ka m kc, .int .i64 n, .string s, .int .i64 at_]] w fun e w' => e = .returned (.bool ((if named K then nameB s.data.toList else decide (s.data.toList = [])) && numB K n)) ∧ Below w.heap.size w w' := by
  have h1' : decide (K < 1) = false := by simp; omega
  have h2' : decide (26 < K) = false := by simp; omega
  have h3' : decide (at_ < 0) = false := by simp; omega
  have HTL := hidden (toList_of s)
  have cN : ∀ w1 : World, ∀ d os, Calls Tryd.prog 45 #[.int .i64 K] (Sort.grow (redrawn w1 d) os) fun e w'' => e = .returned (.bool (named K)) ∧ ∃ p : Regrown, w'' = Sort.grow (redrawn w1 p.d) p.os := fun w1 d os => Calls.regrown_of (named_any K _)
  have cR : ∀ w1 : World, ∀ d os, Calls Tryd.prog 46 #[.string s] (Sort.grow (redrawn w1 d) os) fun e w'' => e = .returned (.bool (nameB s.data.toList)) ∧ ∃ p : Regrown, w'' = Sort.grow (redrawn w1 p.d) p.os := fun w1 d os => Calls.regrown_of (rname_any s _ hs)
  obtain ⟨R, hR⟩ : ∃ R, R = ((if named K then nameB s.data.toList else decide (s.data.toList = [])) && numB K n) := ⟨_, rfl⟩
  rw [← hR]
  have HR := hidden hR
  clear hR
  obtain ⟨B1, hB1⟩ : ∃ B1, B1 = named K := ⟨_, rfl⟩
  obtain ⟨B2, hB2⟩ : ∃ B2, B2 = nameB s.data.toList := ⟨_, rfl⟩
  rw [← hB1] at cN
  rw [← hB2] at cR
  have HB1 := hidden hB1
  have HB2 := hidden hB2
  clear hB1 hB2
  by_cases hse : s.data.toList = []
  · have hse' : s.toList.isEmpty = true := by rw [HTL.out, hse]; rfl
    have hse2 : s.toList = [] := by rw [HTL.out, hse]
    have HSE := hidden hse
    clear hse
    cases B1 with
    | true =>
      go_enter Tryd.func30, Tryd.ntmps30
      go_wp2_with fail
      obtain ⟨w1, hw1⟩ : ∃ w1, w1 = w.alloc (.cells #[.int .i64 K, .slice ka m kc, .int .i64 n, .string s, .int .i64 at_] 36) := ⟨_, rfl⟩
      have HBL : Hid (Below w.heap.size w w1) := by rw [hw1]; exact (Below.refl _ _).alloc (Nat.le_refl _) _
      have HH : Hid (Held w1 w.heap.size 36 #[.int .i64 K, .slice ka m kc, .int .i64 n, .string s, .int .i64 at_]) := by rw [hw1]; exact Held.new w _ _
      have HSZ : Hid (w.heap.size ≤ w1.heap.size) := HBL.out.size
      obtain ⟨g, hg⟩ : ∃ g, g = w.heap.size := ⟨_, rfl⟩
      rw [← hw1]
      rw [← hg] at HH HBL HSZ ⊢
      have HG := hidden hg
      clear hw1 hg
      have k0 := cell_regrown (HH.out.at_ (j := 0) rfl)
      have k2 := cell_regrown (HH.out.at_ (j := 2) rfl)
      have k3 := cell_regrown (HH.out.at_ (j := 3) rfl)
      have k4 := cell_regrown (HH.out.at_ (j := 4) rfl)
      have cN1 := cN w1
      have cR1 := cR w1
      clear cN cR
      refine wp_region_quiet_below (by kernel_rfl) (by kernel_rfl) ?_
      repeat (any_goals (first | go_big_quiet_step (first | exact cN1 _ _ | exact cR1 _ _) | quiet_step (first | exact cN1 _ _ | exact cR1 _ _)))
      refine wpQuiet_nil ?_
      intro _ hw'
      obtain ⟨⟨dq, osq⟩, hw''⟩ := hw'
      obtain ⟨w2, hw2⟩ : ∃ w2, w2 = Sort.grow (redrawn w1 dq) osq := ⟨_, rfl⟩
      have HB3 : Hid (Below g w w2) := by rw [hw2]; exact HBL.out.trans ((below_regrown w1 dq osq).mono HSZ.out)
      have c0 : w2.cell? ⟨g, 0, none⟩ = some (.int .i64 K) := by rw [hw2]; exact k0 dq osq
      have c2 : w2.cell? ⟨g, 2, none⟩ = some (.int .i64 n) := by rw [hw2]; exact k2 dq osq
      rw [hw'', ← hw2]
      clear hw2 hw'' k0 k2 k3 k4 cN1 cR1 HH
      go_wp2_with fail
      go_ret
      exact ⟨by rw [HR.out, ← HB1.out, HSE.out, if_pos rfl, nb_none rfl, Bool.false_and]; rfl, by rw [← HG.out]; exact HB3.out⟩
    | false =>
      go_enter Tryd.func30, Tryd.ntmps30
      go_wp2_with fail
      obtain ⟨w1, hw1⟩ : ∃ w1, w1 = w.alloc (.cells #[.int .i64 K, .slice ka m kc, .int .i64 n, .string s, .int .i64 at_] 36) := ⟨_, rfl⟩
      have HBL : Hid (Below w.heap.size w w1) := by rw [hw1]; exact (Below.refl _ _).alloc (Nat.le_refl _) _
      have HH : Hid (Held w1 w.heap.size 36 #[.int .i64 K, .slice ka m kc, .int .i64 n, .string s, .int .i64 at_]) := by rw [hw1]; exact Held.new w _ _
      have HSZ : Hid (w.heap.size ≤ w1.heap.size) := HBL.out.size
      obtain ⟨g, hg⟩ : ∃ g, g = w.heap.size := ⟨_, rfl⟩
      rw [← hw1]
      rw [← hg] at HH HBL HSZ ⊢
      have HG := hidden hg
      clear hw1 hg
      have k0 := cell_regrown (HH.out.at_ (j := 0) rfl)
      have k2 := cell_regrown (HH.out.at_ (j := 2) rfl)
      have k3 := cell_regrown (HH.out.at_ (j := 3) rfl)
      have k4 := cell_regrown (HH.out.at_ (j := 4) rfl)
      have cN1 := cN w1
      have cR1 := cR w1
      clear cN cR
      refine wp_region_quiet_below (by kernel_rfl) (by kernel_rfl) ?_
      repeat (any_goals (first | go_big_quiet_step (first | exact cN1 _ _ | exact cR1 _ _) | quiet_step (first | exact cN1 _ _ | exact cR1 _ _)))
      refine wpQuiet_nil ?_
      intro _ hw'
      obtain ⟨⟨dq, osq⟩, hw''⟩ := hw'
      obtain ⟨w2, hw2⟩ : ∃ w2, w2 = Sort.grow (redrawn w1 dq) osq := ⟨_, rfl⟩
      have HB3 : Hid (Below g w w2) := by rw [hw2]; exact HBL.out.trans ((below_regrown w1 dq osq).mono HSZ.out)
      have c0 : w2.cell? ⟨g, 0, none⟩ = some (.int .i64 K) := by rw [hw2]; exact k0 dq osq
      have c2 : w2.cell? ⟨g, 2, none⟩ = some (.int .i64 n) := by rw [hw2]; exact k2 dq osq
      rw [hw'', ← hw2]
      clear hw2 hw'' k0 k2 k3 k4 cN1 cR1 HH
      go_wp2_with fail
      all_goals go_ret
      all_goals refine ⟨congrArg (fun b => Ending.returned (Value.bool b)) ?_, by rw [← HG.out]; exact HB3.out⟩
      all_goals rw [HR.out, ← HB1.out, if_neg Bool.false_ne_true, decide_eq_true HSE.out, Bool.true_and]
      all_goals simp only [beq_iff_eq, beq_eq_false_iff_ne, ne_eq] at *
      all_goals (unfold numB; rw [Bool.eq_iff_iff]; (repeat' split) <;> (try simp) <;> (try omega))
  · have hse' : s.toList.isEmpty = false := by rw [HTL.out, List.isEmpty_eq_false_iff]; exact hse
    have hse2 : ¬ s.toList = [] := by rw [HTL.out]; exact hse
    have HSE := hidden hse
    clear hse
    cases B1 with
    | false =>
      go_enter Tryd.func30, Tryd.ntmps30
      go_wp2_with fail
      obtain ⟨w1, hw1⟩ : ∃ w1, w1 = w.alloc (.cells #[.int .i64 K, .slice ka m kc, .int .i64 n, .string s, .int .i64 at_] 36) := ⟨_, rfl⟩
      have HBL : Hid (Below w.heap.size w w1) := by rw [hw1]; exact (Below.refl _ _).alloc (Nat.le_refl _) _
      have HH : Hid (Held w1 w.heap.size 36 #[.int .i64 K, .slice ka m kc, .int .i64 n, .string s, .int .i64 at_]) := by rw [hw1]; exact Held.new w _ _
      have HSZ : Hid (w.heap.size ≤ w1.heap.size) := HBL.out.size
      obtain ⟨g, hg⟩ : ∃ g, g = w.heap.size := ⟨_, rfl⟩
      rw [← hw1]
      rw [← hg] at HH HBL HSZ ⊢
      have HG := hidden hg
      clear hw1 hg
      have k0 := cell_regrown (HH.out.at_ (j := 0) rfl)
      have k2 := cell_regrown (HH.out.at_ (j := 2) rfl)
      have k3 := cell_regrown (HH.out.at_ (j := 3) rfl)
      have k4 := cell_regrown (HH.out.at_ (j := 4) rfl)
      have cN1 := cN w1
      have cR1 := cR w1
      clear cN cR
      refine wp_region_quiet_below (by kernel_rfl) (by kernel_rfl) ?_
      repeat (any_goals (first | go_big_quiet_step (first | exact cN1 _ _ | exact cR1 _ _) | quiet_step (first | exact cN1 _ _ | exact cR1 _ _)))
      refine wpQuiet_nil ?_
      intro _ hw'
      obtain ⟨⟨dq, osq⟩, hw''⟩ := hw'
      obtain ⟨w2, hw2⟩ : ∃ w2, w2 = Sort.grow (redrawn w1 dq) osq := ⟨_, rfl⟩
      have HB3 : Hid (Below g w w2) := by rw [hw2]; exact HBL.out.trans ((below_regrown w1 dq osq).mono HSZ.out)
      have c0 : w2.cell? ⟨g, 0, none⟩ = some (.int .i64 K) := by rw [hw2]; exact k0 dq osq
      have c2 : w2.cell? ⟨g, 2, none⟩ = some (.int .i64 n) := by rw [hw2]; exact k2 dq osq
      rw [hw'', ← hw2]
      clear hw2 hw'' k0 k2 k3 k4 cN1 cR1 HH
      go_wp2_with fail
      go_ret
      exact ⟨by rw [HR.out, ← HB1.out, if_neg Bool.false_ne_true, decide_eq_false HSE.out, Bool.false_and]; rfl, by rw [← HG.out]; exact HB3.out⟩
    | true =>
      cases B2 with
      | false =>
        go_enter Tryd.func30, Tryd.ntmps30
        go_wp2_with fail
        obtain ⟨w1, hw1⟩ : ∃ w1, w1 = w.alloc (.cells #[.int .i64 K, .slice ka m kc, .int .i64 n, .string s, .int .i64 at_] 36) := ⟨_, rfl⟩
        have HBL : Hid (Below w.heap.size w w1) := by rw [hw1]; exact (Below.refl _ _).alloc (Nat.le_refl _) _
        have HH : Hid (Held w1 w.heap.size 36 #[.int .i64 K, .slice ka m kc, .int .i64 n, .string s, .int .i64 at_]) := by rw [hw1]; exact Held.new w _ _
        have HSZ : Hid (w.heap.size ≤ w1.heap.size) := HBL.out.size
        obtain ⟨g, hg⟩ : ∃ g, g = w.heap.size := ⟨_, rfl⟩
        rw [← hw1]
        rw [← hg] at HH HBL HSZ ⊢
        have HG := hidden hg
        clear hw1 hg
        have k0 := cell_regrown (HH.out.at_ (j := 0) rfl)
        have k2 := cell_regrown (HH.out.at_ (j := 2) rfl)
        have k3 := cell_regrown (HH.out.at_ (j := 3) rfl)
        have k4 := cell_regrown (HH.out.at_ (j := 4) rfl)
        have cN1 := cN w1
        have cR1 := cR w1
        clear cN cR
        refine wp_region_quiet_below (by kernel_rfl) (by kernel_rfl) ?_
        repeat (any_goals (first | go_big_quiet_step (first | exact cN1 _ _ | exact cR1 _ _) | quiet_step (first | exact cN1 _ _ | exact cR1 _ _)))
        refine wpQuiet_nil ?_
        intro _ hw'
        obtain ⟨⟨dq, osq⟩, hw''⟩ := hw'
        obtain ⟨w2, hw2⟩ : ∃ w2, w2 = Sort.grow (redrawn w1 dq) osq := ⟨_, rfl⟩
        have HB3 : Hid (Below g w w2) := by rw [hw2]; exact HBL.out.trans ((below_regrown w1 dq osq).mono HSZ.out)
        have c0 : w2.cell? ⟨g, 0, none⟩ = some (.int .i64 K) := by rw [hw2]; exact k0 dq osq
        have c2 : w2.cell? ⟨g, 2, none⟩ = some (.int .i64 n) := by rw [hw2]; exact k2 dq osq
        rw [hw'', ← hw2]
        clear hw2 hw'' k0 k2 k3 k4 cN1 cR1 HH
        go_wp2_with fail
        go_ret
        exact ⟨by rw [HR.out, ← HB1.out, if_pos rfl, ← HB2.out, Bool.false_and]; rfl, by rw [← HG.out]; exact HB3.out⟩
      | true =>
        go_enter Tryd.func30, Tryd.ntmps30
        go_wp2_with fail
        obtain ⟨w1, hw1⟩ : ∃ w1, w1 = w.alloc (.cells #[.int .i64 K, .slice ka m kc, .int .i64 n, .string s, .int .i64 at_] 36) := ⟨_, rfl⟩
        have HBL : Hid (Below w.heap.size w w1) := by rw [hw1]; exact (Below.refl _ _).alloc (Nat.le_refl _) _
        have HH : Hid (Held w1 w.heap.size 36 #[.int .i64 K, .slice ka m kc, .int .i64 n, .string s, .int .i64 at_]) := by rw [hw1]; exact Held.new w _ _
        have HSZ : Hid (w.heap.size ≤ w1.heap.size) := HBL.out.size
        obtain ⟨g, hg⟩ : ∃ g, g = w.heap.size := ⟨_, rfl⟩
        rw [← hw1]
        rw [← hg] at HH HBL HSZ ⊢
        have HG := hidden hg
        clear hw1 hg
        have k0 := cell_regrown (HH.out.at_ (j := 0) rfl)
        have k2 := cell_regrown (HH.out.at_ (j := 2) rfl)
        have k3 := cell_regrown (HH.out.at_ (j := 3) rfl)
        have k4 := cell_regrown (HH.out.at_ (j := 4) rfl)
        have cN1 := cN w1
        have cR1 := cR w1
        clear cN cR
        refine wp_region_quiet_below (by kernel_rfl) (by kernel_rfl) ?_
        repeat (any_goals (first | go_big_quiet_step (first | exact cN1 _ _ | exact cR1 _ _) | quiet_step (first | exact cN1 _ _ | exact cR1 _ _)))
        refine wpQuiet_nil ?_
        intro _ hw'
        obtain ⟨⟨dq, osq⟩, hw''⟩ := hw'
        obtain ⟨w2, hw2⟩ : ∃ w2, w2 = Sort.grow (redrawn w1 dq) osq := ⟨_, rfl⟩
        have HB3 : Hid (Below g w w2) := by rw [hw2]; exact HBL.out.trans ((below_regrown w1 dq osq).mono HSZ.out)
        have c0 : w2.cell? ⟨g, 0, none⟩ = some (.int .i64 K) := by rw [hw2]; exact k0 dq osq
        have c2 : w2.cell? ⟨g, 2, none⟩ = some (.int .i64 n) := by rw [hw2]; exact k2 dq osq
        rw [hw'', ← hw2]
        clear hw2 hw'' k0 k2 k3 k4 cN1 cR1 HH
        go_wp2_with fail
        all_goals go_ret
        all_goals refine ⟨congrArg (fun b => Ending.returned (Value.bool b)) ?_, by rw [← HG.out]; exact HB3.out⟩
        all_goals rw [HR.out, ← HB1.out, if_pos rfl, ← HB2.out, Bool.true_and]
        all_goals simp only [beq_iff_eq, beq_eq_false_iff_ne, ne_eq] at *
        all_goals (unfold numB; rw [Bool.eq_iff_iff]; (repeat' split) <;> (try simp) <;> (try omega))
/-- own, whatever the node -/
theorem own_any (x : Nd) (w : World) (hs : x.s.size ≤ 140737488351232) :
    Calls Tryd.prog 30 #[x.v] w fun e w' => e = .returned (.bool (ownB x)) ∧ Below w.heap.size w w' := by
  obtain ⟨K, ka, kc, ks, n, s, at_⟩ := x
  by_cases h : 1 ≤ K ∧ K ≤ 26 ∧ 0 ≤ at_
  · refine (own_high K ka kc ks.length n s at_ w h.1 h.2.1 h.2.2 hs).mono ?_
    rintro e w' ⟨rfl, hb⟩
    refine ⟨?_, hb⟩
    have : ownB ⟨K, ka, kc, ks, n, s, at_⟩ = ((if named K then nameB s.data.toList else decide (s.data.toList = [])) && numB K n) := by
      show (decide (1 ≤ K) && decide (K ≤ 26) && decide (0 ≤ at_) && (if named K then nameB s.data.toList else decide (s.data.toList = [])) && numB K n) = _
      rw [decide_eq_true h.1, decide_eq_true h.2.1, decide_eq_true h.2.2, Bool.true_and, Bool.true_and, Bool.true_and]
    rw [this]
  · refine (own_low K ka kc ks.length n s at_ w (by omega)).mono ?_
    rintro e w' ⟨rfl, hb⟩
    refine ⟨?_, hb⟩
    rw [ownB_not (x := ⟨K, ka, kc, ks, n, s, at_⟩) h]
end Go.Proofs.YtihcepkdihmjoaaDoor
