/- The chapter's example. -/
import Derived.Test.YtncbkedfodaabaaScopeDeclare3
namespace Go.Proofs.Ytncbkedfodaabaa
open Go.RowKit
set_option linter.unusedVariables false

/-- all of its blocks are behind B -/
def Off (B : Nat) (F : Nat → Prop) : Prop := ∀ k, F k → B ≤ k
theorem Off.grew {B : Nat} {F F' : Nat → Prop} {w : World} (h : Off B F) (hg : Grew F F' w) (hB : B ≤ w.heap.size) : Off B F' := fun k hk => by
  rcases hg k hk with h1 | h1
  · exact h k h1
  · omega
theorem Tn.from {B : Nat} {F : Nat → Prop} {w0 w w' : World} (h : Tn F w w') (hF : Off B F) (h0 : Below B w0 w) (hB : B ≤ w0.heap.size) : Below B w0 w' :=
  h0.trans (h.low hF (Nat.le_trans hB h0.size))
def nmA : ByteArray := ⟨#[97]⟩
theorem nmA_size : nmA.size ≤ maxLen := by decide
set_option maxRecDepth 100000 in
theorem works_any (w : World) : Calls Try.prog 6 #[] w fun e w' => e = .returned (.bool true) ∧ Below w.heap.size w w' := by
  obtain ⟨B, hB⟩ : ∃ B, B = w.heap.size := ⟨_, rfl⟩
  rw [← hB]
  have HB := hidden hB
  clear hB
  have e1 : told (Sees [[⟨nmA, 1, 3⟩], [⟨nmA, 0, 1⟩]] nmA) = .tuple #[.int .i64 1, .int .i64 3, .bool true] := by
    have := sees_more (b := []) (R := [[⟨nmA, 0, 1⟩]]) ⟨nmA, 1, 3⟩ nmA
    rw [List.nil_append, if_pos rfl] at this
    rw [this]; rfl
  have e2 : told (Sees [[⟨nmA, 0, 1⟩]] nmA) = .tuple #[.int .i64 0, .int .i64 1, .bool true] := by
    have := sees_more (b := []) (R := []) ⟨nmA, 0, 1⟩ nmA
    rw [List.nil_append, if_pos rfl] at this
    rw [this]; rfl
  have HE1 := hidden e1
  have HE2 := hidden e2
  clear e1 e2
  go_enter Try.func6, Try.ntmps6
  go_wp2_with (go_at_call 7; refine (new_any w).mono ?_; rintro e w1 ⟨p, F1, rfl, hS1, hb1, ho1⟩)
  have HS1 := hidden hS1
  have HB1 := hidden (show Below B w w1 by rw [HB.out]; exact hb1)
  have HO1 := hidden (show Off B F1 by rw [HB.out]; exact ho1)
  clear hS1 hb1 ho1
  go_wp2_with (go_at_call 13; refine (declare_yes (s := nmA) (b0 := []) (R := []) HS1.out nmA_size 1 (by decide) (by decide) (by simp) (by simp) (by simp)).mono ?_; rintro e w2 ⟨rfl, F2, hS2, hT2, hG2⟩)
  have HS2 := hidden (show IsS w2 p F2 [[⟨nmA, 0, 1⟩]] [1] from hS2)
  have HB2 := hidden (hT2.from HO1.out HB1.out (by rw [HB.out]; exact Nat.le_refl _))
  have HO2 := hidden (HO1.out.grew hG2 (by rw [HB.out]; exact HB1.out.size))
  clear hS2 hT2 hG2
  go_wp2_with (go_at_call 9; refine (open_any HS2.out (by simp)).mono ?_; rintro e w3 ⟨rfl, F3, hS3, hT3, hG3⟩)
  have HS3 := hidden hS3
  have HB3 := hidden (hT3.from HO2.out HB2.out (by rw [HB.out]; exact Nat.le_refl _))
  have HO3 := hidden (HO2.out.grew hG3 (by rw [HB.out]; exact HB2.out.size))
  clear hS3 hT3 hG3
  go_wp2_with (go_at_call 13; refine (declare_yes (s := nmA) (b0 := []) (R := [[⟨nmA, 0, 1⟩]]) HS3.out nmA_size 3 (by decide) (by decide) (by simp) (by simp) (by simp)).mono ?_; rintro e w4 ⟨rfl, F4, hS4, hT4, hG4⟩)
  have HS4 := hidden (show IsS w4 p F4 [[⟨nmA, 1, 3⟩], [⟨nmA, 0, 1⟩]] [1, 3] from hS4)
  have HB4 := hidden (hT4.from HO3.out HB3.out (by rw [HB.out]; exact Nat.le_refl _))
  have HO4 := hidden (HO3.out.grew hG4 (by rw [HB.out]; exact HB3.out.size))
  clear hS4 hT4 hG4
  go_wp2_with (go_at_call 15; refine (find_any HS4.out nmA_size).mono ?_; rintro e w5 ⟨he, hb5⟩; rw [HE1.out] at he; subst he)
  have HS5 := hidden (HS4.out.below hb5)
  have HB5 := hidden (HB4.out.trans (hb5.mono (by rw [HB.out]; exact HB4.out.size)))
  clear hb5
  go_wp2_with (go_at_call 11; refine (close_two HS5.out (by simp) (by simp)).mono ?_; rintro e w6 ⟨rfl, F6, hS6, hT6, hG6⟩)
  have HS6 := hidden hS6
  have HB6 := hidden (hT6.from HO4.out HB5.out (by rw [HB.out]; exact Nat.le_refl _))
  clear hS6 hT6 hG6
  go_wp2_with (go_at_call 15; refine (find_any HS6.out nmA_size).mono ?_; rintro e w7 ⟨he, hb7⟩; rw [HE2.out] at he; subst he)
  have HS7 := hidden (HS6.out.below hb7)
  have HB7 := hidden (HB6.out.trans (hb7.mono (by rw [HB.out]; exact HB6.out.size)))
  clear hb7
  go_wp2_with (go_at_call 11; refine (close_one HS7.out).mono ?_; rintro e w8 ⟨rfl, hw8⟩; rw [hw8]; clear hw8 w8)
  go_ret
  exact ⟨rfl, HB7.out⟩
end Go.Proofs.Ytncbkedfodaabaa
