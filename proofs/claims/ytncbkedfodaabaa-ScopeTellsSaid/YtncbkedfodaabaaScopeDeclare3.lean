/- Declare, at all arguments. -/
import Derived.Test.YtncbkedfodaabaaScopeDeclare2
namespace Go.Proofs.Ytncbkedfodaabaa
open Go.RowKit
set_option linter.unusedVariables false

theorem may_yes {b0 : List Dc} {R : List (List Dc)} {s : ByteArray} {k : Int} (h : may (b0 :: R) s k = true) : 1 ≤ k ∧ k ≤ 3 ∧ ¬ ∃ d ∈ b0, d.nm = s := by
  unfold may at h
  simp only [Bool.and_eq_true, decide_eq_true_eq, Bool.not_eq_true', decide_eq_false_iff_not] at h
  exact ⟨h.1.1, h.1.2, fun e => h.2 ((sees_here s).2 e)⟩
theorem declared_yes {b0 : List Dc} {R : List (List Dc)} {ks : List Nat} {s : ByteArray} {k : Int} (h : may (b0 :: R) s k = true) : declared (b0 :: R) ks s k = ((b0 ++ [⟨s, ks.length, k.toNat⟩]) :: R, ks ++ [k.toNat]) := by
  unfold declared
  rw [if_pos h]
theorem declared_no {R : List (List Dc)} {ks : List Nat} {s : ByteArray} {k : Int} (h : may R s k = false) : declared R ks s k = (R, ks) := by
  unfold declared
  rw [if_neg (by rw [h]; exact Bool.false_ne_true)]
/-- what Declare tells -/
def slotOf (R : List (List Dc)) (ks : List Nat) (s : ByteArray) (k : Int) : Value := .tuple #[.int .i64 (if may R s k then (ks.length : Int) else 0), .bool (may R s k)]
theorem declare_any {w : World} {p : Nat} {F : Nat → Prop} {R : List (List Dc)} {ks : List Nat} (H : IsS w p F R ks) {s : ByteArray} (hs : s.size ≤ maxLen) (k : Int) (hR : R.length ≤ 1000000) (hks : ks.length ≤ 1000000) :
    Calls Try.prog 13 #[.pointer (some ⟨p, 0, none⟩), .string s, .int .i64 k] w fun e w' => e = .returned (slotOf R ks s k) ∧ ∃ F', IsS w' p F' (declared R ks s k).1 (declared R ks s k).2 ∧ Tn F w w' ∧ Grew F F' w := by
  cases hm : may R s k with
  | false =>
    refine (declare_not H hs k hm).mono ?_
    rintro e w' ⟨rfl, rfl⟩
    rw [declared_no hm]
    refine ⟨by unfold slotOf; rw [hm]; rfl, F, H, Tn.below (Below.refl _ _), Grew.refl F _⟩
  | true =>
    match R, H with
    | [], H => exact absurd rfl H.some_
    | b0 :: R', H =>
      obtain ⟨h1, h3, hno⟩ := may_yes hm
      obtain ⟨kn, rfl⟩ : ∃ kn : Nat, k = (kn : Int) := ⟨k.toNat, by omega⟩
      refine (declare_yes H hs kn (by omega) (by omega) hno (by simp at hR; omega) hks).mono ?_
      rintro e w' ⟨rfl, F', h⟩
      rw [declared_yes hm]
      refine ⟨by unfold slotOf; rw [hm]; rfl, F', ?_⟩
      rw [Int.toNat_natCast]
      exact h
/-- nothing is declared where none is -/
theorem declare_nil (w : World) (s : ByteArray) (k : Int) : Calls Try.prog 13 #[.pointer none, .string s, .int .i64 k] w fun e w' => e = .returned (.tuple #[.int .i64 0, .bool false]) ∧ w' = w := by
  have hd := depth_nil w
  go_enter Try.func13, Try.ntmps13
  go_wp2_with (go_at_call 16; refine hd.mono ?_; rintro e w1 ⟨rfl, hw1⟩; rw [hw1]; clear hw1 w1)
  go_ret2
  exact ⟨rfl, rfl⟩
theorem declare_zero {w : World} {p : Nat} (H : Held w p 52 zcs) (s : ByteArray) (k : Int) : Calls Try.prog 13 #[.pointer (some ⟨p, 0, none⟩), .string s, .int .i64 k] w fun e w' => e = .returned (.tuple #[.int .i64 0, .bool false]) ∧ w' = w := by
  have hd := depth_zero H
  clear H
  go_enter Try.func13, Try.ntmps13
  go_wp2_with (go_at_call 16; refine hd.mono ?_; rintro e w1 ⟨rfl, hw1⟩; rw [hw1]; clear hw1 w1)
  go_ret2
  exact ⟨rfl, rfl⟩
end Go.Proofs.Ytncbkedfodaabaa
