/- The reference: Declare, at all arguments. -/
import Derived.Test.YtncbkedfodaabaaScopeRefDeclare
namespace Go.Proofs.Ytncbkedfodaabaa
open Go.RowKit
set_option linter.unusedVariables false

theorem may_low {R : List (List Dc)} {s : ByteArray} {k : Int} (h : k < 1) : may R s k = false := by
  unfold may
  have : decide (1 ≤ k) = false := by simp; omega
  rw [this]; rfl
theorem may_high {R : List (List Dc)} {s : ByteArray} {k : Int} (h : 3 < k) : may R s k = false := by
  unfold may
  have : decide (k ≤ 3) = false := by simp; omega
  rw [this, Bool.and_false]; rfl
theorem may_here {R : List (List Dc)} {s : ByteArray} {k : Int} (h : (Sees R s).2.2 = R.length) : may R s k = false := by
  unfold may
  rw [decide_eq_true h, Bool.not_true, Bool.and_false]
theorem may_ok {R : List (List Dc)} {s : ByteArray} {k : Int} (h1 : ¬ k < 1) (h3 : ¬ 3 < k) (h : (Sees R s).2.2 ≠ R.length) : may R s k = true := by
  unfold may
  have e1 : decide (1 ≤ k) = true := by simp; omega
  have e2 : decide (k ≤ 3) = true := by simp; omega
  rw [e1, e2, decide_eq_false h]; rfl
theorem rdeclare_any {w : World} {N : Nat → Prop} {aL aK : Option Addr} {cL cK : Nat} {R : List (List Dc)} {ks : List Nat} (H : IsX w N aL cL aK cK R ks) (s : ByteArray) (k : Int) (hne : R ≠ []) (hl : (flat R).length ≤ 1000) (hR : R.length ≤ 1000) (hks : ks.length ≤ 1000) :
    Calls Try.prog 12 #[xval aL cL aK cK R ks, .string s, .int .i64 k] w fun e w' => ∃ aL' cL' aK' cK', e = .returned (.tuple #[xval aL' cL' aK' cK' (declared R ks s k).1 (declared R ks s k).2, .bool (may R s k)]) ∧ IsX w' (fun g => N g ∨ w.heap.size ≤ g) aL' cL' aK' cK' (declared R ks s k).1 (declared R ks s k).2 ∧ Below w.heap.size w w' := by
  by_cases h1 : k < 1
  · rw [declared_no (may_low h1), may_low h1]
    exact rdeclare_low H s k hl hR hks h1
  · by_cases h3 : 3 < k
    · rw [declared_no (may_high h3), may_high h3]
      exact rdeclare_high H s k hl hR hks h1 h3
    · obtain ⟨b0, R', hRb⟩ : ∃ b R', R = b :: R' := by
        cases R with
        | nil => exact absurd rfl hne
        | cons b R' => exact ⟨b, R', rfl⟩
      have hyes : (Sees R s).2.2 ≠ R.length → may R s k = true ∧ declared R ks s k = ((b0 ++ [⟨s, ks.length, k.toNat⟩]) :: R', ks ++ [k.toNat]) := fun h => by
        have hm := may_ok h1 h3 h
        refine ⟨hm, ?_⟩
        subst hRb
        exact declared_yes hm
      rcases ix_whole (flat R) s with ⟨hix, hlk⟩ | ⟨j, hj, hix, hlk⟩
      · obtain ⟨e1, e2⟩ := hyes (by
          unfold Sees
          rw [hlk]
          show 0 ≠ R.length
          rw [hRb]; simp)
        rw [e1, e2]
        exact rdeclare_new hRb H s k hl hR hks h1 h3 hix
      · have hs : (Sees R s).2.2 = ((flat R).getD j default).bk := by
          unfold Sees
          rw [hlk]
          rfl
        by_cases hbk : ((flat R).getD j default).bk = R.length
        · have hm := may_here (k := k) (hs.trans hbk)
          rw [declared_no hm, hm]
          exact rdeclare_here H s k hl hR hks h1 h3 j hj hix hbk
        · obtain ⟨e1, e2⟩ := hyes (by rw [hs]; exact hbk)
          rw [e1, e2]
          exact rdeclare_far hRb H s k hl hR hks h1 h3 j hj hix hbk
end Go.Proofs.Ytncbkedfodaabaa
