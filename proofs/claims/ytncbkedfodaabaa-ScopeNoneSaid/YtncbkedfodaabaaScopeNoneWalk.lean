/- The walk of ScopeNone: scopes that no call made see nothing. -/
import Derived.Test.YtncbkedfodaabaaScopeWorks
namespace Go.Proofs.Ytncbkedfodaabaa
open Go.RowKit
set_option linter.unusedVariables false

theorem infoZ (w : World) : (Instr.build 52 #[]).run Try.prog w = .ok (.agg zcs) w := by kernel_rfl
set_option maxRecDepth 100000 in
set_option maxHeartbeats 20000000 in
theorem none_walk (s : ByteArray) (k : Int) (w : World) (hs : s.size ≤ maxLen) (hk : (Lit.int .i64 k).wf = true) :
    Calls Try.prog 5 #[.string s, .int .i64 k] w fun e w' => e = .returned (.bool true) ∧ Below w.heap.size w w' := by
  obtain ⟨w1, hw1⟩ : ∃ w1, w1 = w.alloc (.cells zcs 52) := ⟨_, rfl⟩
  obtain ⟨p, hp⟩ : ∃ p, p = w.heap.size := ⟨_, rfl⟩
  have HZ := hidden (show Held w1 p 52 zcs by rw [hw1, hp]; exact Held.new _ _ _)
  have HB1 := hidden (show Below w.heap.size w w1 by rw [hw1]; exact (Below.refl _ _).alloc (Nat.le_refl _) _)
  have HW1 := hidden hw1
  have HP := hidden hp
  have HS := hidden hs
  have ht0 : told (0, 0, 0) = .tuple #[.int .i64 0, .int .i64 0, .bool false] := rfl
  have HT0 := hidden ht0
  clear hw1 hp hs hk ht0
  go_enter Try.func5, Try.ntmps5
  go_wp2_with fail
  rw [show w.alloc (.cells #[.map none, .slice none 0 0, .slice none 0 0] 52) = w1 from HW1.out.symm, ← HP.out]
  go_wp2_with (go_at_call 9; with_reducible refine (open_nil w1).mono ?_; rintro e w2 ⟨rfl, hw2⟩; rw [hw2]; clear hw2 w2)
  go_wp2_with (go_at_call 9; with_reducible refine (open_zero HZ.out).mono ?_; rintro e w2 ⟨rfl, hw2⟩; rw [hw2]; clear hw2 w2)
  go_wp2_with (go_at_call 13; with_reducible refine (declare_nil w1 s k).mono ?_; rintro e w2 ⟨rfl, hw2⟩; rw [hw2]; clear hw2 w2)
  go_wp2_with (go_at_call 13; with_reducible refine (declare_zero HZ.out s k).mono ?_; rintro e w2 ⟨rfl, hw2⟩; rw [hw2]; clear hw2 w2)
  go_wp2_with (go_at_call 15; with_reducible refine (find_nil w1 s).mono ?_; rintro e w2 ⟨he, hw2⟩; rw [HT0.out] at he; subst he; rw [hw2]; clear hw2 w2)
  go_wp2_with (go_at_call 15; with_reducible refine (find_zero HZ.out HS.out).mono ?_; rintro e w2 ⟨he, hb2⟩; rw [HT0.out] at he; subst he)
  have HZ2 := hidden (HZ.out.since hb2)
  have HB2 := hidden (HB1.out.trans (hb2.mono HB1.out.size))
  clear hb2
  go_wp2_with (go_at_call 11; with_reducible refine (close_nil w2).mono ?_; rintro e w3 ⟨rfl, hw3⟩; rw [hw3]; clear hw3 w3)
  go_wp2_with (go_at_call 11; with_reducible refine (close_zero HZ2.out).mono ?_; rintro e w3 ⟨rfl, hw3⟩; rw [hw3]; clear hw3 w3)
  go_wp2_with (go_at_call 16; with_reducible refine (depth_nil w2).mono ?_; rintro e w3 ⟨rfl, hw3⟩; rw [hw3]; clear hw3 w3)
  go_wp2_with (go_at_call 16; with_reducible refine (depth_zero HZ2.out).mono ?_; rintro e w3 ⟨rfl, hw3⟩; rw [hw3]; clear hw3 w3)
  go_wp2_with (go_at_call 18; with_reducible refine (kinds_nil w2).mono ?_; rintro e w3 ⟨rfl, hw3⟩; rw [hw3]; clear hw3 w3)
  go_wp2_with (go_at_call 18; with_reducible refine (kinds_zero HZ2.out).mono ?_; rintro e w3 ⟨v', rfl, hown, hb3⟩; obtain ⟨av, cv, rfl, _⟩ := own_len hown)
  have HB3 := hidden (HB2.out.trans (hb3.mono HB2.out.size))
  clear hb3 hown
  go_wp2_with (go_at_call 6; with_reducible refine (works_any w3).mono ?_; rintro e w4 ⟨rfl, hb4⟩)
  go_ret
  exact ⟨rfl, HB3.out.trans (hb4.mono HB3.out.size)⟩
end Go.Proofs.Ytncbkedfodaabaa
