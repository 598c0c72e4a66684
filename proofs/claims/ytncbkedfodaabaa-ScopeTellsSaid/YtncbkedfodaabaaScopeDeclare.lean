/- Declare: what may not be, and what may. -/
import Derived.Test.YtncbkedfodaabaaScopeClose
import Derived.Test.YtncbkedfodaabaaGenBig
import Derived.Test.YtncbkedfodaabaaGenBytes
namespace Go.Proofs.Ytncbkedfodaabaa
open Go.RowKit
set_option linter.unusedVariables false

theorem infoI' : (Try.prog.info? 3).map (fun i => (i.zero, i.size, i.bytes)) = some (some (.int .i64 0), 1, 8) := by kernel_rfl
theorem field_block (w : World) (a b c : Int) : (Instr.field 56 (.agg #[.int .i64 a, .int .i64 b, .int .i64 c]) 2).run Try.prog w = .ok (.int .i64 c) w := by kernel_rfl
/-- it may not be -/
theorem declare_not {w : World} {p : Nat} {F : Nat → Prop} {R : List (List Dc)} {ks : List Nat} (H : IsS w p F R ks) {s : ByteArray} (hs : s.size ≤ maxLen) (k : Int) (hm : may R s k = false) :
    Calls Try.prog 13 #[.pointer (some ⟨p, 0, none⟩), .string s, .int .i64 k] w fun e w' => e = .returned (.tuple #[.int .i64 0, .bool false]) ∧ w' = w := by
  have hd := depth_any H
  have hR0 : 0 < R.length := List.length_pos_iff.2 H.some_
  obtain ⟨b, n, vB, vK, vs, L⟩ := H
  have p0 : w.cell? ⟨p, 0, none⟩ = some (.map (some b)) := L.box.at_ rfl
  have hl := L.map.look hs
  clear L
  obtain ⟨x, hx⟩ : ∃ x, x = Sees R s := ⟨_, rfl⟩
  unfold may at hm
  rw [← hx] at hl hm
  obtain ⟨x1, x2, x3⟩ := x
  simp only [tv] at hl
  obtain ⟨m, hm0⟩ : ∃ m, m = R.length := ⟨_, rfl⟩
  rw [← hm0] at hd hR0 hm
  clear hx hm0
  have hz : ((m : Int) == 0) = false := by simp; omega
  by_cases h1 : k < 1
  · have h1' : decide (k < 1) = true := by simp [h1]
    clear hm h1
    go_enter Try.func13, Try.ntmps13
    go_wp2_with (go_at_call 16; refine hd.mono ?_; rintro e w1 ⟨rfl, hw1⟩; rw [hw1]; clear hw1 w1)
    go_ret2
    exact ⟨rfl, rfl⟩
  · have h1' : decide (k < 1) = false := by simp; omega
    by_cases h2 : 3 < k
    · have h2' : decide (3 < k) = true := by simp [h2]
      clear hm h1 h2
      go_enter Try.func13, Try.ntmps13
      go_wp2_with (go_at_call 16; refine hd.mono ?_; rintro e w1 ⟨rfl, hw1⟩; rw [hw1]; clear hw1 w1)
      go_ret2
      exact ⟨rfl, rfl⟩
    · have h2' : decide (3 < k) = false := by simp; omega
      have hx3 : x3 = m := by
        by_cases h3 : x3 = m
        · exact h3
        · simp [h3] at hm; omega
      have hf := field_block w x1 x2 x3
      have h3' : ((x3 : Int) == (m : Int)) = true := by simp [hx3]
      clear hm h1 h2 hx3
      go_enter Try.func13, Try.ntmps13
      go_wp2_with (go_at_call 16; refine hd.mono ?_; rintro e w1 ⟨rfl, hw1⟩; rw [hw1]; clear hw1 w1)
      go_ret2
      exact ⟨rfl, rfl⟩
end Go.Proofs.Ytncbkedfodaabaa
