/- The walks through the reader's functions behind what was noted: nothing is taken, nothing laid. -/
import Derived.Test.YtnmeijcaaohnpaaDoorExprGood
namespace Go.Proofs.YtnmeijcaaohnpaaDoor
open Go.RowKit
set_option linter.unusedVariables false

variable {B g : Nat} {L : List Tk} {w : World} {R : Bx} {d : Nat} {f : Flt}
set_option maxRecDepth 100000 in
theorem single_bad (H : Bad B g L w R d f) :
    Calls Tryd.prog 54 #[.pointer (some ⟨g, 0, none⟩)] w fun en w' => en = .returned (.int .i64 (-1)) ∧ Below w.heap.size w w' := by
  have HH := hidden H
  clear H
  go_enter Tryd.func54, Tryd.ntmps54
  rw [veil 2, veil 14, veil 20]
  go_wp2_with fail
  refine (b_token HH.out).mono ?_
  rintro en w1 ⟨K, N, A, X, rfl, hb1⟩
  have HB1 := hidden hb1
  clear hb1
  go_wp2_with fail
  obtain ⟨W, hW⟩ : ∃ W, W = w1.alloc (.cells #[.int .i64 (K : Int), .string X, .int .i64 (N : Int), .int .i64 (A : Int)] 31) := ⟨_, rfl⟩
  obtain ⟨G, hG⟩ : ∃ G, G = w1.heap.size := ⟨_, rfl⟩
  have HG : Hid (Held W G 31 #[.int .i64 (K : Int), .string X, .int .i64 (N : Int), .int .i64 (A : Int)]) := by rw [hW, hG]; exact Held.new _ _ _
  have HB : Hid (Below w.heap.size w W) := by rw [hW]; exact HB1.out.alloc HB1.out.size _
  rw [← hW, ← hG]
  clear hW hG HB1
  refine wp_veil ?_
  go_wp2_with fail
  refine (b_is lp (HH.out.below HB.out)).mono ?_
  rintro en w2 ⟨rfl, hb⟩
  replace HG := hidden (HG.out.since hb)
  replace HB := hidden (below_then HB.out hb)
  clear hb
  go_wp2_with fail
  refine (b_skip wTrue (HH.out.below HB.out)).mono ?_
  rintro en w3 ⟨rfl, hb⟩
  replace HG := hidden (HG.out.since hb)
  replace HB := hidden (below_then HB.out hb)
  clear hb
  go_wp2_with fail
  refine (b_skip wFalse (HH.out.below HB.out)).mono ?_
  rintro en w4 ⟨rfl, hb⟩
  replace HG := hidden (HG.out.since hb)
  replace HB := hidden (below_then HB.out hb)
  clear hb
  go_wp2_with fail
  refine (b_skip wNil (HH.out.below HB.out)).mono ?_
  rintro en w5 ⟨rfl, hb⟩
  replace HG := hidden (HG.out.since hb)
  replace HB := hidden (below_then HB.out hb)
  clear hb
  go_wp2_with fail
  refine (b_skip wLen (HH.out.below HB.out)).mono ?_
  rintro en w6 ⟨rfl, hb⟩
  replace HG := hidden (HG.out.since hb)
  replace HB := hidden (below_then HB.out hb)
  clear hb
  go_wp2_with fail
  refine (b_skip wNew (HH.out.below HB.out)).mono ?_
  rintro en w7 ⟨rfl, hb⟩
  replace HG := hidden (HG.out.since hb)
  replace HB := hidden (below_then HB.out hb)
  clear hb
  go_wp2_with fail
  refine wp_veil ?_
  have z0 := HG.out.t0
  by_cases hk : K = 2
  · have hk2 : ((K : Int) == 2) = true := by simp; omega
    go_wp2_with fail
    refine (b_canTake (HH.out.below HB.out)).mono ?_
    rintro en w20 ⟨rfl, hb⟩
    replace HG := hidden (HG.out.since hb)
    replace HB := hidden (below_then HB.out hb)
    clear hb z0
    go_wp2_with fail
    refine (b_name (HH.out.below HB.out)).mono ?_
    rintro en w21 ⟨rfl, hb⟩
    replace HG := hidden (HG.out.since hb)
    replace HB := hidden (below_then HB.out hb)
    clear hb
    go_wp2_with fail
    refine (b_is lp (HH.out.below HB.out)).mono ?_
    rintro en w22 ⟨rfl, hb⟩
    replace HG := hidden (HG.out.since hb)
    replace HB := hidden (below_then HB.out hb)
    clear hb
    have z3 := HG.out.t3
    go_wp2_with fail
    refine wp_veil ?_
    go_wp2_with fail
    refine (b_put _ _ _ _ _ (HH.out.below HB.out)).mono ?_
    rintro en w23 ⟨rfl, hb⟩
    replace HB := hidden (below_then HB.out hb)
    clear hb
    go_wp2_with fail
    go_ret
    exact ⟨rfl, HB.out⟩
  · have hk2 : ((K : Int) == 2) = false := by simp; omega
    go_wp2_with fail
    refine (b_name (HH.out.below HB.out)).mono ?_
    rintro en w21 ⟨rfl, hb⟩
    replace HG := hidden (HG.out.since hb)
    replace HB := hidden (below_then HB.out hb)
    clear hb
    go_wp2_with fail
    refine (b_is lp (HH.out.below HB.out)).mono ?_
    rintro en w22 ⟨rfl, hb⟩
    replace HG := hidden (HG.out.since hb)
    replace HB := hidden (below_then HB.out hb)
    clear hb
    have z3 := HG.out.t3
    go_wp2_with fail
    refine wp_veil ?_
    go_wp2_with fail
    refine (b_put _ _ _ _ _ (HH.out.below HB.out)).mono ?_
    rintro en w23 ⟨rfl, hb⟩
    replace HB := hidden (below_then HB.out hb)
    clear hb
    go_wp2_with fail
    go_ret
    exact ⟨rfl, HB.out⟩
theorem indexed_bad (H : Bad B g L w R d f) :
    Calls Tryd.prog 52 #[.pointer (some ⟨g, 0, none⟩)] w fun en w' => en = .returned (.int .i64 (-1)) ∧ Below w.heap.size w w' := by
  have HH := hidden H
  clear H
  have HB : Hid (Below w.heap.size w w) := Below.refl _ _
  go_enter Tryd.func52, Tryd.ntmps52
  go_wp2_with fail
  refine (single_bad (HH.out.below HB.out)).mono ?_
  rintro en w1 ⟨rfl, hb⟩
  replace HB := hidden (below_then HB.out hb)
  clear hb
  go_wp2_with fail
  go_loopw [3] (fun t3 wr => wr = w1 ∧ t3 = .int .i64 (-1)) (fun _ _ => 0)
  case atStart => exact ⟨rfl, rfl⟩
  case round =>
    obtain ⟨rfl, rfl⟩ := hrel
    go_wp2_with fail
    refine (b_is lb (HH.out.below HB.out)).mono ?_
    rintro en w2 ⟨rfl, hb⟩
    replace HB := hidden (below_then HB.out hb)
    clear hb
    go_wp2_with fail
    go_ret
    exact ⟨rfl, HB.out⟩
end Go.Proofs.YtnmeijcaaohnpaaDoor
