/- The walk through New. -/
import Derived.Test.YtingebjeefncaaaQueueTake
import Derived.WalkKit
namespace Go.Proofs.Ytingebjeefncaaa
open Go.RowKit Go.Conc
set_option linter.unusedVariables false

theorem infoB : (Try.prog.info? 4).map (fun i => (i.zero, i.size, i.bytes)) = some (some (.bool false), 1, 1) := by kernel_rfl
theorem new_none (n : Int) (w : World) (hn : n < 0 ∨ 65536 < n) :
    Calls Try.prog 7 #[.int .i64 n] w fun e w' => e = .returned (.pointer none) ∧ w' = w := by
  rcases hn with hn | hn
  · go_enter Try.func7, Try.ntmps7
    go_wp2
    go_ret
    exact ⟨rfl, rfl⟩
  · have h0 : ¬ n < 0 := by omega
    go_enter Try.func7, Try.ntmps7
    go_wp2
    go_ret
    exact ⟨rfl, rfl⟩
theorem IsQ.fresh {w : World} {p g c n : Nat} (hp : w.heap[p]? = some (.cells #[.chan (some c), .slice (some ⟨g, 0, none⟩) n n] 45 (0, 0))) (hg : w.heap[g]? = some (.cells (madeCells #[.bool false] n) 4 (0, 0)))
    (hc : w.heap[c]? = some (.chan n #[] false 0 0 false)) (hn : n ≤ 65536) (hpg : p ≠ g) : IsQ w p g c n [] := by
  obtain ⟨cs, hb, hs, hcs⟩ := World.rowIs_made w (.bool false) n 4
  have hbb : (w.alloc (.cells (madeCells #[.bool false] n) 4)).heap[w.heap.size]? = some (.cells (madeCells #[.bool false] n) 4 (0, 0)) := heap_alloc_new w _
  rw [hbb] at hb
  cases hb
  exact ⟨hp, ⟨_, hg, hs, fun j hj => by rw [hcs j hj]; simp⟩, ⟨0, 0, hc⟩, List.nodup_nil, fun x hx => by simp at hx, hn, hpg⟩
theorem three_at (w : World) (a b d : Obj) : (((w.alloc a).alloc b).alloc d).heap[w.heap.size]? = some a ∧ (((w.alloc a).alloc b).alloc d).heap[w.heap.size + 1]? = some b ∧ (((w.alloc a).alloc b).alloc d).heap[w.heap.size + 1 + 1]? = some d := by
  refine ⟨?_, ?_, ?_⟩
  · rw [Below.heap_alloc _ _ _ (by simp; omega), Below.heap_alloc _ _ _ (by simp)]
    exact heap_alloc_new w a
  · have := heap_alloc_new (w.alloc a) b
    rw [World.size_alloc] at this
    rw [Below.heap_alloc _ _ _ (by simp)]
    exact this
  · have := heap_alloc_new ((w.alloc a).alloc b) d
    rw [World.size_alloc, World.size_alloc] at this
    exact this
theorem three_below (w : World) (a b d : Obj) : Below w.heap.size w ((((w.alloc a).alloc b).alloc d).drew) :=
  ((((Below.refl _ w).alloc (Nat.le_refl _) a).alloc (by simp) b).alloc (by simp; omega) d).drew
theorem new_any (n : Nat) (w : World) (hn : n ≤ 65536) :
    Calls Try.prog 7 #[.int .i64 (n : Int)] w fun e w' => ∃ p g c, e = .returned (.pointer (some ⟨p, 0, none⟩)) ∧ IsQ w' p g c n [] ∧ Below w.heap.size w w' ∧ w.heap.size ≤ p ∧ w.heap.size ≤ g ∧ w.heap.size ≤ c := by
  have hmk := run_make_row' (P := Try.prog) 43 4 (.bool false) 1 Try.underlying43 infoB rfl .i64 .i64 n (by omega) (by omega)
  obtain ⟨ii, hi, hz0, hz1, hz2⟩ := info_parts infoI
  have hmc := fun w => run_makeChan (P := Try.prog) (w := w) Try.underlying42 hi .i64 n (by omega) (by rw [hz2]; omega)
  have hn0 : ¬ (n : Int) < 0 := by omega
  have hn1 : ¬ (65536 : Int) < (n : Int) := by omega
  clear hz0 hz1 hz2
  go_enter Try.func7, Try.ntmps7
  go_wp2_with fail
  go_region
  · go_wp2_with fail
    go_ret
    obtain ⟨h1, h2, h3⟩ := three_at w (.chan n #[] false 0 0 false) (.cells (madeCells #[.bool false] n) 4) (.cells #[.chan (some w.heap.size), .slice (some ⟨w.heap.size + 1, 0, none⟩) n n] 45)
    exact ⟨_, _, _, rfl, IsQ.fresh (g := w.heap.size + 1) (c := w.heap.size) h3 h2 h1 hn (by omega), three_below w _ _ _, by omega, by omega, by omega⟩
  · go_wp2_with fail
    go_ret
    obtain ⟨h1, h2, h3⟩ := three_at w (.cells (madeCells #[.bool false] n) 4) (.chan n #[] false 0 0 false) (.cells #[.chan (some (w.heap.size + 1)), .slice (some ⟨w.heap.size, 0, none⟩) n n] 45)
    exact ⟨_, _, _, rfl, IsQ.fresh (g := w.heap.size) (c := w.heap.size + 1) h3 h1 h2 hn (by omega), three_below w _ _ _, by omega, by omega, by omega⟩

end Go.Proofs.Ytingebjeefncaaa
