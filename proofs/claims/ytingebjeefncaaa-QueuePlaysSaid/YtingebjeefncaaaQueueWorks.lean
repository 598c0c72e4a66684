/- The chapter's example, as the statements ask it: works. -/
import Derived.Test.YtingebjeefncaaaQueueDrain
import Derived.WalkKit
namespace Go.Proofs.Ytingebjeefncaaa
open Go.RowKit Go.Conc
set_option linter.unusedVariables false

theorem works_any (w : World) :
    Calls Try.prog 6 #[] w fun e w' => e = .returned (.bool true) ∧ Below w.heap.size w w' := by
  go_enter Try.func6, Try.ntmps6
  go_wp2_with fail
  refine (new_any 3 w (by omega)).mono ?_
  rintro e w1 ⟨p, g, c, rfl, hq, hb, hp, hg, hc⟩
  have HB := hidden hb
  have HG := hidden hg
  have HC := hidden hc
  have HQ := hidden hq
  clear hq hb hp hg hc
  go_wp2_with fail
  refine (put_any p g c 3 [] 2 w1 HQ.out).mono ?_
  rintro e w2 ⟨rfl, hq, ht⟩
  have HT := hidden ht
  have HQ2 := hidden hq
  clear hq ht
  go_wp2_with fail
  refine (put_any p g c 3 [2] 0 w2 HQ2.out).mono ?_
  rintro e w3 ⟨rfl, hq, ht⟩
  have HT3 := hidden (HT.out.trans ht)
  have HQ3 := hidden hq
  clear hq ht HT HQ2 w2
  go_wp2_with fail
  refine (put_any p g c 3 [2, 0] 2 w3 HQ3.out).mono ?_
  rintro e w4 ⟨rfl, hq, ht⟩
  have HT4 := hidden (HT3.out.trans ht)
  have HQ4 := hidden hq
  clear hq ht HT3 HQ3 w3
  go_wp2_with fail
  refine (take_any p g c 3 [2, 0] w4 HQ4.out).mono ?_
  rintro e w5 ⟨rfl, hq, ht⟩
  have HT5 := hidden (HT4.out.trans ht)
  have HQ5 := hidden hq
  clear hq ht HT4 HQ4 w4
  go_wp2_with fail
  refine (take_any p g c 3 [0] w5 HQ5.out).mono ?_
  rintro e w6 ⟨rfl, hq, ht⟩
  have HT6 := hidden (HT5.out.trans ht)
  have HQ6 := hidden hq
  clear hq ht HT5 HQ5 w5
  go_wp2_with fail
  refine (take_any p g c 3 [] w6 HQ6.out).mono ?_
  rintro e w7 ⟨rfl, hq, ht⟩
  have HT7 := hidden (HT6.out.trans ht)
  clear hq ht HT6 HQ6 w6
  go_wp2_with fail
  go_ret
  exact ⟨rfl, HT7.out.below HB.out HB.out.size HG.out HC.out⟩

end Go.Proofs.Ytingebjeefncaaa
