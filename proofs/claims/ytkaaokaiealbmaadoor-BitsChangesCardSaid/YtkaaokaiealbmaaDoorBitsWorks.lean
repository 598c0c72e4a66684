/- The walk through the chapter's example. -/
import Derived.Test.YtkaaokaiealbmaaDoorBitsCopy
namespace Go.Proofs.YtkaaokaiealbmaaDoor
open Go.RowKit
set_option linter.unusedVariables false

theorem setL_congr {A B : Nat → Nat} : ∀ n, (∀ j, j < n → A j = B j) → setL n A = setL n B
  | 0, _ => rfl
  | n + 1, h => by rw [setL_succ, setL_succ, setL_congr n (fun j hj => h j (by omega)), h n (by omega)]

def exF : Nat → Int := fun j => [3, 1, 9].getD j 0
def exG : Nat → Int := fun j => [1, 3].getD j 0
theorem exA : ofA 5 exF 3 0 = 10 := by decide
theorem exL : setL 1 (ofA 5 exF 3) = [1, 3] := by
  rw [setL_congr 1 (B := fun _ => 10) (fun j hj => by rw [show j = 0 by omega]; exact exA)]
  decide
theorem exR5 : rightB 1 (ofA 5 exF 3) 5 = true := by
  unfold rightB
  rw [allEq_true (g := fun _ => 0) (fun j hj => by
    rw [show j = 0 by omega]
    show ((ofA 5 exF 3 0 &&& (18446744073709551615 - fullW 5 0) : Nat) : Int) = 0
    rw [exA]; decide)]
  decide
theorem exR3 : rightB 1 (ofA 5 exF 3) 3 = false := by
  unfold rightB
  rw [allEq_false (k := 0) (g := fun _ => 0) (by omega) (by
    show ((ofA 5 exF 3 0 &&& (18446744073709551615 - fullW 3 0) : Nat) : Int) ≠ 0
    rw [exA]; decide)]
  decide
theorem exF_rows (w : World) (t : TypeId) : Rows' .i64 (w.alloc (.cells #[.int .i64 3, .int .i64 1, .int .i64 9] t)) (some ⟨w.heap.size, 0, none⟩) 3 exF := by
  intro _
  refine ⟨w.heap.size, 0, rfl, by simp, fun j hj => ?_⟩
  rw [World.cell?_alloc_at _ _ _ _ rfl]
  rcases j with _ | _ | _ | j
  · simp [exF]
  · simp [exF]
  · simp [exF]
  · omega
theorem exG_rows (w : World) (t : TypeId) : Rows' .i64 (w.alloc (.cells #[.int .i64 1, .int .i64 3] t)) (some ⟨w.heap.size, 0, none⟩) 2 exG := by
  intro _
  refine ⟨w.heap.size, 0, rfl, by simp, fun j hj => ?_⟩
  rw [World.cell?_alloc_at _ _ _ _ rfl]
  rcases j with _ | _ | j
  · simp [exG]
  · simp [exG]
  · omega
theorem exS : (decide ((2 : Nat) = 2) && allEq 2 (fun j => ([1, 3] : List Int).getD j 0) exG) = true := by decide

theorem eql_nil (w : World) : (binOp .eql 26 (.slice none 0 0) (.slice none 0 0)).run Tryd.prog w = .ok (.bool true) w := by kernel_rfl
set_option maxHeartbeats 800000 in
theorem works_any (w : World) (hT : Tab w) :
    Calls Tryd.prog 7 #[] w fun e w' => e = .returned (.bool true) ∧ Below w.heap.size w w' := by
  have HT := hidden hT
  clear hT
  go_enter Tryd.func7, Tryd.ntmps7
  go_wp2_with fail
  refine (of_any 5 1 _ 3 3 exF _ (by omega) (by omega) (by omega) (exF_rows w _) (fun j hj => by rcases j with _ | _ | _ | j <;> simp [exF])).mono ?_
  rintro e w1 ⟨g, rfl, hg, hM, hB⟩
  have hB1 : Below w.heap.size w w1 := (below_start w _).trans (hB.mono (by simp))
  have HM := hidden hM
  have HB := hidden hB1
  clear hM hB hB1 hg
  go_wp2_with fail
  refine (list_any _ 1 1 (ofA 5 exF 3) w1 (HT.out.below HB.out) (by omega) (ofA_lt 5 exF 3) HM.out.rows).mono ?_
  rintro e w2 ⟨v, rfl, hL⟩
  rw [exL] at hL
  obtain ⟨a, cap, rfl, hR⟩ := hL.rows
  have HB2 := hidden (HB.out.trans (hL.below.mono HB.out.size))
  have HM2 := hidden (HM.out.below hL.below)
  have HR2 := hidden hR
  clear hL hR HM HB
  have hsz : ([1, 3] : List Int).length = 2 := rfl
  rw [hsz]
  rw [hsz] at HR2
  clear hsz
  go_wp2_with fail
  refine (sameInts_any a _ 2 2 cap 2 (fun j => ([1, 3] : List Int).getD j 0) exG _ (by omega) (by omega) (HR2.out.below (below_start w2 _)) (exG_rows w2 _)).mono ?_
  rintro e w3 ⟨rfl, q3, hw3⟩
  rw [exS]
  have HB3 : Hid (Below w.heap.size w w3) := by rw [hw3]; exact (HB2.out.alloc HB2.out.size _).trans (below_drewN _ _ _)
  have HM3 : Hid (Mine .u64 48 w3 g 1 (fun j => (ofA 5 exF 3 j : Int))) := by rw [hw3]; exact (HM2.out.below (below_start w2 _)).drewN _
  clear hw3 HB2 HM2 HR2
  go_wp2_with fail
  refine (right_any _ 1 1 5 (ofA 5 exF 3) w3 (by omega) (by omega) (ofA_lt 5 exF 3) HM3.out.rows).mono ?_
  rintro e w4 ⟨rfl, q4, hw4⟩
  rw [exR5, hw4]
  clear hw4 w4
  go_wp2_with fail
  refine (right_any _ 1 1 3 (ofA 5 exF 3) (w3.drewN q4) (by omega) (by omega) (ofA_lt 5 exF 3) HM3.out.rows).mono ?_
  rintro e w4 ⟨rfl, q5, hw4⟩
  rw [exR3, hw4]
  clear hw4 w4
  go_wp2_with fail
  refine (new_not (-1) _ (isW_low (by omega))).mono ?_
  rintro e w4 ⟨rfl, hw4⟩
  rw [hw4]
  clear hw4 w4
  have hnil := eql_nil
  go_wp2_with fail
  go_ret
  exact ⟨rfl, HB3.out.trans (below_drewN _ _ _)⟩

end Go.Proofs.YtkaaokaiealbmaaDoor
