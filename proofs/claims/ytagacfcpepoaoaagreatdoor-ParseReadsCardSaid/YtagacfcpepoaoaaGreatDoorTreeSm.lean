/- TreeSim, TreeSame, TreeSame2, TreeSame3, in one text. -/
import Derived.Test.YtagacfcpepoaoaaGreatDoorTreeTl1
import Derived.Test.YtagacfcpepoaoaaGreatDoorTreeTl2
namespace Go.Proofs.YtagacfcpepoaoaaGreatDoor
set_option linter.unusedVariables false

/-- nodes that are the same but for At -/
def Sm (x y : Nd) : Prop := x.kind = y.kind ∧ x.n = y.n ∧ x.t = y.t ∧ x.kids = y.kids
/-- lists that are alike -/
def Al (a b : List Nd) : Prop := a.length = b.length ∧ ∀ j, j < a.length → Sm (nd a j) (nd b j)
theorem Sm.refl (x : Nd) : Sm x x := ⟨rfl, rfl, rfl, rfl⟩
theorem nd_out {l : List Nd} {i : Nat} (h : ¬ i < l.length) : nd l i = Nd.zero := by
  unfold nd
  rw [List.getD_eq_getElem?_getD, List.getElem?_eq_none (by omega)]
  rfl
theorem Al.all {a b : List Nd} (h : Al a b) (j : Nat) : Sm (nd a j) (nd b j) := by
  by_cases hj : j < a.length
  · exact h.2 j hj
  · rw [nd_out hj, nd_out (by rw [← h.1]; exact hj)]; exact Sm.refl _
theorem Al.symm {a b : List Nd} (h : Al a b) : Al b a := ⟨h.1.symm, fun j _ => by obtain ⟨h1, h2, h3, h4⟩ := h.all j; exact ⟨h1.symm, h2.symm, h3.symm, h4.symm⟩⟩
theorem Al.allK {a b : List Nd} (h : Al a b) : ∀ i, i ≤ a.length → allK a i = allK b i
  | 0, _ => by simp [Proofs.YtagacfcpepoaoaaGreatDoor.allK]
  | i + 1, hi => by
    rw [allK_succ (by omega), allK_succ (by rw [← h.1]; omega), h.allK i (by omega), (h.all i).2.2.2]
theorem Al.ahead {a b : List Nd} (h : Al a b) (hA : Ahead a) : Ahead b := by
  intro i hi k hk
  rw [← (h.all i).2.2.2] at hk
  exact hA i (by rw [h.1]; exact hi) k hk
theorem Al.fold {α : Type} {f : Nd → List α → α} (hf : ∀ x y ts, Sm x y → f x ts = f y ts) {a b : List Nd} (h : Al a b) : ∀ g i, fold f a g i = fold f b g i
  | 0, i => hf _ _ _ (h.all i)
  | g + 1, i => by
    simp only [Proofs.YtagacfcpepoaoaaGreatDoor.fold]
    rw [hf _ _ _ (h.all i), (h.all i).2.2.2]
    congr 1
    apply List.map_congr_left
    intro k _
    exact h.fold hf g k.toNat
theorem Al.hgt {a b : List Nd} (h : Al a b) (i : Nat) : hgt a i = hgt b i := h.fold (fun _ _ _ _ => rfl) i i
theorem Sm.hd {x y : Nd} (h : Sm x y) : hd x = hd y := by
  obtain ⟨h1, h2, h3, _⟩ := h
  unfold Proofs.YtagacfcpepoaoaaGreatDoor.hd wordOf kwOf
  rw [h1, h2, h3]
theorem Al.tx {a b : List Nd} (h : Al a b) (i : Nat) : tx a i = tx b i := h.fold (fun x y ts hs => by unfold txf; rw [hs.1, hs.hd]) i i
theorem Al.ist {a b : List Nd} (h : Al a b) (hT : IsT a) : IsT b := by
  obtain ⟨h0, hA, hN, hL⟩ := hT
  rw [h.allK _ (Nat.le_refl _), h.1] at hN hL
  rw [h.1] at h0
  exact ⟨h0, h.ahead hA, hN, hL⟩
theorem Al.fit {a b : List Nd} (h : Al a b) (i : Nat) (hat : 0 ≤ (nd a i).at_ ↔ 0 ≤ (nd b i).at_) : fitB a (nd a i) = fitB b (nd b i) := by
  obtain ⟨h1, h2, h3, h4⟩ := h.all i
  have hk : kk a (nd a i) = kk b (nd b i) := by
    unfold kk
    rw [h4]
    apply List.map_congr_left
    intro k _
    exact (h.all k.toNat).1
  unfold fitB ownB
  rw [hk, h1, h2, h3]
  congr 4
  simpa using hat
theorem Al.rt {a b : List Nd} (h : Al a b) (hat : ∀ i, 0 ≤ (nd a i).at_ ↔ 0 ≤ (nd b i).at_) (hR : Rt a) : Rt b := by
  obtain ⟨hT, hF, hH⟩ := hR
  refine ⟨h.ist hT, fun i hi => ?_, ?_⟩
  · rw [← h.fit i (hat i)]
    exact hF i (by rw [h.1]; exact hi)
  · rw [← h.1, ← h.hgt]; exact hH
end Go.Proofs.YtagacfcpepoaoaaGreatDoor

namespace Go.Proofs.YtagacfcpepoaoaaGreatDoor
open Go.RowKit
set_option linter.unusedVariables false

end Go.Proofs.YtagacfcpepoaoaaGreatDoor

namespace Go.Proofs.YtagacfcpepoaoaaGreatDoor
open Go.RowKit
set_option linter.unusedVariables false

end Go.Proofs.YtagacfcpepoaoaaGreatDoor

namespace Go.Proofs.YtagacfcpepoaoaaGreatDoor
open Go.RowKit
set_option linter.unusedVariables false

end Go.Proofs.YtagacfcpepoaoaaGreatDoor
