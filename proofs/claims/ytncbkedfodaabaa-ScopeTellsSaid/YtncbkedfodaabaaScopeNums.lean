/- Kinds as lists of numbers, read. No program but its table of types. -/
import Derived.Test.YtncbkedfodaabaaScopeMem
import Derived.Test.YtncbkedfodaabaaGenRow
namespace Go.Proofs.Ytncbkedfodaabaa
open Go.RowKit
set_option linter.unusedVariables false

theorem kcs_ints (ks : List Nat) : kcs ks = (ks.map fun (k : Nat) => (k : Int)).map (Value.int .i64) := by unfold kcs; rw [List.map_map]; rfl
/-- the numbers of a list, read -/
def nums (ks : List Nat) (j : Nat) : Int := (ks.map fun (k : Nat) => (k : Int)).getD j 0
theorem own_rows {w : World} {B n : Nat} {v : Value} {ks : List Nat} (h : w.ownsRow B 3 1 v n (kcs ks)) : ∃ a cap, v = .slice a ks.length cap ∧ ks.length ≤ cap ∧ Rows' .i64 w a ks.length (nums ks) := by
  obtain ⟨a', cap', hv', hc⟩ := own_len h
  rw [kcs_ints] at h
  obtain ⟨a, cap, hv, hr⟩ := Rows'.own h
  rw [List.length_map] at hv hr
  refine ⟨a, cap, hv, ?_, hr⟩
  rw [hv] at hv'
  injection hv' with _ e1 e2
  omega
theorem Rows'.less {k : IntKind} {w : World} {a : Option Addr} {n m : Nat} {f : Nat → Int} (h : Rows' k w a n f) (hm : m ≤ n) : Rows' k w a m f := by
  intro hp
  obtain ⟨b, off, ha, hlt, hc⟩ := h (by omega)
  exact ⟨b, off, ha, hlt, fun j hj => hc j (by omega)⟩
theorem nums_app (ks K : List Nat) {j : Nat} (hj : j < ks.length) : nums (ks ++ K) j = nums ks j := by
  unfold nums
  rw [List.map_append, List.getD_eq_getElem?_getD, List.getD_eq_getElem?_getD, List.getElem?_append_left (by simpa using hj)]
end Go.Proofs.Ytncbkedfodaabaa
