/- The table of key words, and the walk through Word. -/
import Derived.Test.YtjmhmoigheomdaaDoorLexSkips
import Derived.Test.YtjmhmoigheomdaaDoorGenCell
namespace Go.Proofs.YtjmhmoigheomdaaDoor
open Go.RowKit
set_option linter.unusedVariables false

/-- a text as a value -/
def txt (b : List UInt8) : Value := .string ⟨b.toArray⟩
/-- the table's cells -/
def keyCells : Array Value := (keys.map txt).toArray
/-- the table in its variable -/
def Tab (w : World) : Prop := ∃ t fr, w.heap[0]? = some (.cells keyCells t fr)
theorem Tab.below {w w' : World} (h : Tab w) (hb : Below w.heap.size w w') : Tab w' := by
  obtain ⟨t, fr, h⟩ := h
  refine ⟨t, fr, ?_⟩
  obtain ⟨hlt, _⟩ := Array.getElem?_eq_some_iff.1 h
  rw [hb.block _ hlt]
  exact h
set_option maxRecDepth 100000 in
theorem key_at : ∀ (j : Nat), j < 18 → ∀ (w : World), (Instr.index 38 (.agg keyCells) (.int .i64 (j : Int))).run Tryd.prog w = .ok (txt (keys.getD j [])) w
  | 0, _, w => by kernel_rfl
  | 1, _, w => by kernel_rfl
  | 2, _, w => by kernel_rfl
  | 3, _, w => by kernel_rfl
  | 4, _, w => by kernel_rfl
  | 5, _, w => by kernel_rfl
  | 6, _, w => by kernel_rfl
  | 7, _, w => by kernel_rfl
  | 8, _, w => by kernel_rfl
  | 9, _, w => by kernel_rfl
  | 10, _, w => by kernel_rfl
  | 11, _, w => by kernel_rfl
  | 12, _, w => by kernel_rfl
  | 13, _, w => by kernel_rfl
  | 14, _, w => by kernel_rfl
  | 15, _, w => by kernel_rfl
  | 16, _, w => by kernel_rfl
  | 17, _, w => by kernel_rfl
  | n + 18, h, _ => by omega
theorem isKey_not {b : List UInt8} (h : ∀ j, j < 18 → b ≠ keys.getD j []) : isKey b = false := by
  unfold isKey
  rw [List.any_eq_false]
  intro k hk
  obtain ⟨j, hj, rfl⟩ := List.mem_iff_getElem.1 hk
  have hj' : j < 18 := hj
  have := h j hj'
  rw [List.getD_eq_getElem?_getD, List.getElem?_eq_getElem hj] at this
  simpa using this
theorem isKey_at {b : List UInt8} {j : Nat} (hj : j < 18) (h : b = keys.getD j []) : isKey b = true := by
  unfold isKey
  rw [List.any_eq_true]
  have hj' : j < keys.length := hj
  refine ⟨keys[j], List.getElem_mem hj', ?_⟩
  rw [List.getD_eq_getElem?_getD, List.getElem?_eq_getElem hj'] at h
  simpa using h
theorem txt_eq (a b : List UInt8) : ((⟨a.toArray⟩ : ByteArray).toList == (⟨b.toArray⟩ : ByteArray).toList) = (a == b) := by
  rw [ByteArray.toList_eq, ByteArray.toList_eq]
theorem word_any (b : List UInt8) (w : World) (hT : Tab w) :
    Calls Tryd.prog 8 #[txt b] w fun e w' => e = .returned (.bool (isKey b)) ∧ w' = w := by
  obtain ⟨tt, fr, hg⟩ := hT
  have HG := hidden hg
  clear hg
  unfold txt
  go_enter Tryd.func8, Tryd.ntmps8
  go_wp2_with (refine wpList_load_row rfl 38 _ rfl 0 rfl tt _ fr _ HG.out Tryd.underlying38 rfl (by kernel_rfl) ?_)
  go_loop [6] (fun i => ∃ k : Nat, k ≤ 18 ∧ i = .int .i64 (k : Int) ∧ Hid (∀ j, j < k → b ≠ keys.getD j [])) (fun i => 18 - (intOf i).toNat)
  case atStart => exact ⟨0, by omega, rfl, fun j hj => by omega⟩
  case round =>
    obtain ⟨k, hk, rfl, hK⟩ := hrel
    by_cases hlt : k < 18
    · have hix := key_at k hlt
      unfold txt at hix
      obtain ⟨c, hc⟩ : ∃ c, c = keys.getD k [] := ⟨_, rfl⟩
      rw [← hc] at hix
      have HC := hidden hc
      clear hc
      by_cases he : b = c
      · subst he
        go_wp2_with fail
        go_ret
        exact ⟨by rw [isKey_at hlt HC.out]; rfl, rfl⟩
      · have he' : (b == c) = false := by simpa using he
        have HE := hidden he
        clear he
        go_wp2_with fail
        go_round
        case rel => exact ⟨k + 1, by omega, by go_num, fun j hj => by
          rcases Nat.lt_or_ge j k with g | g
          · exact hK.out j g
          · obtain rfl : j = k := by omega
            rw [← HC.out]
            exact HE.out⟩
        case measure => simp [intOf]; omega
    · obtain rfl : k = 18 := by omega
      go_wp2_with fail
      go_ret
      exact ⟨by rw [isKey_not hK.out]; rfl, rfl⟩
end Go.Proofs.YtjmhmoigheomdaaDoor
