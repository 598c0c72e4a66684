/- Texts as lists of bytes: a byte at a place, the bytes between two places. No program. -/
import Derived.WalkKit
namespace Go.Proofs.Ytncbkedfodaabaa
set_option linter.unusedVariables false

/-- the byte at a place -/
def bt (l : List UInt8) (k : Nat) : Nat := (l.getD k 0).toNat
theorem bt_lt {l : List UInt8} {k : Nat} (h : bt l k = 10) : k < l.length := by
  rcases Nat.lt_or_ge k l.length with g | g
  · exact g
  · unfold bt at h
    rw [List.getD_eq_getElem?_getD, List.getElem?_eq_none g] at h
    cases h
/-- the bytes between two places -/
def cut (l : List UInt8) (a b : Nat) : List UInt8 := (l.take b).drop a
theorem take_next {l : List UInt8} {k : Nat} (h : k < l.length) : l.take (k + 1) = l.take k ++ [l.getD k 0] := by
  rw [List.take_succ_eq_append_getElem h, List.getD_eq_getElem?_getD, List.getElem?_eq_getElem h]
  rfl
theorem cut_next {l : List UInt8} {a k : Nat} (ha : a ≤ k) (h : k < l.length) : cut l a (k + 1) = cut l a k ++ [l.getD k 0] := by
  unfold cut
  rw [take_next h, List.drop_append_of_le_length (by rw [List.length_take]; omega)]
theorem cut_none (l : List UInt8) (a : Nat) : cut l a a = [] := by
  unfold cut; rw [List.drop_eq_nil_iff, List.length_take]; omega
theorem cut_join {l : List UInt8} {a b : Nat} (h : a ≤ b) : l.take a ++ cut l a b = l.take b := by
  unfold cut
  rw [show l.take a = (l.take b).take a by rw [List.take_take, Nat.min_eq_left h], List.take_append_drop]
theorem cut_length {l : List UInt8} {a b : Nat} (h : b ≤ l.length) : (cut l a b).length = b - a := by
  unfold cut; rw [List.length_drop, List.length_take]; omega
/-- of a text's beginning -/
theorem bt_take {l : List UInt8} {n k : Nat} (h : k < n) : bt (l.take n) k = bt l k := by
  unfold bt
  rw [List.getD_eq_getElem?_getD, List.getD_eq_getElem?_getD, List.getElem?_take_of_lt h]
theorem length_of (s : ByteArray) : s.data.toList.length = s.size := Array.length_toList
theorem bt_of {s : ByteArray} {l : List UInt8} (h : l = s.data.toList) {k : Nat} (hk : k < s.size) : bt l k = s[k].toNat := by
  subst h
  unfold bt
  rw [List.getD_eq_getElem?_getD, List.getElem?_eq_getElem (show k < s.data.toList.length from (Array.length_toList (xs := s.data)).symm ▸ hk)]
  rfl
theorem extract_take (s : ByteArray) (k : Nat) : (s.extract 0 k).data.toList = s.data.toList.take k := by
  simp [ByteArray.data_extract]
theorem size_extract (s : ByteArray) (k : Nat) (h : k ≤ s.size) : (s.extract 0 k).size = k := by
  rw [ByteArray.size_extract]; omega
theorem extract_cut (s : ByteArray) (a b : Nat) : s.extract a b = ⟨(cut s.data.toList a b).toArray⟩ := by
  apply ByteArray.ext
  apply Array.toList_inj.1
  unfold cut
  rw [ByteArray.data_extract]
  simp [List.drop_take]
end Go.Proofs.Ytncbkedfodaabaa
