/- Heights, kid by kid. No program. -/
import Derived.Test.YtihcepkdihmjoaaDoorTreeCount
namespace Go.Proofs.YtihcepkdihmjoaaDoor
set_option linter.unusedVariables false

/-- who is under a node -/
inductive Under (l : List Nd) : Nat → Nat → Prop
  | refl (i : Nat) : Under l i i
  | step {i j : Nat} {k : Int} (hk : k ∈ (nd l i).kids) (h : Under l k.toNat j) : Under l i j
theorem Under.le {l : List Nd} (hA : Ahead l) {i j : Nat} (h : Under l i j) : i < l.length → j ≤ i := by
  induction h with
  | refl i => intro _; exact Nat.le_refl _
  | step hk _ ih =>
    intro hi
    have := hA _ hi _ hk
    have := ih (by omega)
    omega
/-- the height by the first j kids -/
def mx (l : List Nd) (i j : Nat) : Nat := (((nd l i).kids.take j).map (fun k => hgt l k.toNat)).foldl (fun h x => max h (1 + x)) 1
theorem mx_zero (l : List Nd) (i : Nat) : mx l i 0 = 1 := by simp [mx]
theorem mx_next {l : List Nd} {i j q : Nat} (hj : j < (nd l i).kids.length) (hq : (nd l i).kids.getD j 0 = (q : Int)) : mx l i (j + 1) = max (mx l i j) (1 + hgt l q) := by
  unfold mx
  rw [take_getD' hj, List.map_append, List.foldl_append, hq]
  simp
theorem mx_full {l : List Nd} (hA : Ahead l) {i : Nat} (hi : i < l.length) : mx l i (nd l i).kids.length = hgt l i := by
  unfold mx
  rw [List.take_length, hgt_eq hA hi]
theorem mx_mono (l : List Nd) (i : Nat) : ∀ (d j : Nat), mx l i j ≤ mx l i (j + d)
  | 0, j => Nat.le_refl _
  | d + 1, j => by
    refine Nat.le_trans (mx_mono l i d j) ?_
    rcases Nat.lt_or_ge (j + d) (nd l i).kids.length with h | h
    · unfold mx
      rw [← Nat.add_assoc, take_getD' h, List.map_append, List.foldl_append]
      simp
      omega
    · unfold mx
      rw [List.take_of_length_le h, List.take_of_length_le (by omega)]
      exact Nat.le_refl _
theorem kid_q {l : List Nd} (hA : Ahead l) {i j : Nat} (hi : i < l.length) (hj : j < (nd l i).kids.length) : ∃ q : Nat, (nd l i).kids.getD j 0 = (q : Int) ∧ q < i ∧ (q : Int) ∈ (nd l i).kids := by
  have hm : (nd l i).kids.getD j 0 ∈ (nd l i).kids := by
    rw [List.getD_eq_getElem?_getD, List.getElem?_eq_getElem hj]; exact List.getElem_mem hj
  have := hA i hi _ hm
  refine ⟨((nd l i).kids.getD j 0).toNat, by omega, by omega, ?_⟩
  rw [Int.toNat_of_nonneg this.1]
  exact hm
theorem kid_hgt {l : List Nd} (hA : Ahead l) {i j q : Nat} (hi : i < l.length) (hj : j < (nd l i).kids.length) (hq : (nd l i).kids.getD j 0 = (q : Int)) : 1 + hgt l q ≤ hgt l i := by
  have h1 := mx_next hj hq
  have h2 := mx_mono l i ((nd l i).kids.length - (j + 1)) (j + 1)
  rw [show j + 1 + ((nd l i).kids.length - (j + 1)) = (nd l i).kids.length by omega, mx_full hA hi] at h2
  omega
theorem mx_le {l : List Nd} (hA : Ahead l) {i j : Nat} (hi : i < l.length) (hj : j ≤ (nd l i).kids.length) : mx l i j ≤ hgt l i := by
  have h2 := mx_mono l i ((nd l i).kids.length - j) j
  rw [show j + ((nd l i).kids.length - j) = (nd l i).kids.length by omega, mx_full hA hi] at h2
  exact h2
theorem mx_pos (l : List Nd) (i j : Nat) : 1 ≤ mx l i j := by
  have := mx_mono l i j 0
  rw [mx_zero, Nat.zero_add] at this
  exact this
theorem hgt_pos {l : List Nd} (hA : Ahead l) {i : Nat} (hi : i < l.length) : 1 ≤ hgt l i := by
  rw [← mx_full hA hi]; exact mx_pos l i _
/-- all are under the root -/
theorem under_kid {l : List Nd} {i j : Nat} {k : Int} (h : Under l i j) (hk : k ∈ (nd l j).kids) : Under l i k.toNat := by
  induction h with
  | refl i => exact .step hk (.refl _)
  | step hk' _ ih => exact .step hk' (ih hk)
theorem in_allK {l : List Nd} (h : IsT l) {j : Nat} (hj : j < l.length - 1) : ∃ i, i < l.length ∧ (j : Int) ∈ (nd l i).kids := by
  obtain ⟨h0, hA, hN, hL⟩ := h
  have hm : (j : Int) ∈ allK l l.length := by
    by_cases hm : (j : Int) ∈ allK l l.length
    · exact hm
    · exfalso
      have hr : ∀ x ∈ allK l l.length, 0 ≤ x ∧ x < ((l.length - 1 : Nat) : Int) := by
        intro x hx
        obtain ⟨y, hy, hxy⟩ := List.mem_flatMap.1 hx
        obtain ⟨q, hq, rfl⟩ := List.mem_iff_getElem.1 hy
        rw [List.length_take] at hq
        rw [List.getElem_take, ← nd_of (by omega)] at hxy
        have := hA q (by omega) x hxy
        omega
      have h1 := nodup_le (l.length - 1) ((j : Int) :: allK l l.length) (List.nodup_cons.2 ⟨hm, hN⟩) (fun x hx => by
        rcases List.mem_cons.1 hx with rfl | h'
        · omega
        · exact hr x h')
      rw [List.length_cons, hL] at h1
      omega
  obtain ⟨y, hy, hxy⟩ := List.mem_flatMap.1 hm
  obtain ⟨q, hq, rfl⟩ := List.mem_iff_getElem.1 hy
  rw [List.length_take] at hq
  rw [List.getElem_take, ← nd_of (by omega)] at hxy
  exact ⟨q, by omega, hxy⟩
theorem under_root {l : List Nd} (h : IsT l) : ∀ (d j : Nat), l.length - 1 - j ≤ d → j < l.length → Under l (l.length - 1) j
  | 0, j, hd, hj => by
    obtain rfl : j = l.length - 1 := by omega
    exact .refl _
  | d + 1, j, hd, hj => by
    rcases Nat.lt_or_ge j (l.length - 1) with g | g
    · obtain ⟨i, hi, hk⟩ := in_allK h g
      have := h.2.1 i hi _ hk
      have hu := under_root h d i (by omega) hi
      have := under_kid hu hk
      rwa [Int.toNat_natCast] at this
    · obtain rfl : j = l.length - 1 := by omega
      exact .refl _
end Go.Proofs.YtihcepkdihmjoaaDoor
