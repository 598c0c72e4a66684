/- How many nodes a tree has, and how long its text is. No program. -/
import Derived.Test.YtihcepkdihmjoaaDoorTreeText
namespace Go.Proofs.YtihcepkdihmjoaaDoor
set_option linter.unusedVariables false

def sumTo (f : Nat → Nat) : Nat → Nat
  | 0 => 0
  | n + 1 => sumTo f n + f n
theorem sum_erase (f : Int → Nat) {x : Int} : ∀ {l : List Int}, x ∈ l → (l.map f).sum = f x + ((l.erase x).map f).sum
  | [], h => by cases h
  | y :: r, h => by
    by_cases e : y = x
    · subst e
      simp
    · have hx : x ∈ r := by
        rcases List.mem_cons.1 h with h' | h'
        · exact absurd h'.symm e
        · exact h'
      have ih := sum_erase f hx
      rw [List.erase_cons_tail (by simpa using e)]
      simp only [List.map_cons, List.sum_cons]
      omega
theorem nodup_sum (f : Nat → Nat) : ∀ (n : Nat) (l : List Int), l.Nodup → (∀ x ∈ l, 0 ≤ x ∧ x < (n : Int)) → (l.map (fun x => f x.toNat)).sum ≤ sumTo f n
  | 0, [], _, _ => Nat.le_refl _
  | 0, x :: r, _, h => by have := h x (by simp); omega
  | n + 1, l, hn, h => by
    by_cases hm : (n : Int) ∈ l
    · have h1 := nodup_sum f n (l.erase (n : Int)) (hn.erase _) (fun x hx => by
        have h2 := (List.Nodup.mem_erase_iff hn).1 hx
        have h3 := h x h2.2
        have := h2.1
        omega)
      rw [sum_erase (fun x => f x.toNat) hm]
      simp only [sumTo, Int.toNat_natCast]
      omega
    · have h1 := nodup_sum f n l hn (fun x hx => by
        have h3 := h x hx
        have : x ≠ (n : Int) := fun e => hm (e ▸ hx)
        omega)
      simp only [sumTo]
      omega
theorem sum_all {l : List Nd} (hA : Ahead l) : ∀ i, i ≤ l.length → sumTo (sz l) i = i + ((allK l i).map (fun x => sz l x.toNat)).sum
  | 0, _ => by simp [sumTo, allK]
  | i + 1, h => by
    have ih := sum_all hA i (by omega)
    rw [allK_succ (by omega), List.map_append, List.sum_append]
    simp only [sumTo]
    rw [ih, sz_eq hA (by omega)]
    omega
theorem sz_root {l : List Nd} (h : IsT l) : sz l (l.length - 1) ≤ l.length := by
  obtain ⟨h0, hA, hN, hL⟩ := h
  have h1 := sum_all hA l.length (Nat.le_refl _)
  have hr : ∀ x ∈ allK l l.length, 0 ≤ x ∧ x < ((l.length - 1 : Nat) : Int) := by
    intro x hx
    obtain ⟨y, hy, hxy⟩ := List.mem_flatMap.1 hx
    obtain ⟨q, hq, rfl⟩ := List.mem_iff_getElem.1 hy
    rw [List.length_take] at hq
    rw [List.getElem_take, ← nd_of (by omega)] at hxy
    have := hA q (by omega) x hxy
    omega
  have h2 := nodup_sum (sz l) (l.length - 1) _ hN hr
  have h3 : sumTo (sz l) l.length = sumTo (sz l) (l.length - 1) + sz l (l.length - 1) := by
    obtain ⟨p, hp⟩ : ∃ p, l.length = p + 1 := ⟨l.length - 1, by omega⟩
    rw [hp, Nat.add_sub_cancel]
    rfl
  omega
theorem sum_mem {xs : List Nat} {x : Nat} (h : x ∈ xs) : x ≤ xs.sum := by
  induction xs with
  | nil => cases h
  | cons y r ih =>
    rw [List.sum_cons]
    rcases List.mem_cons.1 h with rfl | h'
    · omega
    · have := ih h'; omega
theorem sz_kid {l : List Nd} (hA : Ahead l) {i : Nat} (hi : i < l.length) {k : Int} (hk : k ∈ (nd l i).kids) : sz l k.toNat < sz l i := by
  rw [sz_eq hA hi]
  have := sum_mem (List.mem_map.2 ⟨k, hk, rfl⟩ : sz l k.toNat ∈ (nd l i).kids.map (fun k => sz l k.toNat))
  omega
theorem sz_under {l : List Nd} (hA : Ahead l) {i j : Nat} (h : Under l i j) : i < l.length → sz l j ≤ sz l i := by
  induction h with
  | refl i => intro _; exact Nat.le_refl _
  | step hk _ ih =>
    intro hi
    have h1 := hA _ hi _ hk
    have h2 := ih (by omega)
    have h3 := sz_kid hA hi hk
    omega
theorem sz_le {l : List Nd} (h : IsT l) {i : Nat} (hi : i < l.length) : sz l i ≤ l.length := by
  have h1 := sz_under h.2.1 (under_root h (l.length - 1 - i) i (Nat.le_refl _) hi) (by omega)
  have h2 := sz_root h
  omega
/-- names are short -/
theorem name_len {x : Nd} (h : ownB x = true) : x.t.length ≤ 32 := by
  unfold ownB at h
  simp only [Bool.and_eq_true] at h
  have h1 := h.1.2
  split at h1
  · unfold nameB at h1
    simp only [Bool.and_eq_true, decide_eq_true_eq] at h1
    exact h1.1.1.1.2
  · rw [decide_eq_true_eq] at h1
    rw [h1]
    simp
theorem num_bounds {x : Nd} (h : ownB x = true) (n1 : x.n ≤ 9223372036854775807) : -9223372036854775808 ≤ x.n := by
  unfold ownB numB at h
  simp only [Bool.and_eq_true] at h
  have h1 := h.2
  split at h1
  · simp at h1; omega
  · split at h1
    · simp at h1; omega
    · split at h1
      · simp at h1; omega
      · split at h1
        · simp at h1; omega
        · simp at h1; omega
theorem flat_len {l : List Nd} {C : Nat} : ∀ (ks : List Int), (∀ k ∈ ks, (tx l k.toNat).length + 1 ≤ C * sz l k.toNat) → (ks.flatMap (fun k => 32 :: tx l k.toNat)).length ≤ C * (ks.map (fun k => sz l k.toNat)).sum
  | [], _ => by simp
  | k :: r, h => by
    have h1 := h k (by simp)
    have ih := flat_len r (fun k hk => h k (List.mem_cons_of_mem _ hk))
    simp only [List.flatMap_cons, List.length_append, List.length_cons, List.map_cons, List.sum_cons, Nat.mul_add]
    omega
theorem tx_len {l : List Nd} (hA : Ahead l) (hO : ∀ i, i < l.length → ownB (nd l i) = true) (hn : ∀ i, i < l.length → (nd l i).n ≤ 9223372036854775807) : ∀ (N i : Nat), i < N → i < l.length → (tx l i).length + 1 ≤ 64 * sz l i := by
  intro N
  induction N with
  | zero => intro i h; omega
  | succ N ih =>
    intro i hiN hi
    have h1 := name_len (hO i hi)
    have h2 := hd_len (nd l i) (num_bounds (hO i hi) (hn i hi)) (hn i hi)
    have h3 := sz_eq hA hi
    by_cases hk : (nd l i).kind ≤ 4
    · rw [tx_low hA hi hk]
      omega
    · rw [tx_high hA hi hk]
      have h4 := flat_len (l := l) (C := 64) (nd l i).kids (fun k hk' => by
        have := hA i hi k hk'
        exact ih k.toNat (by omega) (by omega))
      unfold tpre
      rw [List.take_length]
      simp only [List.length_append, List.length_cons, List.length_nil]
      omega
theorem own_of {l : List Nd} (h : Fits l) {i : Nat} (hi : i < l.length) : ownB (nd l i) = true := by
  have := h i hi
  unfold fitB at this
  rw [Bool.and_eq_true] at this
  exact this.1
theorem kind_of {l : List Nd} (h : Fits l) {i : Nat} (hi : i < l.length) : 1 ≤ (nd l i).kind ∧ (nd l i).kind ≤ 26 := fit_kind (h i hi)
/-- the text of a tree that is Right is short -/
theorem tx_short {l : List Nd} (h : IsT l) (hF : Fits l) (hn : ∀ i, i < l.length → (nd l i).n ≤ 9223372036854775807) {i : Nat} (hi : i < l.length) : (tx l i).length ≤ 64 * l.length := by
  have h1 := tx_len h.2.1 (fun i hi => own_of hF hi) hn (i + 1) i (by omega) hi
  have h2 := sz_le h hi
  omega
end Go.Proofs.YtihcepkdihmjoaaDoor
