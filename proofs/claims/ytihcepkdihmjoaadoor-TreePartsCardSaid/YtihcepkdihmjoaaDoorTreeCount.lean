/- Kids, counted: each once, all but the root. No program. -/
import Derived.Test.YtihcepkdihmjoaaDoorTreeNodes
namespace Go.Proofs.YtihcepkdihmjoaaDoor
open Go.RowKit
set_option linter.unusedVariables false

theorem nodup_le : ∀ (n : Nat) (l : List Int), l.Nodup → (∀ x ∈ l, 0 ≤ x ∧ x < (n : Int)) → l.length ≤ n
  | 0, [], _, _ => Nat.le_refl _
  | 0, x :: r, _, h => by have := h x (by simp); omega
  | n + 1, l, hn, h => by
    by_cases hm : (n : Int) ∈ l
    · have h1 := nodup_le n (l.erase (n : Int)) (hn.erase _) (fun x hx => by
        have h2 := (List.Nodup.mem_erase_iff hn).1 hx
        have h3 := h x h2.2
        have := h2.1
        omega)
      rw [List.length_erase_of_mem hm] at h1
      omega
    · have h1 := nodup_le n l hn (fun x hx => by
        have h3 := h x hx
        have : x ≠ (n : Int) := fun e => hm (e ▸ hx)
        omega)
      omega
theorem take_nd {l : List Nd} {i : Nat} (hi : i < l.length) : l.take (i + 1) = l.take i ++ [nd l i] := by
  rw [List.take_succ_eq_append_getElem hi, nd_of hi]
theorem allK_succ {l : List Nd} {i : Nat} (hi : i < l.length) : allK l (i + 1) = allK l i ++ (nd l i).kids := by
  unfold allK; rw [take_nd hi, List.flatMap_append]; simp
/-- the kids that were seen: of the nodes ahead of i, and the first k of it -/
def seen (l : List Nd) (i k : Nat) : List Int := allK l i ++ (nd l i).kids.take k
theorem seen_zero (l : List Nd) (i : Nat) : seen l i 0 = allK l i := by simp [seen]
theorem seen_full {l : List Nd} {i : Nat} (hi : i < l.length) : seen l i (nd l i).kids.length = seen l (i + 1) 0 := by
  rw [seen_zero, allK_succ hi]; unfold seen; rw [List.take_length]
theorem take_getD' {ks : List Int} {k : Nat} (hk : k < ks.length) : ks.take (k + 1) = ks.take k ++ [ks.getD k 0] := by
  rw [List.take_succ_eq_append_getElem hk, List.getD_eq_getElem?_getD, List.getElem?_eq_getElem hk]; rfl
theorem seen_next {l : List Nd} {i k : Nat} (hk : k < (nd l i).kids.length) : seen l i (k + 1) = seen l i k ++ [(nd l i).kids.getD k 0] := by
  unfold seen; rw [take_getD' hk, List.append_assoc]
structure Sofar (l : List Nd) (i k : Nat) : Prop where
  ahead : ∀ i', i' < i → ∀ x ∈ (nd l i').kids, 0 ≤ x ∧ x < (i' : Int)
  here : ∀ x ∈ (nd l i).kids.take k, 0 ≤ x ∧ x < (i : Int)
  nodup : (seen l i k).Nodup
theorem Sofar.start (l : List Nd) : Sofar l 0 0 := ⟨fun i h => by omega, fun x hx => by simp at hx, by simp [seen, allK]⟩
theorem Sofar.range {l : List Nd} {i k : Nat} (h : Sofar l i k) (hi : i ≤ l.length) : ∀ x ∈ seen l i k, 0 ≤ x ∧ x < (i : Int) := by
  intro x hx
  rcases List.mem_append.1 hx with h1 | h1
  · obtain ⟨y, hy, hxy⟩ := List.mem_flatMap.1 h1
    obtain ⟨j, hj, rfl⟩ := List.mem_iff_getElem.1 hy
    rw [List.length_take] at hj
    rw [List.getElem_take, ← nd_of (by omega)] at hxy
    have := h.ahead j (by omega) x hxy
    omega
  · exact h.here x h1
theorem Sofar.len {l : List Nd} {i k : Nat} (h : Sofar l i k) (hi : i ≤ l.length) : (seen l i k).length ≤ i := nodup_le i _ h.nodup (h.range hi)
theorem Sofar.next {l : List Nd} {i k : Nat} (h : Sofar l i k) (hk : k < (nd l i).kids.length) (h0 : 0 ≤ (nd l i).kids.getD k 0) (h1 : (nd l i).kids.getD k 0 < (i : Int)) (hn : (nd l i).kids.getD k 0 ∉ seen l i k) : Sofar l i (k + 1) := by
  refine ⟨h.ahead, fun x hx => ?_, ?_⟩
  · rw [take_getD' hk] at hx
    rcases List.mem_append.1 hx with h2 | h2
    · exact h.here x h2
    · rw [List.mem_singleton] at h2
      rw [h2]
      exact ⟨h0, h1⟩
  · rw [seen_next hk]
    refine List.nodup_append.2 ⟨h.nodup, by simp, fun a ha b hb => ?_⟩
    rw [List.mem_singleton] at hb
    subst hb
    exact fun e => hn (e ▸ ha)
theorem Sofar.turn {l : List Nd} {i : Nat} (h : Sofar l i (nd l i).kids.length) (hi : i < l.length) : Sofar l (i + 1) 0 := by
  refine ⟨fun i' hi' x hx => ?_, fun x hx => by simp at hx, ?_⟩
  · rcases Nat.lt_or_ge i' i with g | g
    · exact h.ahead i' g x hx
    · obtain rfl : i' = i := by omega
      exact h.here x (by rw [List.take_length]; exact hx)
  · rw [← seen_full hi]; exact h.nodup
theorem Sofar.whole {l : List Nd} (h : Sofar l l.length 0) : Ahead l := fun i hi k hk => h.ahead i hi k hk
/-- what is not so -/
theorem far_not {l : List Nd} {i k : Nat} (hi : i < l.length) (hk : k < (nd l i).kids.length) (h : ¬ (0 ≤ (nd l i).kids.getD k 0 ∧ (nd l i).kids.getD k 0 < (i : Int))) : ¬ IsT l := by
  rintro ⟨_, hA, _⟩
  refine h (hA i hi _ ?_)
  rw [List.getD_eq_getElem?_getD, List.getElem?_eq_getElem hk]
  exact List.getElem_mem hk
theorem allK_prefix (l : List Nd) : ∀ (d i : Nat), i + d ≤ l.length → ∃ r, allK l (i + d) = allK l i ++ r
  | 0, i, _ => ⟨[], by simp⟩
  | d + 1, i, h => by
    obtain ⟨r, hr⟩ := allK_prefix l d i (by omega)
    exact ⟨r ++ (nd l (i + d)).kids, by rw [← Nat.add_assoc, allK_succ (by omega), hr, List.append_assoc]⟩
theorem dup_not {l : List Nd} {i k : Nat} (hi : i < l.length) (hk : k < (nd l i).kids.length) (h : (nd l i).kids.getD k 0 ∈ seen l i k) : ¬ IsT l := by
  rintro ⟨_, _, hN, _⟩
  obtain ⟨r, hr⟩ := allK_prefix l (l.length - (i + 1)) (i + 1) (by omega)
  rw [show i + 1 + (l.length - (i + 1)) = l.length by omega] at hr
  rw [hr] at hN
  have h1 := (List.nodup_append.1 hN).1
  rw [allK_succ hi] at h1
  have h2 : allK l i ++ (nd l i).kids = seen l i (k + 1) ++ (nd l i).kids.drop (k + 1) := by
    unfold seen; rw [List.append_assoc, List.take_append_drop]
  rw [h2] at h1
  have h3 := (List.nodup_append.1 h1).1
  rw [seen_next hk] at h3
  exact (List.nodup_append.1 h3).2.2 _ h _ (List.mem_singleton.2 rfl) rfl
theorem ist_iff {l : List Nd} (h : Sofar l l.length 0) : IsT l ↔ 0 < l.length ∧ (seen l l.length 0).length = l.length - 1 := by
  rw [seen_zero]
  constructor
  · rintro ⟨h1, _, _, h2⟩
    exact ⟨h1, h2⟩
  · rintro ⟨h1, h2⟩
    have := h.nodup
    rw [seen_zero] at this
    exact ⟨h1, h.whole, this, h2⟩
/-- whether something is so, told as a bool -/
def Tells (P : Prop) (w : World) (e : Ending) (w' : World) : Prop := ∃ b : Bool, e = .returned (.bool b) ∧ (b = true ↔ P) ∧ Below w.heap.size w w'
theorem Tells.yes {P : Prop} {w w' : World} {e : Ending} (he : e = .returned (.bool true)) (h : P) (hb : Below w.heap.size w w') : Tells P w e w' := ⟨true, he, by simp [h], hb⟩
theorem Tells.no {P : Prop} {w w' : World} {e : Ending} (he : e = .returned (.bool false)) (h : ¬ P) (hb : Below w.heap.size w w') : Tells P w e w' := ⟨false, he, by simp [h], hb⟩
end Go.Proofs.YtihcepkdihmjoaaDoor
