/- Lines of a list of bytes: how many bytes 10 stand ahead of a place, where its line begins, which lines there are. Nothing of the program. -/
import Derived.Test.YtbfejllcdalnhaaGenText
import Derived.WalkKit
namespace Go.Proofs.Ytbfejllcdalnhaa
set_option linter.unusedVariables false

/-- how many bytes 10 stand ahead of a place -/
def nl (l : List UInt8) : Nat → Nat
  | 0 => 0
  | k + 1 => nl l k + (if bt l k = 10 then 1 else 0)
/-- where the line of a place begins -/
def st (l : List UInt8) : Nat → Nat
  | 0 => 0
  | k + 1 => if bt l k = 10 then k + 1 else st l k
theorem nl_hit {l : List UInt8} {k : Nat} (h : bt l k = 10) : nl l (k + 1) = nl l k + 1 := by simp [nl, h]
theorem nl_miss {l : List UInt8} {k : Nat} (h : ¬ bt l k = 10) : nl l (k + 1) = nl l k := by simp [nl, h]
theorem st_hit {l : List UInt8} {k : Nat} (h : bt l k = 10) : st l (k + 1) = k + 1 := by simp [st, h]
theorem st_miss {l : List UInt8} {k : Nat} (h : ¬ bt l k = 10) : st l (k + 1) = st l k := by simp [st, h]
theorem nl_le (l : List UInt8) : ∀ k, nl l k ≤ k
  | 0 => Nat.le_refl _
  | k + 1 => by have := nl_le l k; unfold nl; split <;> omega
theorem st_le (l : List UInt8) : ∀ k, st l k ≤ k
  | 0 => Nat.le_refl _
  | k + 1 => by have := st_le l k; unfold st; split <;> omega
theorem nl_mono (l : List UInt8) {a : Nat} : ∀ {b : Nat}, a ≤ b → nl l a ≤ nl l b
  | 0, h => by rw [show a = 0 by omega]; exact Nat.le_refl _
  | b + 1, h => by
    rcases Nat.lt_or_ge b a with g | g
    · rw [show a = b + 1 by omega]; exact Nat.le_refl _
    · have := nl_mono l g
      show nl l a ≤ nl l b + _
      omega
theorem same_line (l : List UInt8) {q : Nat} : ∀ {k : Nat}, st l k ≤ q → q ≤ k → st l q = st l k ∧ nl l q = nl l k
  | 0, _, h => by rw [show q = 0 by omega]; exact ⟨rfl, rfl⟩
  | k + 1, g, h => by
    rcases Nat.lt_or_ge k q with e | e
    · rw [show q = k + 1 by omega]; exact ⟨rfl, rfl⟩
    · by_cases hb : bt l k = 10
      · rw [st_hit hb] at g; omega
      · rw [st_miss hb] at g
        rw [st_miss hb, nl_miss hb]
        exact same_line l g e
theorem st_of_nl (l : List UInt8) {a : Nat} : ∀ {b : Nat}, a ≤ b → nl l a = nl l b → st l a = st l b
  | 0, h, _ => by rw [show a = 0 by omega]
  | b + 1, h, e => by
    rcases Nat.lt_or_ge b a with g | g
    · rw [show a = b + 1 by omega]
    · have h1 := nl_mono l g
      by_cases hb : bt l b = 10
      · rw [nl_hit hb] at e; omega
      · rw [nl_miss hb] at e
        rw [st_miss hb]
        exact st_of_nl l g e
theorem st_same (l : List UInt8) {a b : Nat} (e : nl l a = nl l b) : st l a = st l b := by
  rcases Nat.lt_or_ge a b with h | h
  · exact st_of_nl l (by omega) e
  · exact (st_of_nl l h e.symm).symm
theorem nl_behind {l : List UInt8} {t q : Nat} (h : bt l t = 10) (hq : t < q) : nl l t < nl l q := by
  have := nl_mono l (show t + 1 ≤ q by omega)
  rw [nl_hit h] at this
  omega
/-- a line ends at t -/
def isEnd (l : List UInt8) (t : Nat) : Prop := t = l.length ∨ bt l t = 10
theorem end_last {l : List UInt8} {t q : Nat} (h : isEnd l t) (hq : q ≤ l.length) (e : nl l q = nl l t) : q ≤ t := by
  rcases h with rfl | h
  · exact hq
  · rcases Nat.lt_or_ge t q with g | g
    · have := nl_behind h g; omega
    · exact g
theorem end_le {l : List UInt8} {t : Nat} (h : isEnd l t) : t ≤ l.length := by
  rcases h with rfl | h
  · exact Nat.le_refl _
  · have := bt_lt h; omega
theorem end_one {l : List UInt8} {t q : Nat} (h : isEnd l t) (g : isEnd l q) (e : nl l q = nl l t) : q = t := by
  have h1 := end_last h (end_le g) e
  have h2 := end_last g (end_le h) e.symm
  omega
/-- what find tells: the line that ends at t is that of the number, or the first or the last one -/
def Found (l : List UInt8) (line : Int) (t : Nat) : Prop :=
  isEnd l t ∧ (t = l.length ∨ line ≤ 1 + nl l t) ∧ ((1 + nl l t : Int) ≤ line ∨ nl l t = 0)
theorem Found.none {l : List UInt8} {line : Int} {t : Nat} (h : Found l line t) (hne : (1 + nl l t : Int) ≠ line) : line < 1 ∨ (1 + nl l l.length : Int) < line := by
  obtain ⟨h1, h2, h3⟩ := h
  have h4 := nl_mono l (end_le h1)
  rcases h2 with rfl | h2 <;> omega
theorem Found.one {l : List UInt8} {line : Int} {t : Nat} (h : Found l line t) (h1 : 1 ≤ line) (h2 : line ≤ 1 + nl l l.length) : (1 + nl l t : Int) = line := by
  obtain ⟨g1, g2, g3⟩ := h
  rcases g2 with rfl | g2 <;> omega
/-- what At tells -/
def AtIs (l : List UInt8) (line column : Int) (x : Int) (u : Bool) : Prop :=
  (u = true ∧ ∃ p : Nat, p ≤ l.length ∧ x = (p : Int) ∧ line = 1 + nl l p ∧ column = (p : Int) - st l p + 1) ∨
  (u = false ∧ x = 0 ∧ ∀ p : Nat, p ≤ l.length → ¬ (line = 1 + nl l p ∧ column = (p : Int) - st l p + 1))
theorem place_one {l : List UInt8} {p q : Nat} (e : nl l p = nl l q) (c : (p : Int) - st l p = (q : Int) - st l q) : p = q := by
  rw [st_same l e] at c; omega
theorem AtIs.uniq {l : List UInt8} {line column x y : Int} {u v : Bool} (h : AtIs l line column x u) (g : AtIs l line column y v) : x = y ∧ u = v := by
  rcases h with ⟨rfl, p, hp, rfl, h1, h2⟩ | ⟨rfl, rfl, h1⟩ <;> rcases g with ⟨rfl, q, hq, rfl, g1, g2⟩ | ⟨rfl, rfl, g1⟩
  · exact ⟨by rw [place_one (l := l) (p := p) (q := q) (by omega) (by omega)], rfl⟩
  · exact absurd ⟨h1, h2⟩ (g1 p hp)
  · exact absurd ⟨g1, g2⟩ (h1 q hq)
  · exact ⟨rfl, rfl⟩
theorem AtIs.here {l : List UInt8} {p : Nat} {x : Int} {u : Bool} (hp : p ≤ l.length) (h : AtIs l (1 + nl l p) ((p : Int) - st l p + 1) x u) : x = (p : Int) ∧ u = true :=
  h.uniq (.inl ⟨rfl, p, hp, rfl, rfl, rfl⟩)
theorem AtIs.found {l : List UInt8} {line column : Int} {t : Nat} (h : Found l line t) (hl : (1 + nl l t : Int) = line) (h1 : 1 ≤ column) (h2 : column ≤ (t : Int) - st l t + 1) :
    AtIs l line column (st l t + column - 1) true := by
  obtain ⟨p, hp⟩ : ∃ p : Nat, (p : Int) = st l t + column - 1 := ⟨(st l t + column - 1).toNat, by omega⟩
  have hs := same_line l (k := t) (q := p) (by omega) (by omega)
  have := end_le h.1
  exact .inl ⟨rfl, p, by omega, hp.symm, by omega, by omega⟩
theorem AtIs.missed {l : List UInt8} {line column : Int} {t : Nat} (h : Found l line t) (hl : (1 + nl l t : Int) = line → ¬ (1 ≤ column ∧ column ≤ (t : Int) - st l t + 1)) : AtIs l line column 0 false := by
  refine .inr ⟨rfl, rfl, fun p hp hq => ?_⟩
  obtain ⟨q1, q2⟩ := hq
  have h3 := nl_mono l hp
  have h4 := h.one (by omega) (by omega)
  have h5 : nl l p = nl l t := by omega
  have h6 := end_last h.1 hp h5
  have h7 := st_same l h5
  have h8 := st_le l p
  exact hl h4 ⟨by omega, by omega⟩
/-- the lines that end ahead of a place -/
def done (l : List UInt8) : Nat → List (List UInt8)
  | 0 => []
  | k + 1 => if bt l k = 10 then done l k ++ [cut l (st l k) k] else done l k
theorem done_length (l : List UInt8) : ∀ k, (done l k).length = nl l k
  | 0 => rfl
  | k + 1 => by
    have := done_length l k
    unfold done nl
    split
    · rw [List.length_append, this]; rfl
    · rw [this]; rfl
/-- all lines -/
def lns (l : List UInt8) : List (List UInt8) := done l l.length ++ [cut l (st l l.length) l.length]
theorem lns_length (l : List UInt8) : (lns l).length = nl l l.length + 1 := by
  unfold lns; rw [List.length_append, done_length]; rfl
theorem done_get {l : List UInt8} {t : Nat} (h : bt l t = 10) : ∀ {k : Nat}, t < k → (done l k)[nl l t]? = some (cut l (st l t) t)
  | 0, g => by omega
  | k + 1, g => by
    rcases Nat.lt_or_ge t k with e | e
    · have ih := done_get h e
      unfold done
      split
      · rw [List.getElem?_append_left (by rw [done_length]; exact nl_behind h e)]; exact ih
      · exact ih
    · obtain rfl : t = k := by omega
      unfold done
      rw [if_pos h, List.getElem?_append_right (by rw [done_length]; exact Nat.le_refl _), done_length, Nat.sub_self]
      rfl
theorem lns_get {l : List UInt8} {t : Nat} (h : isEnd l t) : (lns l)[nl l t]? = some (cut l (st l t) t) := by
  unfold lns
  rcases h with rfl | h
  · rw [List.getElem?_append_right (by rw [done_length]; exact Nat.le_refl _), done_length, Nat.sub_self]
    rfl
  · have hl := bt_lt h
    rw [List.getElem?_append_left (by rw [done_length]; exact nl_behind h hl)]
    exact done_get h hl
theorem nl_take {l : List UInt8} {n : Nat} : ∀ {k : Nat}, k ≤ n → nl (l.take n) k = nl l k
  | 0, _ => rfl
  | k + 1, h => by
    show nl (l.take n) k + _ = nl l k + _
    rw [nl_take (show k ≤ n by omega), bt_take (show k < n by omega)]
theorem st_take {l : List UInt8} {n : Nat} : ∀ {k : Nat}, k ≤ n → st (l.take n) k = st l k
  | 0, _ => rfl
  | k + 1, h => by
    unfold st
    rw [st_take (show k ≤ n by omega), bt_take (show k < n by omega)]
/-- joined by bytes 10: the next line -/
theorem join_next {l : List UInt8} {t u : Nat} (h : bt l t = 10) (g : isEnd l u) (e : nl l u = nl l t + 1) : l.take t ++ [10] ++ cut l (st l u) u = l.take u := by
  have ht := bt_lt h
  have h1 : nl l (t + 1) = nl l u := by rw [nl_hit h]; exact e.symm
  have h2 : st l u = t + 1 := by rw [← st_same l h1, st_hit h]
  have h3 : t + 1 ≤ u := by rw [← h2]; exact st_le l u
  have hx : l.getD t 0 = 10 := by
    apply UInt8.toNat.inj
    exact h
  rw [h2, ← cut_join (l := l) h3, take_next ht, hx]
end Go.Proofs.Ytbfejllcdalnhaa
