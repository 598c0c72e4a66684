/- Names that are seen, as lists: what is declared in each open block (the innermost first), what a name means. No program. -/
import Derived.Test.YtncbkedfodaabaaGenText
import Derived.WalkKit
namespace Go.Proofs.Ytncbkedfodaabaa
set_option linter.unusedVariables false

/-- a declaration: its name, slot and kind -/
structure Dc where
  nm : ByteArray
  sl : Nat
  kd : Nat
/-- .. with its block, counted from 1 on -/
structure Va where
  nm : ByteArray
  bk : Nat
  sl : Nat
  kd : Nat
instance : Inhabited Va := ⟨⟨ByteArray.empty, 0, 0, 0⟩⟩
instance : Inhabited Dc := ⟨⟨ByteArray.empty, 0, 0⟩⟩
def Dc.at_ (k : Nat) (d : Dc) : Va := ⟨d.nm, k, d.sl, d.kd⟩
/-- all that is seen, in order -/
def flat : List (List Dc) → List Va
  | [] => []
  | b :: R => flat R ++ b.map (Dc.at_ (R.length + 1))
/-- the last one of the name -/
def lk (l : List Va) (s : ByteArray) : Option Va := l.reverse.find? fun v => decide (v.nm = s)
/-- slot, kind and block; none: nothing but 0 -/
def tri : Option Va → Nat × Nat × Nat
  | some v => (v.sl, v.kd, v.bk)
  | none => (0, 0, 0)
def Sees (R : List (List Dc)) (s : ByteArray) : Nat × Nat × Nat := tri (lk (flat R) s)
theorem lk_append (a b : List Va) (s : ByteArray) : lk (a ++ b) s = (lk b s).or (lk a s) := by
  unfold lk; rw [List.reverse_append, List.find?_append]
theorem lk_snoc (a : List Va) (v : Va) (s : ByteArray) : lk (a ++ [v]) s = if v.nm = s then some v else lk a s := by
  rw [lk_append]
  unfold lk
  by_cases h : v.nm = s
  · simp [h]
  · simp [h]
theorem lk_nil (s : ByteArray) : lk [] s = none := rfl
theorem lk_mem {l : List Va} {s : ByteArray} {v : Va} (h : lk l s = some v) : v ∈ l ∧ v.nm = s := by
  unfold lk at h
  have h1 := List.mem_of_find?_eq_some h
  have h2 := List.find?_some h
  exact ⟨by simpa using h1, by simpa using h2⟩
theorem lk_none {l : List Va} {s : ByteArray} (h : lk l s = none) : ∀ v ∈ l, v.nm ≠ s := by
  unfold lk at h
  rw [List.find?_eq_none] at h
  intro v hv
  have := h v (by simpa using hv)
  simpa using this
theorem lk_skip {l : List Va} {s : ByteArray} (h : ∀ v ∈ l, v.nm ≠ s) : lk l s = none := by
  unfold lk
  rw [List.find?_eq_none]
  intro v hv
  have := h v (by simpa using hv)
  simpa using this
/-- what is declared has a name that is no longer than a text may be, and a kind -/
def Fine (R : List (List Dc)) : Prop := ∀ b ∈ R, ∀ d ∈ b, d.nm.size ≤ maxLen ∧ 1 ≤ d.kd ∧ d.kd ≤ 3
theorem Fine.tail {b : List Dc} {R : List (List Dc)} (h : Fine (b :: R)) : Fine R := fun c hc => h c (List.mem_cons_of_mem _ hc)
theorem flat_le : ∀ {R : List (List Dc)} {v : Va}, v ∈ flat R → 1 ≤ v.bk ∧ v.bk ≤ R.length
  | [], v, h => by cases h
  | b :: R, v, h => by
    rcases List.mem_append.1 h with h | h
    · have := flat_le h; simp; omega
    · obtain ⟨d, _, rfl⟩ := List.mem_map.1 h
      simp [Dc.at_]
theorem Fine.flat : ∀ {R : List (List Dc)}, Fine R → ∀ v ∈ flat R, v.nm.size ≤ maxLen ∧ 1 ≤ v.kd ∧ v.kd ≤ 3
  | [], _, v, h => by cases h
  | b :: R, H, v, h => by
    rcases List.mem_append.1 h with h | h
    · exact Fine.flat H.tail v h
    · obtain ⟨d, hd, rfl⟩ := List.mem_map.1 h
      exact H b (by simp) d hd
/-- is the name declared in the innermost block? -/
theorem sees_here {b : List Dc} {R : List (List Dc)} (s : ByteArray) : (Sees (b :: R) s).2.2 = R.length + 1 ↔ ∃ d ∈ b, d.nm = s := by
  unfold Sees
  rw [flat, lk_append]
  cases h : lk (b.map (Dc.at_ (R.length + 1))) s with
  | some v =>
    obtain ⟨h1, h2⟩ := lk_mem h
    obtain ⟨d, hd, rfl⟩ := List.mem_map.1 h1
    simp only [Option.some_or, tri]
    exact ⟨fun _ => ⟨d, hd, h2⟩, fun _ => rfl⟩
  | none =>
    simp only [Option.none_or]
    constructor
    · intro h3
      exfalso
      cases h4 : lk (flat R) s with
      | none => rw [h4] at h3; simp [tri] at h3
      | some v =>
        rw [h4] at h3
        have := flat_le (lk_mem h4).1
        simp only [tri] at h3
        omega
    · rintro ⟨d, hd, hs⟩
      exact absurd hs (lk_none h _ (List.mem_map.2 ⟨d, hd, rfl⟩))
/-- .. it is not: what it means, it means further out -/
theorem sees_out {b : List Dc} {R : List (List Dc)} {s : ByteArray} (h : ¬ ∃ d ∈ b, d.nm = s) : Sees (b :: R) s = Sees R s := by
  unfold Sees
  rw [flat, lk_append, lk_skip, Option.none_or]
  intro v hv
  obtain ⟨d, hd, rfl⟩ := List.mem_map.1 hv
  exact fun e => h ⟨d, hd, e⟩
theorem sees_open (R : List (List Dc)) (s : ByteArray) : Sees ([] :: R) s = Sees R s := sees_out (by simp)
/-- behind a declaration -/
theorem sees_more {b : List Dc} {R : List (List Dc)} (d : Dc) (s : ByteArray) : Sees ((b ++ [d]) :: R) s = if d.nm = s then (d.sl, d.kd, R.length + 1) else Sees (b :: R) s := by
  unfold Sees
  rw [flat, flat, List.map_append, ← List.append_assoc, List.map_singleton, lk_snoc]
  show tri (if d.nm = s then _ else _) = _
  split
  · rfl
  · rfl
/-- it is seen just if its kind is one -/
theorem sees_kind {R : List (List Dc)} (H : Fine R) (s : ByteArray) : (Sees R s).2.1 = 0 → Sees R s = (0, 0, 0) := by
  unfold Sees
  cases h : lk (flat R) s with
  | none => intro _; rfl
  | some v =>
    intro h1
    have := H.flat v (lk_mem h).1
    simp only [tri] at h1
    omega
/-- the last place of the name among the first n -/
def ix (l : List Va) (s : ByteArray) : Nat → Int
  | 0 => -1
  | n + 1 => if (l.getD n default).nm = s then n else ix l s n
theorem ix_is (l : List Va) (s : ByteArray) : ∀ n, n ≤ l.length → (ix l s n = -1 ∧ lk (l.take n) s = none) ∨ ∃ j : Nat, j < n ∧ ix l s n = j ∧ lk (l.take n) s = some (l.getD j default)
  | 0, _ => .inl ⟨rfl, rfl⟩
  | n + 1, h => by
    have hg : l.getD n default = l[n] := by rw [List.getD_eq_getElem?_getD, List.getElem?_eq_getElem (by omega)]; rfl
    rw [List.take_succ_eq_append_getElem (by omega), lk_snoc, ix, hg]
    split
    · exact .inr ⟨n, by omega, rfl, by rw [hg]⟩
    · rcases ix_is l s n (by omega) with h1 | ⟨j, h1, h2⟩
      · exact .inl h1
      · exact .inr ⟨j, by omega, h2⟩
theorem ix_whole (l : List Va) (s : ByteArray) : (ix l s l.length = -1 ∧ lk l s = none) ∨ ∃ j : Nat, j < l.length ∧ ix l s l.length = j ∧ lk l s = some (l.getD j default) := by
  have := ix_is l s l.length (Nat.le_refl _)
  rwa [List.take_length] at this
/-- what stands further out than the innermost block -/
theorem flat_outer (b : List Dc) (R : List (List Dc)) : (flat (b :: R)).filter (fun v => decide (v.bk < R.length + 1)) = flat R := by
  rw [flat, List.filter_append]
  have h1 : (flat R).filter (fun v => decide (v.bk < R.length + 1)) = flat R := by
    rw [List.filter_eq_self]
    intro v hv
    have := flat_le hv
    simp only [decide_eq_true_eq]
    omega
  have h2 : (b.map (Dc.at_ (R.length + 1))).filter (fun v => decide (v.bk < R.length + 1)) = [] := by
    rw [List.filter_eq_nil_iff]
    intro v hv
    obtain ⟨d, _, rfl⟩ := List.mem_map.1 hv
    simp [Dc.at_]
  rw [h1, h2, List.append_nil]
theorem flat_more (b : List Dc) (R : List (List Dc)) (d : Dc) : flat ((b ++ [d]) :: R) = flat (b :: R) ++ [d.at_ (R.length + 1)] := by
  rw [flat, flat, List.map_append, List.append_assoc]; rfl
theorem flat_open (R : List (List Dc)) : flat ([] :: R) = flat R := by rw [flat]; simp

/-- something that is done -/
structure Ac where
  doo : Int
  nm : ByteArray
  kd : Int
instance : Inhabited Ac := ⟨⟨0, ByteArray.empty, 0⟩⟩
/-- may it be declared? -/
def may (R : List (List Dc)) (s : ByteArray) (k : Int) : Bool := decide (1 ≤ k) && decide (k ≤ 3) && !decide ((Sees R s).2.2 = R.length)
/-- what is open, and all kinds, behind it -/
def declared (R : List (List Dc)) (ks : List Nat) (s : ByteArray) (k : Int) : List (List Dc) × List Nat :=
  if may R s k then
    match R with
    | [] => (R, ks)
    | b :: R' => ((b ++ [⟨s, ks.length, k.toNat⟩]) :: R', ks ++ [k.toNat])
  else (R, ks)
def closed (R : List (List Dc)) : List (List Dc) :=
  match R with
  | b :: c :: R' => c :: R'
  | R => R
end Go.Proofs.Ytncbkedfodaabaa
