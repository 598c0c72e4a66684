/- Regions that draw their order, with memory turned in the midst, and without a tail. No program. -/
import Derived.Test.YtncbkedfodaabaaGenBig
namespace Go.Proofs.Ytncbkedfodaabaa
set_option linter.unusedVariables false

section
variable {P : Program} {ops : Array Oper} {Q : Exit → Act → World → Prop} {F : World → Prop}
variable (P ops Q F) in
/-- whatever order is picked from here on, to the end -/
def wpE : Nat → Array Bool → Act → World → Prop
  | 0, listed, a, w => Region.ready .any ops listed = [] ∧ Q .normal a w
  | fuel + 1, listed, a, w => Region.ready .any ops listed ≠ [] ∧ ∀ i ∈ Region.ready .any ops listed, wpOp P ops Q i (fun a' w' => F w' ∧ wpE fuel (listed.setIfInBounds i true) a' w') a w
theorem wpAny_of_wpE : ∀ (fuel : Nat) (listed : Array Bool) (a : Act) (w : World), wpE P ops Q F fuel listed a w → wpAny P .any ops Q fuel listed a w
  | 0, _, _, _, h => h
  | fuel + 1, listed, a, w, h => ⟨fun h0 => absurd h0 h.1, fun i hi => wpOp_mono (fun a' w' h' => wpAny_of_wpE fuel _ a' w' h'.2) (h.2 i hi)⟩
theorem wpE_first {i : Nat} {oi : Oper} {v : Value} (hi : ops[i]? = some oi) (hsel : ∀ (j : Nat) (o : Oper) cs b, ops[j]? = some o → o.op ≠ .select cs b)
    (hQ : ∀ c a d v w, Q (.panic c) (a.put d v) w → Q (.panic c) a w) :
    ∀ (fuel : Nat) (listed : Array Bool) (a : Act) (w : World),
      (∀ j oj, ops[j]? = some oj → j ≠ i → listed.getD j true = false → (∀ e ∈ oj.after, Region.binds .any e = true → e.on ≠ i) → oi.apart ops oj = true) →
      i ∈ Region.ready .any ops listed → Bare P ops F oi v a → F w →
      wpE P ops Q F fuel (listed.setIfInBounds i true) (a.put oi.dst v) w → wpE P ops Q F (fuel + 1) listed a w := by
  intro fuel
  induction fuel with
  | zero =>
    intro listed a w _ hr hy hF H
    refine ⟨fun h => (by rw [h] at hr; cases hr), fun j hj => ?_⟩
    by_cases hji : j = i
    · subst hji; exact hy.wpOp hi hF ⟨hF, H⟩
    · have h1 := ready_mono hj hji
      rw [H.1] at h1
      cases h1
  | succ fuel ih =>
    intro listed a w hfree hr hy hF H
    refine ⟨fun h => (by rw [h] at hr; cases hr), fun j hj => ?_⟩
    by_cases hji : j = i
    · subst hji; exact hy.wpOp hi hF ⟨hF, H⟩
    · have h1 := H.2 j (ready_mono hj hji)
      obtain ⟨hjun, oj, hoj, hall⟩ := mem_ready.1 hj
      have hnot : ∀ e ∈ oj.after, Region.binds .any e = true → e.on ≠ i := fun e he hb heq => by
        have h1 := hall e he hb
        have h0 := (mem_ready.1 hr).1
        rw [heq] at h1
        rcases Nat.lt_or_ge i listed.size with h' | h'
        · simp [h'] at h0 h1; rw [h0] at h1; cases h1
        · simp [Array.getElem?_eq_none h'] at h1
      have h2 := wpOp_putF hoj (hfree j oj hoj hji hjun hnot) (fun cs b => hsel i oi cs b hi) (fun cs b => hsel j oj cs b hoj) hQ hy h1
      have hfree' : ∀ k ok, ops[k]? = some ok → k ≠ i → (listed.setIfInBounds j true).getD k true = false →
          (∀ e ∈ ok.after, Region.binds .any e = true → e.on ≠ i) → oi.apart ops ok = true := fun k ok hk hki hun hno => by
        refine hfree k ok hk hki ?_ hno
        by_cases hjk : j = k
        · subst hjk; exact hjun
        · rw [getD_set_ne true hjk] at hun; exact hun
      refine wpOp_mono (fun a' w' h3 => ⟨h3.2.1, ih (listed.setIfInBounds j true) a' w' hfree' (ready_mono hr (Ne.symm hji)) h3.1 h3.2.1 ?_⟩) h2
      rw [Array.setIfInBounds_comm _ _ hji]
      exact h3.2.2
/-- may these come up in this order, ahead of all others? -/
def smallE (ops : Array Oper) : List Nat → Array Bool → Bool
  | [], _ => true
  | j :: js, listed => (Region.ready .any ops listed).contains j && Region.free .any ops listed j && (match ops[j]? with | some o => calmOp o | none => false) && smallE ops js (listed.setIfInBounds j true)
theorem wpE_small {m : Nat} (hs : Region.noSelect ops = true) (hQ : ∀ c a d v w, Q (.panic c) (a.put d v) w → Q (.panic c) a w) : ∀ (js : List Nat) (l : List Oper) (listed : Array Bool) (a : Act) (w : World), (l.map some = js.map fun j => ops[j]?) → smallE ops js listed = true → F w →
    wpQuiet P ops F (fun a' => wpE P ops Q F m (markAll js listed) a' w) l a → wpE P ops Q F (l.length + m) listed a w
  | [], [], listed, a, w, _, _, hF, h => by rw [List.length_nil, Nat.zero_add]; exact h
  | [], _ :: _, _, _, _, hl, _, _, _ => by simp at hl
  | _ :: _, [], _, _, _, hl, _, _, _ => by simp at hl
  | j :: js, o :: l, listed, a, w, hl, hB, hF, h => by
    simp only [List.map_cons, List.cons.injEq] at hl
    obtain ⟨h0, hl⟩ := hl
    simp only [smallE, Bool.and_eq_true] at hB
    obtain ⟨⟨⟨hr, hf⟩, hc⟩, hB'⟩ := hB
    rw [← h0] at hc
    have hst : qOp P ops F j (wpQuiet P ops F (fun a' => wpE P ops Q F m (markAll (j :: js) listed) a' w) l) a := by unfold qOp; simp only [← h0]; exact h
    obtain ⟨v, hy, hK⟩ := yieldsIn_of_qOp h0.symm hst
    have h3 := wpE_first h0.symm (Region.noSelect_spec hs) hQ (l.length + m) listed a w (Region.free_spec h0.symm hf) (by simpa using hr) (Bare.of_quiet hc hy) hF (wpE_small hs hQ js l _ _ w hl hB' hF hK)
    rw [List.length_cons, Nat.add_right_comm]
    exact h3
theorem wpE_mask {n m : Nat} {l : List Oper} {listed : Array Bool} {a : Act} {w : World} (mask : List Bool) (hQ : ∀ c a d v w, Q (.panic c) (a.put d v) w → Q (.panic c) a w)
    (hB : (Region.noSelect l.toArray && decide (mask.length = l.length) && decide (n = (numsOf mask 0).length + m) && smallE l.toArray (numsOf mask 0) listed) = true) (hF : F w)
    (h : wpQuiet P l.toArray F (fun a' => wpE P l.toArray Q F m (markAll (numsOf mask 0) listed) a' w) (leftOf mask l) a) : wpE P l.toArray Q F n listed a w := by
  simp only [Bool.and_eq_true, decide_eq_true_eq] at hB
  obtain ⟨⟨⟨h1, h2⟩, h3⟩, h4⟩ := hB
  have hl := left_nums (ops := l.toArray) mask l 0 h2 (fun j => by simp)
  have hn : (leftOf mask l).length = (numsOf mask 0).length := by have := congrArg List.length hl; simpa using this
  rw [h3, ← hn]
  exact wpE_small h1 hQ (numsOf mask 0) (leftOf mask l) listed a w hl h4 hF h
/-- just one may come up -/
theorem wpE_one {fuel : Nat} {l : List Oper} {listed : Array Bool} {a : Act} {w : World} (p : Nat) (hr : Region.ready .any l.toArray listed = [p])
    (h : wpList P l.toArray (Upon Q fun a' w' => F w' ∧ wpE P l.toArray Q F fuel (listed.setIfInBounds p true) a' w') ((l.drop p).take 1) a w) : wpE P l.toArray Q F (fuel + 1) listed a w := by
  refine ⟨by rw [hr]; exact List.cons_ne_nil _ _, fun i hi => ?_⟩
  have hi0 := hi
  rw [hr] at hi
  have hip : i = p := by simpa using hi
  subst hip
  obtain ⟨o, ho, e⟩ := one_of hi0
  rw [e] at h
  exact wpOp_of_list ho h
theorem wpE_end {listed : Array Bool} {a : Act} {w : World} (hr : Region.ready .any ops listed = []) (h : Q .normal a w) : wpE P ops Q F 0 listed a w := ⟨hr, h⟩
theorem wp_region_bigE {id : Nat} {a : Act} {w : World} {l : List Oper} (hm : P.follows .mixedOrders = true) (h : wpE P l.toArray Q F l.length (Array.replicate l.length false) a { w with drawn := w.drawn + 1 }) : (Code.region id l.toArray true).wp P Q a w := by
  refine wp_region_any hm ?_
  have h1 := wpAny_of_wpE _ _ _ _ h
  simpa using h1
end
end Go.Proofs.Ytncbkedfodaabaa
