/- A region that draws its order, some of whose operations turn memory: those that only read, the same in all worlds of a class, are taken first, the others one by one, as they may come up; a forced tail at the end. No program. -/
import Derived.Deep.QuietTactic
import Derived.BigQuiet
import Derived.StillTail
namespace Go.Proofs.Ytncbkedfodaabaa
set_option linter.unusedVariables false

/-- what is left is an operation that enters nothing -/
def calmOp (o : Oper) : Bool := match o.op with
  | .move _ | .assign _ | .pick _ _ _ | .load _ _ | .binOp _ _ _ _ _ | .unOp _ _ _ | .fieldAddr _ _ _ | .indexAddr _ _ _ | .nilCheck _ | .lookup _ _ _ _ | .build _ _ | .field _ _ _ | .extract _ _ | .convert _ _ _ => true
  | .call { callee := .builtin .len, args := _, argTypes := _ } => true
  | _ => false
def NoEnter (P : Program) (s : Sem Next) : Prop := ∀ w f args w', s.run P w ≠ .ok (.enter f args) w'
theorem NoEnter.bind {α : Type} {P : Program} {s : Sem α} {k : α → Sem Next} (h : ∀ x, NoEnter P (k x)) : NoEnter P (s >>= k) := by
  intro w f args w' h2
  rw [Sem.run_bind] at h2
  cases hs : s.run P w with
  | ok v w1 => rw [hs] at h2; exact h v _ _ _ _ h2
  | halt x w1 => rw [hs] at h2; simp [Result.andThen] at h2
theorem NoEnter.value {P : Program} (v : Value) : NoEnter P (pure (Next.value v)) := by
  intro w f args w' h2
  rw [Sem.run_pure] at h2
  cases h2
theorem NoEnter.halt {P : Program} (h : Halt) : NoEnter P (Sem.halt h) := by
  intro w f args w' h2
  cases h2
theorem NoEnter.panic {P : Program} : NoEnter P (runtimePanic .nilDeref) := by
  unfold runtimePanic
  exact NoEnter.bind fun p => NoEnter.halt _
theorem calmOp_run {P : Program} {o : Oper} (h : calmOp o = true) (r : Operand → Value) : NoEnter P (execOp r o) := by
  unfold calmOp at h
  unfold execOp
  cases ho : o.op <;> rw [ho] at h
  case call c =>
    obtain ⟨ca, ar, at_⟩ := c
    cases ca <;> try (cases h; done)
    rename_i b
    cases b <;> try (cases h; done)
    intro w f args w' h2
    simp only [resolve, invoke, builtin, Sem.run_bind, Sem.run_pure, Result.andThen_ok] at h2
    cases hq : (Builtin.len_ at_ o.type (ar.map r)).run P w <;> rw [hq] at h2 <;> simp [Result.andThen] at h2
  case nilCheck x =>
    dsimp only
    split
    · exact NoEnter.panic
    · exact NoEnter.panic
    · exact NoEnter.panic
    · split
      · exact NoEnter.panic
      · refine NoEnter.bind fun p => NoEnter.bind fun q => ?_
        split
        · exact NoEnter.bind fun _ => NoEnter.value _
        · exact NoEnter.value _
      · exact NoEnter.value _
    · exact NoEnter.value _
  all_goals first | (cases h; done) | exact NoEnter.value _ | (exact NoEnter.bind fun _ => NoEnter.value _)
section
variable {P : Program} {ops : Array Oper} {Q : Exit → Act → World → Prop} {md : Region.Mode} {F : World → Prop}
/-- in all worlds of the class this operation yields v, and leaves the world alone -/
def Bare (P : Program) (ops : Array Oper) (F : World → Prop) (o : Oper) (v : Value) (a : Act) : Prop :=
  (Region.wanted o (yielded ops a.tmps) = true ∧ ∀ w, F w → (execOp a.eval o).run P w = .ok (.value v) w ∨ ((execOp a.eval o).run P w = .ok .skip w ∧ v = undef)) ∨
  (Region.wanted o (yielded ops a.tmps) = false ∧ v = undef)
theorem Bare.of_quiet {o : Oper} {v : Value} {a : Act} (hc : calmOp o = true) (h : YieldsIn P ops F o v a) : Bare P ops F o v a := by
  rcases h with ⟨h1, h2⟩ | h
  · refine .inl ⟨h1, fun w hw => ?_⟩
    have h3 := h2 w hw
    unfold Oper.quietAt at h3
    generalize hr : (execOp a.eval o).run P w = r at *
    cases r with
    | ok n w' =>
      cases n with
      | value u =>
        obtain ⟨rfl, rfl⟩ := h3
        exact .inl rfl
      | skip =>
        obtain ⟨rfl, rfl⟩ := h3
        exact .inr ⟨rfl, rfl⟩
      | enter f args => exact absurd hr (calmOp_run hc _ _ _ _ _)
      | _ => exact h3.elim
    | halt x w' => exact h3.elim
  · exact .inr h
theorem Bare.wpOp {i : Nat} {o : Oper} {v : Value} {a : Act} (hi : ops[i]? = some o) (hy : Bare P ops F o v a) {K : Act → World → Prop} {w : World} (hw : F w) (h : K (a.put o.dst v) w) : wpOp P ops Q i K a w := by
  unfold Go.wpOp
  simp only [hi]
  rcases hy with ⟨hw', hv⟩ | ⟨hw', rfl⟩
  · rw [if_pos hw']
    rcases hv w hw with hv1 | ⟨hv1, rfl⟩
    · unfold Oper.wp; rw [hv1]; exact .inl h
    · unfold Oper.wp; rw [hv1]; exact .inl h
  · simp only [hw', Bool.false_eq_true, if_false]; exact h
theorem Bare.of_same {o : Oper} {v : Value} {a a' : Act} (hy : Bare P ops F o v a) (he : execOp a'.eval o = execOp a.eval o)
    (hw : Region.wanted o (yielded ops a'.tmps) = Region.wanted o (yielded ops a.tmps)) : Bare P ops F o v a' := by
  unfold Bare at *
  rw [he, hw]
  exact hy
theorem wpOp_putF {j : Nat} {oi oj : Oper} {v : Value} (hj : ops[j]? = some oj) (hap : oi.apart ops oj = true)
    (hsi : ∀ cs b, oi.op ≠ .select cs b) (hsj : ∀ cs b, oj.op ≠ .select cs b)
    (hQ : ∀ c a d v w, Q (.panic c) (a.put d v) w → Q (.panic c) a w) {K : Act → World → Prop} {a : Act} {w : World}
    (hy : Bare P ops F oi v a) (h : wpOp P ops Q j K (a.put oi.dst v) w) :
    wpOp P ops Q j (fun a' w' => Bare P ops F oi v a' ∧ K (a'.put oi.dst v) w') a w := by
  obtain ⟨h1, h2, h3⟩ := Oper.apart_spec hap
  have keep : ∀ (a : Act), Bare P ops F oi v a → ∀ u, Bare P ops F oi v (a.put oj.dst u) := fun a hy u =>
    hy.of_same (execOp_put oi hsi a oj.dst u h3) (wanted_put oi a oj.dst u h3)
  have keepD : ∀ d, Bare P ops F oi v { a with defers := d :: a.defers } := fun d => hy.of_same rfl rfl
  unfold wpOp at *
  simp only [hj] at *
  rw [wanted_put oj a oi.dst v h1] at h
  split
  · rename_i hw
    simp only [hw, if_true] at h
    rcases h with h | ⟨hasks, hlets⟩
    case inr => exact .inr ⟨by unfold Oper.asks at *; rw [execOp_put oj hsj a oi.dst v h1] at hasks; exact hasks, hlets⟩
    refine .inl ?_
    unfold Oper.wp at *
    rw [execOp_put oj hsj a oi.dst v h1] at h
    generalize (execOp a.eval oj).run P w = r at *
    cases r with
    | ok n w' =>
      cases n <;> simp only [Oper.upon] at h ⊢
      case value u => exact ⟨keep a hy u, by rw [← Act.put_comm a v u h2]; exact h⟩
      case skip => exact ⟨keep a hy _, by rw [← Act.put_comm a v undef h2]; exact h⟩
      case defer d =>
        refine ⟨keep _ (keepD d) _, ?_⟩
        rw [← Act.put_comm _ v undef h2, ← Act.put_defers]
        exact h
      case enter f args =>
        refine Calls.mono h fun e w'' he => ?_
        cases e with
        | returned u => exact ⟨keep a hy u, by rw [← Act.put_comm a v u h2]; exact he⟩
        | panicked c => exact hQ _ _ _ _ _ he
        | outgrown => exact he
      case row row args => exact Rows.mono h fun u w'' he => ⟨keep a hy u, by rw [← Act.put_comm a v u h2]; exact he⟩
    | halt x w' =>
      cases x <;> simp only [Oper.upon] at h ⊢
      case panic u => exact hQ _ _ _ _ _ h
  · rename_i hw
    simp only [hw] at h
    exact ⟨keep a hy _, by rw [← Act.put_comm a v undef h2]; exact h⟩
variable (P ops Q F) in
/-- whatever order is picked from here on; t: the length of the tail, of which nothing may come up as long as another has not -/
def wpF (t : Nat) : Nat → Array Bool → Act → World → Prop
  | 0, listed, a, w => Region.ready .any ops listed = [ops.size - t] ∧ wpAny P .any ops Q t listed a w
  | fuel + 1, listed, a, w => Region.ready .any ops listed ≠ [] ∧ ∀ i ∈ Region.ready .any ops listed, wpOp P ops Q i (fun a' w' => F w' ∧ wpF t fuel (listed.setIfInBounds i true) a' w') a w
theorem wpAny_of_wpF {t : Nat} : ∀ (fuel : Nat) (listed : Array Bool) (a : Act) (w : World), wpF P ops Q F t fuel listed a w → wpAny P .any ops Q (fuel + t) listed a w
  | 0, _, _, _, h => by rw [Nat.zero_add]; exact h.2
  | fuel + 1, listed, a, w, h => by
    rw [Nat.add_right_comm]
    exact ⟨fun h0 => absurd h0 h.1, fun i hi => wpOp_mono (fun a' w' h' => wpAny_of_wpF fuel _ a' w' h'.2) (h.2 i hi)⟩
def waitsOn (ops : Array Oper) (p j : Nat) : Bool := match ops[p]? with
  | some o => o.after.any fun e => Region.binds .any e && e.on == j
  | none => false
theorem waitsOn_spec {p j : Nat} (h : waitsOn ops p j = true) : ∃ o, ops[p]? = some o ∧ ∃ e ∈ o.after, Region.binds .any e = true ∧ e.on = j := by
  unfold waitsOn at h
  split at h
  · rename_i o ho
    obtain ⟨e, he, h2⟩ := Array.any_eq_true'.1 h
    simp only [Bool.and_eq_true, beq_iff_eq] at h2
    exact ⟨o, ho, e, he, h2.1, h2.2⟩
  · cases h
theorem wpF_first {t i : Nat} {oi : Oper} {v : Value} (hi : ops[i]? = some oi) (ht : waitsOn ops (ops.size - t) i = true) (hsel : ∀ (j : Nat) (o : Oper) cs b, ops[j]? = some o → o.op ≠ .select cs b)
    (hQ : ∀ c a d v w, Q (.panic c) (a.put d v) w → Q (.panic c) a w) :
    ∀ (fuel : Nat) (listed : Array Bool) (a : Act) (w : World),
      (∀ j oj, ops[j]? = some oj → j ≠ i → listed.getD j true = false → (∀ e ∈ oj.after, Region.binds .any e = true → e.on ≠ i) → oi.apart ops oj = true) →
      i ∈ Region.ready .any ops listed → Bare P ops F oi v a → F w →
      wpF P ops Q F t fuel (listed.setIfInBounds i true) (a.put oi.dst v) w → wpF P ops Q F t (fuel + 1) listed a w := by
  intro fuel
  induction fuel with
  | zero =>
    intro listed a w _ hr hy hF H
    refine ⟨fun h => (by rw [h] at hr; cases hr), fun j hj => ?_⟩
    by_cases hji : j = i
    · subst hji; exact hy.wpOp hi hF ⟨hF, H⟩
    · have h1 := ready_mono hj hji
      rw [H.1] at h1
      have h2 : j = ops.size - t := by simpa using h1
      subst h2
      obtain ⟨hjun, oj, hoj, hall⟩ := mem_ready.1 hj
      obtain ⟨o', ho', e, he, hb, hon⟩ := waitsOn_spec ht
      rw [hoj] at ho'
      injection ho' with ho'
      subst ho'
      have h3 := hall e he hb
      rw [hon] at h3
      have h0 := (mem_ready.1 hr).1
      exfalso
      rcases Nat.lt_or_ge i listed.size with h' | h'
      · simp [h'] at h0 h3; rw [h0] at h3; cases h3
      · simp [Array.getElem?_eq_none h'] at h3
  | succ fuel ih =>
    intro listed a w hfree hr hy hF H
    refine ⟨fun h => (by rw [h] at hr; cases hr), fun j hj => ?_⟩
    by_cases hji : j = i
    · subst hji; exact hy.wpOp hi hF ⟨hF, H⟩
    · have h1 := H.2 j (ready_mono hj hji)
      obtain ⟨hjun, oj, hoj, hall⟩ := mem_ready.1 hj
      have hnot : ∀ e ∈ oj.after, Region.binds .any e = true → e.on ≠ i := fun e he hb heq => by
        have h1 := hall e he hb
        have h0 := (mem_ready.1 hr).1
        rw [heq] at h1
        rcases Nat.lt_or_ge i listed.size with h' | h'
        · simp [h'] at h0 h1; rw [h0] at h1; cases h1
        · simp [Array.getElem?_eq_none h'] at h1
      have h2 := wpOp_putF hoj (hfree j oj hoj hji hjun hnot) (fun cs b => hsel i oi cs b hi) (fun cs b => hsel j oj cs b hoj) hQ hy h1
      have hfree' : ∀ k ok, ops[k]? = some ok → k ≠ i → (listed.setIfInBounds j true).getD k true = false →
          (∀ e ∈ ok.after, Region.binds .any e = true → e.on ≠ i) → oi.apart ops ok = true := fun k ok hk hki hun hno => by
        refine hfree k ok hk hki ?_ hno
        by_cases hjk : j = k
        · subst hjk; exact hjun
        · rw [getD_set_ne true hjk] at hun; exact hun
      refine wpOp_mono (fun a' w' h3 => ⟨h3.2.1, ih (listed.setIfInBounds j true) a' w' hfree' (ready_mono hr (Ne.symm hji)) h3.1 h3.2.1 ?_⟩) h2
      rw [Array.setIfInBounds_comm _ _ hji]
      exact h3.2.2
/-- may these come up in this order, ahead of all others? -/
def smallB (ops : Array Oper) (t : Nat) : List Nat → Array Bool → Bool
  | [], _ => true
  | j :: js, listed => (Region.ready .any ops listed).contains j && Region.free .any ops listed j && waitsOn ops (ops.size - t) j && (match ops[j]? with | some o => calmOp o | none => false) && smallB ops t js (listed.setIfInBounds j true)
def markAll : List Nat → Array Bool → Array Bool
  | [], listed => listed
  | j :: js, listed => markAll js (listed.setIfInBounds j true)
theorem wpF_small {t m : Nat} (hs : Region.noSelect ops = true) (hQ : ∀ c a d v w, Q (.panic c) (a.put d v) w → Q (.panic c) a w) : ∀ (js : List Nat) (l : List Oper) (listed : Array Bool) (a : Act) (w : World), (l.map some = js.map fun j => ops[j]?) → smallB ops t js listed = true → F w →
    wpQuiet P ops F (fun a' => wpF P ops Q F t m (markAll js listed) a' w) l a → wpF P ops Q F t (l.length + m) listed a w
  | [], [], listed, a, w, _, _, hF, h => by rw [List.length_nil, Nat.zero_add]; exact h
  | [], _ :: _, _, _, _, hl, _, _, _ => by simp at hl
  | _ :: _, [], _, _, _, hl, _, _, _ => by simp at hl
  | j :: js, o :: l, listed, a, w, hl, hB, hF, h => by
    simp only [List.map_cons, List.cons.injEq] at hl
    obtain ⟨h0, hl⟩ := hl
    simp only [smallB, Bool.and_eq_true] at hB
    obtain ⟨⟨⟨⟨hr, hf⟩, hw⟩, hc⟩, hB'⟩ := hB
    rw [← h0] at hc
    have hst : qOp P ops F j (wpQuiet P ops F (fun a' => wpF P ops Q F t m (markAll (j :: js) listed) a' w) l) a := by unfold qOp; simp only [← h0]; exact h
    obtain ⟨v, hy, hK⟩ := yieldsIn_of_qOp h0.symm hst
    have h3 := wpF_first (t := t) h0.symm hw (Region.noSelect_spec hs) hQ (l.length + m) listed a w (Region.free_spec h0.symm hf) (by simpa using hr) (Bare.of_quiet hc hy) hF (wpF_small hs hQ js l _ _ w hl hB' hF hK)
    rw [List.length_cons, Nat.add_right_comm]
    exact h3
/-- those that a mask leaves, and their numbers -/
def leftOf : List Bool → List Oper → List Oper
  | true :: m, o :: l => o :: leftOf m l
  | false :: m, _ :: l => leftOf m l
  | _, _ => []
def numsOf : List Bool → Nat → List Nat
  | [], _ => []
  | true :: m, k => k :: numsOf m (k + 1)
  | false :: m, k => numsOf m (k + 1)
theorem left_nums {ops : Array Oper} : ∀ (m : List Bool) (l : List Oper) (k : Nat), m.length = l.length → (∀ j, l[j]? = ops[k + j]?) → (leftOf m l).map some = (numsOf m k).map fun j => ops[j]?
  | [], [], k, _, _ => rfl
  | [], _ :: _, k, h, _ => by simp at h
  | _ :: _, [], k, h, _ => by simp at h
  | true :: m, o :: l, k, h, hl => by
    have h1 := left_nums m l (k + 1) (by simpa using h) (fun j => by have := hl (j + 1); simpa [Nat.add_assoc, Nat.add_comm 1 j] using this)
    have h0 : some o = ops[k]? := by simpa using hl 0
    show some o :: (leftOf m l).map some = ops[k]? :: (numsOf m (k + 1)).map fun j => ops[j]?
    rw [h1, h0]
  | false :: m, o :: l, k, h, hl => left_nums m l (k + 1) (by simpa using h) (fun j => by have := hl (j + 1); simpa [Nat.add_assoc, Nat.add_comm 1 j] using this)
theorem wpF_mask {t n m : Nat} {l : List Oper} {listed : Array Bool} {a : Act} {w : World} (mask : List Bool) (hQ : ∀ c a d v w, Q (.panic c) (a.put d v) w → Q (.panic c) a w)
    (hB : (Region.noSelect l.toArray && decide (mask.length = l.length) && decide (n = (numsOf mask 0).length + m) && smallB l.toArray t (numsOf mask 0) listed) = true) (hF : F w)
    (h : wpQuiet P l.toArray F (fun a' => wpF P l.toArray Q F t m (markAll (numsOf mask 0) listed) a' w) (leftOf mask l) a) : wpF P l.toArray Q F t n listed a w := by
  simp only [Bool.and_eq_true, decide_eq_true_eq] at hB
  obtain ⟨⟨⟨h1, h2⟩, h3⟩, h4⟩ := hB
  have hl := left_nums (ops := l.toArray) mask l 0 h2 (fun j => by simp)
  have hn : (leftOf mask l).length = (numsOf mask 0).length := by have := congrArg List.length hl; simpa using this
  rw [h3, ← hn]
  exact wpF_small h1 hQ (numsOf mask 0) (leftOf mask l) listed a w hl h4 hF h
/-- behind one operation: on with K -/
def Upon (Q : Exit → Act → World → Prop) (K : Act → World → Prop) : Exit → Act → World → Prop
  | .normal, a, w => K a w
  | .panic c, a, w => Q (.panic c) a w
  | .outgrown, a, w => Q .outgrown a w
  | _, _, _ => True
theorem wpOp_of_list {p : Nat} {o : Oper} {K : Act → World → Prop} {a : Act} {w : World} (ho : ops[p]? = some o) (h : wpList P ops (Upon Q K) [o] a w) : wpOp P ops Q p K a w := by
  unfold wpOp
  simp only [ho]
  unfold wpList at h
  split
  · rename_i hw
    rw [if_pos hw] at h
    rcases h with h | ⟨h1, a1, w1, h2⟩
    · refine .inl ?_
      unfold Oper.wp at *
      generalize (execOp a.eval o).run P w = r at *
      cases r with
      | ok n w' =>
        cases n <;> simp only [Oper.upon] at h ⊢
        case value => exact h
        case skip => exact h
        case defer => exact h
        case enter f args =>
          refine Calls.mono h fun e w'' he => ?_
          cases e with
          | returned u => exact he
          | panicked c => exact he
          | outgrown =>
            obtain ⟨a2, w2, h3⟩ := he
            exact ⟨a2, w2, h3⟩
        case row row args => exact Rows.mono h fun u w'' he => he
      | halt x w' =>
        cases x <;> simp only [Oper.upon] at h ⊢
        case panic u => exact h
    · exact .inr ⟨h1, a1, w1, h2⟩
  · rename_i hw
    rw [if_neg hw] at h
    exact h
theorem one_of {l : List Oper} {listed : Array Bool} {p : Nat} (h : p ∈ Region.ready .any l.toArray listed) : ∃ o, l.toArray[p]? = some o ∧ (l.drop p).take 1 = [o] := by
  obtain ⟨_, o, ho, _⟩ := mem_ready.1 h
  have hp : p < l.length := by have := (Array.getElem?_eq_some_iff.1 ho).1; simpa using this
  refine ⟨o, ho, ?_⟩
  rw [List.drop_eq_getElem_cons hp]
  simp at ho
  obtain ⟨_, ho⟩ := List.getElem?_eq_some_iff.1 ho
  simp [ho]
/-- just one may come up -/
theorem wpF_one {t fuel : Nat} {l : List Oper} {listed : Array Bool} {a : Act} {w : World} (p : Nat) (hr : Region.ready .any l.toArray listed = [p])
    (h : wpList P l.toArray (Upon Q fun a' w' => F w' ∧ wpF P l.toArray Q F t fuel (listed.setIfInBounds p true) a' w') ((l.drop p).take 1) a w) : wpF P l.toArray Q F t (fuel + 1) listed a w := by
  refine ⟨by rw [hr]; exact List.cons_ne_nil _ _, fun i hi => ?_⟩
  have hi0 := hi
  rw [hr] at hi
  have hip : i = p := by simpa using hi
  subst hip
  obtain ⟨o, ho, e⟩ := one_of hi0
  rw [e] at h
  exact wpOp_of_list ho h
/-- either of two -/
theorem wpF_two {t fuel : Nat} {l : List Oper} {listed : Array Bool} {a : Act} {w : World} (p q : Nat) (hr : Region.ready .any l.toArray listed = [p, q])
    (h : wpList P l.toArray (Upon Q fun a' w' => F w' ∧ wpF P l.toArray Q F t fuel (listed.setIfInBounds p true) a' w') ((l.drop p).take 1) a w)
    (h' : wpList P l.toArray (Upon Q fun a' w' => F w' ∧ wpF P l.toArray Q F t fuel (listed.setIfInBounds q true) a' w') ((l.drop q).take 1) a w) : wpF P l.toArray Q F t (fuel + 1) listed a w := by
  refine ⟨by rw [hr]; exact List.cons_ne_nil _ _, fun i hi => ?_⟩
  have hi0 := hi
  rw [hr] at hi
  have hip : i = p ∨ i = q := by simpa using hi
  obtain ⟨o, ho, e⟩ := one_of hi0
  rcases hip with rfl | rfl
  · rw [e] at h
    exact wpOp_of_list ho h
  · rw [e] at h'
    exact wpOp_of_list ho h'
/-- the tail -/
theorem wpF_tail {t : Nat} {l : List Oper} {listed : Array Bool} {a : Act} {w : World} (n : Nat) (hB : (decide (n + t = l.length) && decide (Region.ready .any l.toArray listed = [n]) && Region.seqB .any l.toArray t n listed) = true) (h : wpList P l.toArray Q (l.drop n) a w) : wpF P l.toArray Q F t 0 listed a w := by
  simp only [Bool.and_eq_true, decide_eq_true_eq] at hB
  obtain ⟨⟨h0, h1⟩, h2⟩ := hB
  have e : l.toArray.size - t = n := by simp; omega
  refine ⟨by rw [e]; exact h1, ?_⟩
  have e2 : (l.drop n).length = t := by rw [List.length_drop]; omega
  have := wpAny_of_seq (P := P) (md := .any) (Q' := Q) (l.drop n) n listed a w (fun j => by simp [List.getElem?_drop]) (by rw [e2]; exact h2) h
  rw [e2] at this
  exact this
theorem wp_region_big {id : Nat} {a : Act} {w : World} {l : List Oper} (t : Nat) (hm : P.follows .mixedOrders = true) (ht : t ≤ l.length) (h : wpF P l.toArray Q F t (l.length - t) (Array.replicate l.length false) a { w with drawn := w.drawn + 1 }) : (Code.region id l.toArray true).wp P Q a w := by
  refine wp_region_any hm ?_
  have h1 := wpAny_of_wpF _ _ _ _ h
  rw [Nat.sub_add_cancel ht] at h1
  simpa using h1
end
end Go.Proofs.Ytncbkedfodaabaa
