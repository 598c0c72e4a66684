/- Reading depends on nothing but the tokens' kinds, texts and numbers; what stands behind may be an end or a bracket; levels that are open do not matter while there are few tokens. No program. -/
import Derived.Test.YtnmeijcaaohnpaaDoorExprRules
import Derived.Test.YtnmeijcaaohnpaaDoorExprDeep
namespace Go.Proofs.YtnmeijcaaohnpaaDoor
set_option linter.unusedVariables false

def tcore (t : Tk) : Tk := { t with place := 0 }
def ncore (x : Nd) : Nd := { x with at_ := 0 }
theorem sees_core {a b : Tk} (h : tcore a = tcore b) (t : List UInt8) : sees a t = sees b t := by
  have h1 : a.kind = b.kind := by have := congrArg Tk.kind h; exact this
  have h2 : a.text = b.text := by have := congrArg Tk.text h; exact this
  unfold sees
  rw [h1, h2]
theorem sg_core {a b : Tk} (h : tcore a = tcore b) : sg a = sg b := by
  have h1 : a.kind = b.kind := by have := congrArg Tk.kind h; exact this
  unfold sg
  simp only [sees_core h, h1]
/-- what may stand behind: an end, or a ) -/
def shuts (z : Tk) : Prop := z.kind = 0 ∨ (z.kind = 4 ∧ z.text = rp)
theorem shuts_sees {z : Tk} (h : shuts z) {t : List UInt8} (ht : t ≠ rp) : sees z t = false := by
  unfold sees
  rcases h with h | ⟨h1, h2⟩
  · rw [h]; rfl
  · rw [h1, h2, show (rp == t) = false from beq_eq_false_iff_ne.2 (fun e => ht e.symm)]
    rfl
theorem end_sees {e : Tk} (h : e.kind = 0) (t : List UInt8) : sees e t = false := by unfold sees; rw [h]; rfl
theorem sign_not (a : Nat) : tSigns.getD a [] ≠ rp := by
  have h : ∀ x ∈ tSigns, x ≠ rp := by decide
  rw [List.getD_eq_getElem?_getD]
  cases hx : tSigns[a]? with
  | none => show ([] : List UInt8) ≠ rp; decide
  | some x => exact h x (List.mem_of_getElem? hx)
theorem opFrom_eq {a b : Tk} (h : ∀ t, t ≠ rp → sees a t = sees b t) : ∀ (n k : Nat), opFrom a k n = opFrom b k n
  | 0, _ => rfl
  | n + 1, k => by
    unfold opFrom
    rw [h _ (sign_not k), opFrom_eq h n (k + 1)]
/-- two readers: the tokens are alike up to the end of the first one's -/
structure Rel (e z : Tk) (rest : List Tk) (A B : List Tk) (s t : PS) : Prop where
  sr : s.r = A ++ [e]
  tr : t.r = B ++ z :: rest
  al : A.map tcore = B.map tcore
  pos : ∀ a ∈ A, a.kind ≠ 0
  h : s.h = t.h
  l : s.l.map ncore = t.l.map ncore
variable {e z : Tk} {rest A B : List Tk} {s t : PS}
theorem Rel.two (R : Rel e z rest A B s t) : (A = [] ∧ B = [] ∧ s.tok = e ∧ t.tok = z) ∨ ∃ a A' b B', A = a :: A' ∧ B = b :: B' ∧ tcore a = tcore b ∧ s.tok = a ∧ t.tok = b ∧ Rel e z rest A' B' s.next t.next := by
  cases A with
  | nil =>
    have hB : B = [] := by have := R.al; cases B with
      | nil => rfl
      | cons b r => cases this
    refine .inl ⟨rfl, hB, ?_, ?_⟩
    · unfold PS.tok; rw [R.sr]; rfl
    · unfold PS.tok; rw [R.tr, hB]; rfl
  | cons a A' =>
    cases B with
    | nil => have := R.al; cases this
    | cons b B' =>
      have hal := R.al
      rw [List.map_cons, List.map_cons] at hal
      injection hal with h1 h2
      refine .inr ⟨a, A', b, B', rfl, rfl, h1, ?_, ?_, ⟨?_, ?_, h2, (fun x hx => R.pos x (List.mem_cons_of_mem _ hx)), R.h, R.l⟩⟩
      · unfold PS.tok; rw [R.sr]; rfl
      · unfold PS.tok; rw [R.tr]; rfl
      · show s.r.tail = _; rw [R.sr]; rfl
      · show t.r.tail = _; rw [R.tr]; rfl
theorem Rel.len (R : Rel e z rest A B s t) : 1 ≤ s.r.length := by rw [R.sr, List.length_append]; exact Nat.le_add_left 1 _
theorem Rel.sees (he : e.kind = 0) (hz : shuts z) (R : Rel e z rest A B s t) (x : List UInt8) (hx : x ≠ rp) : sees s.tok x = sees t.tok x := by
  rcases R.two with ⟨_, _, h1, h2⟩ | ⟨a, A', b, B', _, _, h, h1, h2, _⟩
  · rw [h1, h2, end_sees he, shuts_sees hz hx]
  · rw [h1, h2, sees_core h]
theorem Rel.is (he : e.kind = 0) (hz : shuts z) (R : Rel e z rest A B s t) (x : List UInt8) (hx : x ≠ rp) : s.is x = t.is x := R.sees he hz x hx
theorem Rel.op (he : e.kind = 0) (hz : shuts z) (R : Rel e z rest A B s t) (lv : Nat) : opAt lv s.tok = opAt lv t.tok := opFrom_eq (fun x hx => R.sees he hz x hx) _ _
theorem Rel.step (he : e.kind = 0) (R : Rel e z rest A B s t) (hk : s.tok.kind ≠ 0) : ∃ a A' b B', A = a :: A' ∧ B = b :: B' ∧ tcore s.tok = tcore t.tok ∧ Rel e z rest A' B' s.next t.next := by
  rcases R.two with ⟨_, _, h1, _⟩ | ⟨a, A', b, B', h3, h4, h, h1, h2, h5⟩
  · rw [h1] at hk; exact absurd he hk
  · exact ⟨a, A', b, B', h3, h4, by rw [h1, h2]; exact h, h5⟩
theorem sees_pos {k : Tk} {x : List UInt8} (h : Go.Proofs.YtnmeijcaaohnpaaDoor.sees k x = true) : k.kind ≠ 0 := fun g => by rw [end_sees g] at h; cases h
theorem lay_sim {x y : Nd} {l : List Int} {s' : PS} (R : Rel e z rest A B s t) (h : lay x s = .ok (l, s')) (hx : ncore x = ncore y) : ∃ t', lay y t = .ok (l, t') ∧ Rel e z rest A B s' t' := by
  have hk : x.kids = y.kids := by have := congrArg Nd.kids hx; exact this
  have hlen : s.l.length = t.l.length := by have := congrArg List.length R.l; rw [List.length_map, List.length_map] at this; exact this
  unfold lay at h ⊢
  rw [R.h, hk] at h
  split at h
  · cases h
  · rename_i g
    rw [if_neg g]
    injection h with h
    injection h with h1 h2
    subst h1 h2
    refine ⟨⟨t.r, t.l ++ [y], t.h ++ [high t.h y.kids]⟩, by rw [hlen], R.sr, R.tr, R.al, R.pos, ?_, ?_⟩
    · rfl
    · show (s.l ++ [x]).map ncore = (t.l ++ [y]).map ncore
      rw [List.map_append, List.map_append, R.l]
      show _ ++ [ncore x] = _ ++ [ncore y]
      rw [hx]
/-- who reads something begins with a token -/
theorem rd_some : ∀ (n : Nat) (m : Md) (d : Nat) (s : PS) (x : List Int × PS), rd n m d s = some (.ok x) → (∀ lv p, m ≠ .loop lv p) → (∀ p, m ≠ .more p) → s.tok.kind ≠ 0
  | 0, _, _, _, _, h, _, _ => by cases h
  | n + 1, .chain lv, d, s, x, h, _, _ => by
    rw [rd] at h
    split at h
    · exact rd_some n _ _ _ _ h (fun _ _ e => by cases e) (fun _ e => by cases e)
    · rcases go_ok h with ⟨e, _, h2⟩ | ⟨p, s1, h1, _⟩
      · cases h2
      · exact rd_some n _ _ _ _ h1 (fun _ _ e => by cases e) (fun _ e => by cases e)
  | n + 1, .loop lv p, d, s, x, h, h1, _ => absurd rfl (h1 lv p)
  | n + 1, .more p, d, s, x, h, _, h1 => absurd rfl (h1 p)
  | n + 1, .front, d, s, x, h, _, _ => by
    rw [rd] at h
    split at h
    · rename_i g
      rw [Bool.or_eq_true] at g
      rcases g with g | g
      · exact sees_pos g
      · exact sees_pos g
    · exact rd_some n _ _ _ _ h (fun _ _ e => by cases e) (fun _ e => by cases e)
  | n + 1, .idx, d, s, x, h, _, _ => by
    rw [rd] at h
    rcases go_ok h with ⟨e, _, h2⟩ | ⟨p, s1, h1, _⟩
    · cases h2
    · exact rd_some n _ _ _ _ h1 (fun _ _ e => by cases e) (fun _ e => by cases e)
  | n + 1, .inner a b, d, s, x, h, _, _ => by
    rw [rd] at h
    split at h
    · rename_i g; exact sees_pos g
    · cases h
  | n + 1, .call nm a, d, s, x, h, _, _ => by
    rw [rd] at h
    split at h
    · rename_i g; exact sees_pos g
    · cases h
  | n + 1, .args acc, d, s, x, h, _, _ => by
    rw [rd] at h
    split at h
    · cases h
    · rcases go_ok h with ⟨e, _, h2⟩ | ⟨p, s1, h1, _⟩
      · cases h2
      · exact rd_some n _ _ _ _ h1 (fun _ _ e => by cases e) (fun _ e => by cases e)
  | n + 1, .single, d, s, x, h, _, _ => by
    rw [rd_single] at h
    intro hk
    have : sg s.tok = 0 := by unfold sg sees; rw [hk]; rfl
    rw [this] at h
    cases h
/-- the same but for a call's place -/
def modeEq (m m' : Md) : Prop := m = m' ∨ ∃ nm a a', m = .call nm a ∧ m' = .call nm a'
/-- what the other reader reads -/
def Sims (e z : Tk) (rest : List Tk) (n : Nat) (m : Md) (d : Nat) (l : List Int) (s' t : PS) : Prop := ∃ t' A' B', rd n m d t = some (.ok (l, t')) ∧ Rel e z rest A' B' s' t'
theorem rd_len {n : Nat} {m : Md} {d : Nat} {s : PS} {l : List Int} {s' : PS} (h : rd n m d s = some (.ok (l, s'))) : s'.r.length ≤ s.r.length := (rd_slack n m d s _ h l s' rfl).2.1
theorem next_len (h : s.tok.kind ≠ 0) : s.next.r.length + 1 = s.r.length := slack_kind h
theorem rd_sim (he : e.kind = 0) (hz : shuts z) (k : Nat) : ∀ (n : Nat) (m m' : Md) (d : Nat) (s t : PS) (A B : List Tk) (l : List Int) (s' : PS), modeEq m m' → rd n m d s = some (.ok (l, s')) → Rel e z rest A B s t → d + k + s.r.length ≤ 201 → Sims e z rest n m' (d + k) l s' t
  | 0, _, _, _, _, _, _, _, _, _, _, h, _, _ => by cases h
  | n + 1, .chain lv, m', d, s, t, A, B, l, s', hm, h, R, hd => by
    obtain rfl : _ = m' := by
      rcases hm with h | ⟨_, _, _, h, _⟩
      · exact h
      · cases h
    have ih := rd_sim he hz k n
    rw [rd] at h
    unfold Sims
    rw [rd]
    split at h
    · rename_i g
      rw [if_pos g]
      exact ih _ _ _ _ _ _ _ _ _ (.inl rfl) h R hd
    · rename_i g
      rw [if_neg g]
      rcases go_ok h with ⟨e, _, h2⟩ | ⟨p, s1, h1, h2⟩
      · cases h2
      · obtain ⟨t1, A1, B1, r1, R1⟩ := ih _ _ _ _ _ _ _ _ _ (.inl rfl) h1 R hd
        rw [r1]
        exact ih _ _ _ _ _ _ _ _ _ (.inl rfl) h2 R1 (by have := rd_len h1; omega)
  | n + 1, .loop lv p, m', d, s, t, A, B, l, s', hm, h, R, hd => by
    obtain rfl : _ = m' := by
      rcases hm with h | ⟨_, _, _, h, _⟩
      · exact h
      · cases h
    have ih := rd_sim he hz k n
    rw [rd] at h
    unfold Sims
    rw [rd, ← R.op he hz lv]
    cases ho : opAt lv s.tok with
    | none =>
      rw [ho] at h
      injection h with h
      injection h with h
      injection h with h1 h2
      subst h1 h2
      exact ⟨t, A, B, rfl, R⟩
    | some op =>
      rw [ho] at h
      have hk := sees_pos (opAt_sees ho)
      have hln := next_len hk
      obtain ⟨a, A', b, B', _, _, hc, RN⟩ := R.step he hk
      have hrn := RN.len
      rcases go_ok h with ⟨e, _, h2⟩ | ⟨q, s1, h1, h2⟩
      · cases h2
      · obtain ⟨t1, A1, B1, r1, R1⟩ := ih _ _ _ _ _ _ _ _ _ (.inl rfl) h1 RN (by omega)
        show ∃ t' A' B', Out.go (rd n (.chain (lv + 1)) (d + k) t.next) _ = _ ∧ _
        rw [r1]
        rcases go_ok h2 with ⟨e, _, h3⟩ | ⟨kk, s2, h3, h4⟩
        · cases h3
        · injection h3 with h3
          obtain ⟨t2, r2, R2⟩ := lay_sim (y := En 5 [p, hd1 q] op ⟨#[]⟩ t.tok.place) R1 h3 rfl
          show ∃ t' A' B', Out.go (some (lay _ t1)) _ = _ ∧ _
          rw [r2]
          show ∃ t' A' B', (if lv = 2 then some (Except.ok (kk, t2)) else _) = _ ∧ _
          split at h4
          · rename_i g
            rw [if_pos g]
            injection h4 with h4
            injection h4 with h4
            injection h4 with h5 h6
            subst h5 h6
            exact ⟨t2, A1, B1, rfl, R2⟩
          · rename_i g
            rw [if_neg g]
            have e2 := (lay_slack h3).2.1
            exact ih _ _ _ _ _ _ _ _ _ (.inl rfl) h4 R2 (by have := rd_len h1; rw [e2]; omega)
  | n + 1, .front, m', d, s, t, A, B, l, s', hm, h, R, hd => by
    obtain rfl : _ = m' := by
      rcases hm with h | ⟨_, _, _, h, _⟩
      · exact h
      · cases h
    have ih := rd_sim he hz k n
    rw [rd] at h
    unfold Sims
    rw [rd, ← R.is he hz minus (by decide), ← R.is he hz bang (by decide)]
    split at h
    · rename_i g
      rw [if_pos g]
      have hk : s.tok.kind ≠ 0 := by
        rw [Bool.or_eq_true] at g
        rcases g with g | g
        · exact sees_pos g
        · exact sees_pos g
      have hln := next_len hk
      obtain ⟨a, A', b, B', _, _, hc, RN⟩ := R.step he hk
      have hrn := RN.len
      split at h
      · cases h
      · rw [if_neg (by omega)]
        rcases go_ok h with ⟨e, _, h2⟩ | ⟨q, s1, h1, h2⟩
        · cases h2
        · obtain ⟨t1, A1, B1, r1, R1⟩ := ih _ _ _ _ _ _ _ _ _ (.inl rfl) h1 RN (by omega)
          rw [show d + k + 1 = d + 1 + k by omega, r1]
          injection h2 with h2
          obtain ⟨t2, r2, R2⟩ := lay_sim (y := En (if s.is minus then 6 else 7) [hd1 q] 0 ⟨#[]⟩ t.tok.place) R1 h2 rfl
          exact ⟨t2, A1, B1, congrArg some r2, R2⟩
    · rename_i g
      rw [if_neg g]
      exact ih _ _ _ _ _ _ _ _ _ (.inl rfl) h R hd
  | n + 1, .idx, m', d, s, t, A, B, l, s', hm, h, R, hd => by
    obtain rfl : _ = m' := by
      rcases hm with h | ⟨_, _, _, h, _⟩
      · exact h
      · cases h
    have ih := rd_sim he hz k n
    rw [rd] at h
    unfold Sims
    rw [rd]
    rcases go_ok h with ⟨e, _, h2⟩ | ⟨p, s1, h1, h2⟩
    · cases h2
    · obtain ⟨t1, A1, B1, r1, R1⟩ := ih _ _ _ _ _ _ _ _ _ (.inl rfl) h1 R hd
      rw [r1]
      exact ih _ _ _ _ _ _ _ _ _ (.inl rfl) h2 R1 (by have := rd_len h1; omega)
  | n + 1, .more p, m', d, s, t, A, B, l, s', hm, h, R, hd => by
    obtain rfl : _ = m' := by
      rcases hm with h | ⟨_, _, _, h, _⟩
      · exact h
      · cases h
    have ih := rd_sim he hz k n
    rw [rd] at h
    unfold Sims
    rw [rd, ← R.is he hz lb (by decide)]
    split at h
    · rename_i g
      rw [if_pos g]
      rcases go_ok h with ⟨e, _, h2⟩ | ⟨q, s1, h1, h2⟩
      · cases h2
      · obtain ⟨t1, A1, B1, r1, R1⟩ := ih _ _ _ _ _ _ _ _ _ (.inl rfl) h1 R hd
        rw [r1]
        rcases go_ok h2 with ⟨e, _, h3⟩ | ⟨kk, s2, h3, h4⟩
        · cases h3
        · injection h3 with h3
          obtain ⟨t2, r2, R2⟩ := lay_sim (y := En 8 [p, hd1 q] 0 ⟨#[]⟩ t.tok.place) R1 h3 rfl
          show ∃ t' A' B', Out.go (some (lay _ t1)) _ = _ ∧ _
          rw [r2]
          have e2 := (lay_slack h3).2.1
          exact ih _ _ _ _ _ _ _ _ _ (.inl rfl) h4 R2 (by have := rd_len h1; rw [e2]; omega)
    · rename_i g
      rw [if_neg g]
      injection h with h
      injection h with h
      injection h with h1 h2
      subst h1 h2
      exact ⟨t, A, B, rfl, R⟩
  | n + 1, .inner a b, m', d, s, t, A, B, l, s', hm, h, R, hd => by
    obtain rfl : _ = m' := by
      rcases hm with h | ⟨_, _, _, h, _⟩
      · exact h
      · cases h
    have ih := rd_sim he hz k n
    rw [rd] at h
    unfold Sims
    rw [rd]
    split at h
    · rename_i g
      have hk := sees_pos g
      have hln := next_len hk
      obtain ⟨a', A', b', B', _, _, hc, RN⟩ := R.step he hk
      have hrn := RN.len
      have g' : t.is a = true := by unfold PS.is; rw [← sees_core hc]; exact g
      rw [if_pos g']
      split at h
      · cases h
      · rw [if_neg (by omega)]
        rcases go_ok h with ⟨e, _, h2⟩ | ⟨q, s1, h1, h2⟩
        · cases h2
        · obtain ⟨t1, A1, B1, r1, R1⟩ := ih _ _ _ _ _ _ _ _ _ (.inl rfl) h1 RN (by omega)
          rw [show d + k + 1 = d + 1 + k by omega, r1]
          show ∃ t' A' B', (if t1.is b then some (Except.ok (q, t1.next)) else _) = _ ∧ _
          split at h2
          · rename_i g2
            obtain ⟨a2, A2, b2, B2, _, _, hc2, RN2⟩ := R1.step he (sees_pos g2)
            have g2' : t1.is b = true := by unfold PS.is; rw [← sees_core hc2]; exact g2
            rw [if_pos g2']
            injection h2 with h2
            injection h2 with h2
            injection h2 with h5 h6
            subst h5 h6
            exact ⟨t1.next, A2, B2, rfl, RN2⟩
          · cases h2
    · cases h
  | n + 1, .call nm at_, m', d, s, t, A, B, l, s', hm, h, R, hd => by
    obtain ⟨at', rfl⟩ : ∃ at', m' = .call nm at' := by
      rcases hm with h | ⟨nm2, a1, a2, h1, h2⟩
      · exact ⟨at_, h.symm⟩
      · injection h1 with h3 h4
        subst h3
        exact ⟨a2, h2⟩
    · skip
      have ih := rd_sim he hz k n
      rw [rd] at h
      unfold Sims
      rw [rd]
      split at h
      · rename_i g
        have hk := sees_pos g
        have hln := next_len hk
        obtain ⟨a', A', b', B', _, _, hc, RN⟩ := R.step he hk
        have hrn := RN.len
        have g' : t.is lp = true := by unfold PS.is; rw [← sees_core hc]; exact g
        rw [if_pos g']
        split at h
        · cases h
        · rw [if_neg (by omega)]
          rcases go_ok h with ⟨e, _, h2⟩ | ⟨q, s1, h1, h2⟩
          · cases h2
          · have hmid : ∃ t1 A1 B1, (if t.next.is rp then some (.ok ([], t.next)) else rd n (.args []) (d + k + 1) t.next) = some (.ok (q, t1)) ∧ Rel e z rest A1 B1 s1 t1 ∧ s1.r.length ≤ s.next.r.length := by
              split at h1
              · rename_i g3
                obtain ⟨a3, A3, b3, B3, _, _, hc3, RN3⟩ := RN.step he (sees_pos g3)
                have g3' : t.next.is rp = true := by unfold PS.is; rw [← sees_core hc3]; exact g3
                rw [if_pos g3']
                injection h1 with h1
                injection h1 with h1
                injection h1 with h5 h6
                subst h5 h6
                exact ⟨t.next, _, _, rfl, RN, Nat.le_refl _⟩
              · rename_i g3
                have hk3 := rd_some _ _ _ _ _ h1 (fun _ _ e => by cases e) (fun _ e => by cases e)
                obtain ⟨a3, A3, b3, B3, _, _, hc3, RN3⟩ := RN.step he hk3
                have g3' : ¬ t.next.is rp = true := by unfold PS.is; rw [← sees_core hc3]; exact g3
                rw [if_neg g3']
                obtain ⟨t1, A1, B1, r1, R1⟩ := ih _ _ _ _ _ _ _ _ _ (.inl rfl) h1 RN (by omega)
                exact ⟨t1, A1, B1, by rw [show d + k + 1 = d + 1 + k by omega]; exact r1, R1, rd_len h1⟩
            obtain ⟨t1, A1, B1, r1, R1, hl1⟩ := hmid
            rw [r1]
            show ∃ t' A' B', (if t1.is rp then some (lay _ t1.next) else _) = _ ∧ _
            split at h2
            · rename_i g2
              obtain ⟨a2, A2, b2, B2, _, _, hc2, RN2⟩ := R1.step he (sees_pos g2)
              have g2' : t1.is rp = true := by unfold PS.is; rw [← sees_core hc2]; exact g2
              rw [if_pos g2']
              injection h2 with h2
              obtain ⟨t2, r2, R2⟩ := lay_sim (y := En 11 q 0 nm at') RN2 h2 rfl
              exact ⟨t2, A2, B2, congrArg some r2, R2⟩
            · cases h2
      · cases h
  | n + 1, .args acc, m', d, s, t, A, B, l, s', hm, h, R, hd => by
    obtain rfl : _ = m' := by
      rcases hm with h | ⟨_, _, _, h, _⟩
      · exact h
      · cases h
    have ih := rd_sim he hz k n
    rw [rd] at h
    unfold Sims
    rw [rd]
    split at h
    · cases h
    · rename_i g
      rw [if_neg g]
      rcases go_ok h with ⟨e, _, h2⟩ | ⟨p, s1, h1, h2⟩
      · cases h2
      · obtain ⟨t1, A1, B1, r1, R1⟩ := ih _ _ _ _ _ _ _ _ _ (.inl rfl) h1 R hd
        rw [r1]
        show ∃ t' A' B', (if t1.is comma then _ else _) = _ ∧ _
        rw [← R1.is he hz comma (by decide)]
        have hl1 := rd_len h1
        split at h2
        · rename_i g2
          rw [if_pos g2]
          have hk2 := sees_pos g2
          have hln := next_len hk2
          obtain ⟨a2, A2, b2, B2, _, _, hc2, RN2⟩ := R1.step he hk2
          exact ih _ _ _ _ _ _ _ _ _ (.inl rfl) h2 RN2 (by omega)
        · rename_i g2
          rw [if_neg g2]
          injection h2 with h2
          injection h2 with h2
          injection h2 with h5 h6
          subst h5 h6
          exact ⟨t1, A1, B1, rfl, R1⟩
  | n + 1, .single, m', d, s, t, A, B, l, s', hm, h, R, hd => by
    obtain rfl : _ = m' := by
      rcases hm with h | ⟨_, _, _, h, _⟩
      · exact h
      · cases h
    have ih := rd_sim he hz k n
    have hk := rd_some _ _ _ _ _ h (fun _ _ e => by cases e) (fun _ e => by cases e)
    have hln := next_len hk
    obtain ⟨a, A', b, B', _, _, hc, RN⟩ := R.step he hk
    have hrn := RN.len
    rw [rd_single] at h
    unfold Sims
    rw [rd_single, ← sg_core hc]
    have hn : s.tok.n = t.tok.n := by have := congrArg Tk.n hc; exact this
    have ht : s.tok.text = t.tok.text := by have := congrArg Tk.text hc; exact this
    have leaf : ∀ x y, ncore x = ncore y → some (lay x s.next) = some (.ok (l, s')) → ∃ t' A' B', some (lay y t.next) = some (.ok (l, t')) ∧ Rel e z rest A' B' s' t' := by
      intro x y hxy hx
      injection hx with hx
      obtain ⟨t2, r2, R2⟩ := lay_sim (y := y) RN hx hxy
      exact ⟨t2, _, _, congrArg some r2, R2⟩
    have arnd : ∀ K, (Out.go (rd n (.inner lp rp) d s.next) fun q s1 => some (lay (En K [hd1 q] 0 ⟨#[]⟩ s.tok.place) s1)) = some (.ok (l, s')) → ∃ t' A' B', (Out.go (rd n (.inner lp rp) (d + k) t.next) fun q s1 => some (lay (En K [hd1 q] 0 ⟨#[]⟩ t.tok.place) s1)) = some (.ok (l, t')) ∧ Rel e z rest A' B' s' t' := by
      intro K hx
      rcases go_ok hx with ⟨e, _, h2⟩ | ⟨q, s1, h1, h2⟩
      · cases h2
      · obtain ⟨t1, A1, B1, r1, R1⟩ := ih _ _ _ _ _ _ _ _ _ (.inl rfl) h1 RN (by omega)
        rw [r1]
        injection h2 with h2
        obtain ⟨t2, r2, R2⟩ := lay_sim (y := En K [hd1 q] 0 ⟨#[]⟩ t.tok.place) R1 h2 rfl
        exact ⟨t2, A1, B1, congrArg some r2, R2⟩
    split at h
    · rename_i hg; exact ih _ _ _ _ _ _ _ _ _ (.inl rfl) h R hd
    · rename_i hg; exact leaf _ _ (by rfl) h
    · rename_i hg; exact leaf _ _ (by rfl) h
    · rename_i hg; exact leaf _ _ (by rfl) h
    · rename_i hg; exact arnd _ h
    · rename_i hg; exact arnd _ h
    · rename_i hg; exact leaf _ _ (by rw [hn]; rfl) h
    · rename_i hg
      show ∃ t' A' B', (if t.next.is lp then _ else _) = _ ∧ _
      rw [← RN.is he hz lp (by decide)]
      split at h
      · rename_i g2
        rw [if_pos g2]
        exact ih _ _ _ _ _ _ _ _ _ (.inr ⟨_, s.tok.place, t.tok.place, rfl, by rw [ht]⟩) h RN (by omega)
      · rename_i g2
        rw [if_neg g2]
        exact leaf _ _ (by rw [ht]; rfl) h
    · cases h
/-- what is read of a text's tokens is read where other things stand behind, at more levels -/
theorem reads_sim (he : e.kind = 0) (hz : shuts z) {k : Nat} {A B rest : List Tk} (hal : A.map tcore = B.map tcore) (hpos : ∀ a ∈ A, a.kind ≠ 0) (hk : k + A.length ≤ 200) {l : List Int} {s' : PS} (h : Reads (.chain 0) 0 ⟨A ++ [e], [], []⟩ (.ok (l, s'))) (h0 : s'.tok.kind = 0) :
    ∃ t', Reads (.chain 0) k ⟨B ++ z :: rest, [], []⟩ (.ok (l, t')) ∧ t'.r = z :: rest ∧ s'.l.map ncore = t'.l.map ncore := by
  obtain ⟨n, hn⟩ := h
  obtain ⟨t', A', B', r, R⟩ := rd_sim (e := e) (z := z) (rest := rest) he hz k n (.chain 0) (.chain 0) 0 ⟨A ++ [e], [], []⟩ ⟨B ++ z :: rest, [], []⟩ A B l s' (.inl rfl) hn ⟨rfl, rfl, hal, hpos, rfl, rfl⟩ (by show 0 + k + (A ++ [e]).length ≤ 201; rw [List.length_append]; show 0 + k + (A.length + 1) ≤ 201; omega)
  rw [Nat.zero_add] at r
  refine ⟨t', ⟨n, r⟩, ?_, R.l⟩
  rcases R.two with ⟨_, hB, _, _⟩ | ⟨a, A2, b, B2, hA, _, _, h1, _, _⟩
  · rw [R.tr, hB]; rfl
  · exact absurd (by rw [← h1]; exact h0) (R.pos a (by rw [hA]; exact List.mem_cons_self ..))
end Go.Proofs.YtnmeijcaaohnpaaDoor
