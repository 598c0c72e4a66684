/- A program is told by its tokens alone: where they stand does not matter. No program. -/
import Derived.Test.YtagacfcpepoaoaaDoorMDeep
import Derived.Test.YtagacfcpepoaoaaDoorMShape
namespace Go.Proofs.YtagacfcpepoaoaaDoor
set_option linter.unusedVariables false

/-- two readers, alike but for places -/
structure Alk (s t : PS) : Prop where
  r : s.r.map tcore = t.r.map tcore
  h : s.h = t.h
  l : s.l.map ncore = t.l.map ncore
def VAl : Out → Out → Prop
  | .ok (l, s), .ok (l', t) => l = l' ∧ Alk s t
  | .error f, .error g => f.1 = g.1
  | _, _ => False
variable {s t : PS}
theorem Alk.tok (h : Alk s t) : tcore s.tok = tcore t.tok := by
  have hr := h.r
  unfold PS.tok
  cases hs : s.r with
  | nil =>
    rw [hs] at hr
    cases ht : t.r with
    | nil => rfl
    | cons b r => rw [ht] at hr; cases hr
  | cons a q =>
    rw [hs] at hr
    cases ht : t.r with
    | nil => rw [ht] at hr; cases hr
    | cons b r =>
      rw [ht, List.map_cons, List.map_cons] at hr
      injection hr with h1 _
theorem Alk.next (h : Alk s t) : Alk s.next t.next := by
  refine ⟨?_, h.h, h.l⟩
  show s.r.tail.map tcore = t.r.tail.map tcore
  rw [List.map_tail, List.map_tail, h.r]
theorem Alk.is (h : Alk s t) (b : List UInt8) : s.is b = t.is b := sees_core h.tok b
theorem Alk.kind (h : Alk s t) : s.tok.kind = t.tok.kind := by have := congrArg Tk.kind h.tok; exact this
theorem Alk.text (h : Alk s t) : s.tok.text = t.tok.text := by have := congrArg Tk.text h.tok; exact this
theorem Alk.n (h : Alk s t) : s.tok.n = t.tok.n := by have := congrArg Tk.n h.tok; exact this
theorem Alk.op (h : Alk s t) (lv : Nat) : opAt lv s.tok = opAt lv t.tok := opFrom_eq (fun x _ => sees_core h.tok x) _ _
theorem kindAt_core {a b : Tk} (h : tcore a = tcore b) : kindAt a = kindAt b := by unfold kindAt; simp only [sees_core h]
theorem stAt_core {a b : Tk} (h : tcore a = tcore b) : stAt a = stAt b := by unfold stAt; simp only [sees_core h]
theorem lay_alk {x y : Nd} (h : Alk s t) (hx : ncore x = ncore y) : VAl (lay x s) (lay y t) := by
  have hk : x.kids = y.kids := by have := congrArg Nd.kids hx; exact this
  have hlen : s.l.length = t.l.length := by have := congrArg List.length h.l; rw [List.length_map, List.length_map] at this; exact this
  unfold lay
  rw [h.h, hk]
  split
  · rfl
  · refine ⟨by rw [hlen], h.r, rfl, ?_⟩
    show (s.l ++ [x]).map ncore = (t.l ++ [y]).map ncore
    rw [List.map_append, List.map_append, h.l]
    show _ ++ [ncore x] = _ ++ [ncore y]
    rw [hx]
/-- the other one's answer -/
def Ans2 (o : Option Out) (v : Out) : Prop := ∃ v', o = some v' ∧ VAl v v'
theorem go_alk {o o' : Option Out} {f f' : List Int → PS → Option Out} {v : Out} (h : Out.go o f = some v) (ho : ∀ u, o = some u → Ans2 o' u) (hf : ∀ p s t w, Alk s t → f p s = some w → Ans2 (f' p t) w) : Ans2 (Out.go o' f') v := by
  rcases go_ok h with ⟨e, h1, rfl⟩ | ⟨p, s1, h1, h2⟩
  · obtain ⟨v', e', hv⟩ := ho _ h1
    rw [e']
    cases v' with
    | ok y => exact hv.elim
    | error g => exact ⟨.error g, rfl, hv⟩
  · obtain ⟨v', e', hv⟩ := ho _ h1
    rw [e']
    cases v' with
    | error g => exact hv.elim
    | ok y =>
      obtain ⟨p', t1⟩ := y
      obtain ⟨rfl, hA⟩ := hv
      exact hf _ _ _ _ hA h2
theorem need_alk {b : List UInt8} {f f' : PS → Option Out} {v : Out} (hA : Alk s t) (h : need b s f = some v) (hf : Alk s.next t.next → f s.next = some v → Ans2 (f' t.next) v) : Ans2 (need b t f') v := by
  unfold need at h ⊢
  rw [← hA.is b]
  split at h
  · rename_i g; rw [if_pos g]; exact hf hA.next h
  · rename_i g; rw [if_neg g]; injection h with h; subst h; exact ⟨_, rfl, rfl⟩
theorem name_alk {f f' : ByteArray → Nat → PS → Option Out} {v : Out} (hA : Alk s t) (h : needName s f = some v) (hf : ∀ nm a a', Alk s.next t.next → f nm a s.next = some v → Ans2 (f' nm a' t.next) v) : Ans2 (needName t f') v := by
  unfold needName at h ⊢
  rw [← hA.kind]
  split at h
  · rename_i g; rw [if_pos g, ← hA.text]; exact hf _ _ _ hA.next h
  · rename_i g; rw [if_neg g]; injection h with h; subst h; exact ⟨_, rfl, rfl⟩
theorem kind_alk {f f' : Nat → PS → Option Out} {v : Out} (hA : Alk s t) (h : needKind s f = some v) (hf : ∀ k, Alk s.next t.next → f k s.next = some v → Ans2 (f' k t.next) v) : Ans2 (needKind t f') v := by
  unfold needKind at h ⊢
  rw [← kindAt_core hA.tok]
  split at h
  · rename_i g; rw [if_pos g]; injection h with h; subst h; exact ⟨_, rfl, rfl⟩
  · rename_i g; rw [if_neg g]; exact hf _ hA.next h
theorem lay_alk' {x y : Nd} {v : Out} (hA : Alk s t) (h : some (lay x s) = some v) (hx : ncore x = ncore y) : Ans2 (some (lay y t)) v := by
  injection h with h
  subst h
  exact ⟨_, rfl, lay_alk hA hx⟩
theorem err_alk {x a a' : Nat} {v : Out} (h : some (Except.error (x, a)) = some v) : Ans2 (some (Except.error (x, a'))) v := by
  injection h with h
  subst h
  exact ⟨_, rfl, rfl⟩
theorem ok_alk {l : List Int} {v : Out} (hA : Alk s t) (h : some (Except.ok (l, s)) = some v) : Ans2 (some (Except.ok (l, t))) v := by
  injection h with h
  subst h
  exact ⟨_, rfl, rfl, hA⟩
theorem rd_alk : ∀ (n : Nat) (m m' : Md) (d : Nat) (s t : PS) (v : Out), modeEq m m' → Alk s t → rd n m d s = some v → Ans2 (rd n m' d t) v
  | 0, _, _, _, _, _, _, _, _, h => by cases h
  | n + 1, .chain lv, m', d, s, t, v, hm, hA, h => by
    obtain rfl : _ = m' := by
      rcases hm with h | ⟨_, _, _, h, _⟩
      · exact h
      · cases h
    rw [rd] at h ⊢
    split at h
    · rename_i g; rw [if_pos g]; exact rd_alk n _ _ _ _ _ _ (.inl rfl) hA h
    · rename_i g; rw [if_neg g]; exact go_alk h (fun u => rd_alk n _ _ _ _ _ u (.inl rfl) hA) (fun p s t w hA => rd_alk n _ _ _ _ _ w (.inl rfl) hA)
  | n + 1, .loop lv p, m', d, s, t, v, hm, hA, h => by
    obtain rfl : _ = m' := by
      rcases hm with h | ⟨_, _, _, h, _⟩
      · exact h
      · cases h
    rw [rd] at h ⊢
    rw [← hA.op lv]
    cases ho : opAt lv s.tok with
    | none => rw [ho] at h; exact ok_alk hA h
    | some op =>
      rw [ho] at h
      refine go_alk h (fun u => rd_alk n _ _ _ _ _ u (.inl rfl) hA.next) (fun q s1 t1 w hA1 h1 => go_alk h1 (fun u hu => lay_alk' hA1 hu rfl) (fun k s2 t2 w hA2 h2 => ?_))
      split at h2
      · rename_i g; rw [if_pos g]; exact ok_alk hA2 h2
      · rename_i g; rw [if_neg g]; exact rd_alk n _ _ _ _ _ _ (.inl rfl) hA2 h2
  | n + 1, .front, m', d, s, t, v, hm, hA, h => by
    obtain rfl : _ = m' := by
      rcases hm with h | ⟨_, _, _, h, _⟩
      · exact h
      · cases h
    rw [rd] at h ⊢
    rw [← hA.is minus, ← hA.is bang]
    split at h
    · rename_i g
      rw [if_pos g]
      split at h
      · rename_i g2; rw [if_pos g2]; exact err_alk h
      · rename_i g2; rw [if_neg g2]; exact go_alk h (fun u => rd_alk n _ _ _ _ _ u (.inl rfl) hA.next) (fun q s1 t1 w hA1 h1 => lay_alk' hA1 h1 rfl)
    · rename_i g; rw [if_neg g]; exact rd_alk n _ _ _ _ _ _ (.inl rfl) hA h
  | n + 1, .idx, m', d, s, t, v, hm, hA, h => by
    obtain rfl : _ = m' := by
      rcases hm with h | ⟨_, _, _, h, _⟩
      · exact h
      · cases h
    rw [rd] at h ⊢
    exact go_alk h (fun u => rd_alk n _ _ _ _ _ u (.inl rfl) hA) (fun p s t w hA => rd_alk n _ _ _ _ _ w (.inl rfl) hA)
  | n + 1, .more p, m', d, s, t, v, hm, hA, h => by
    obtain rfl : _ = m' := by
      rcases hm with h | ⟨_, _, _, h, _⟩
      · exact h
      · cases h
    rw [rd] at h ⊢
    rw [← hA.is lb]
    split at h
    · rename_i g
      rw [if_pos g]
      exact go_alk h (fun u => rd_alk n _ _ _ _ _ u (.inl rfl) hA) (fun q s1 t1 w hA1 h1 => go_alk h1 (fun u hu => lay_alk' hA1 hu rfl) (fun k s2 t2 w hA2 h2 => rd_alk n _ _ _ _ _ _ (.inl rfl) hA2 h2))
    · rename_i g; rw [if_neg g]; exact ok_alk hA h
  | n + 1, .inner a b, m', d, s, t, v, hm, hA, h => by
    obtain rfl : _ = m' := by
      rcases hm with h | ⟨_, _, _, h, _⟩
      · exact h
      · cases h
    rw [rd] at h ⊢
    rw [← hA.is a]
    split at h
    · rename_i g
      rw [if_pos g]
      split at h
      · rename_i g2; rw [if_pos g2]; exact err_alk h
      · rename_i g2
        rw [if_neg g2]
        refine go_alk h (fun u => rd_alk n _ _ _ _ _ u (.inl rfl) hA.next) (fun q s1 t1 w hA1 h1 => ?_)
        rw [← hA1.is b]
        split at h1
        · rename_i g3; rw [if_pos g3]; exact ok_alk hA1.next h1
        · rename_i g3; rw [if_neg g3]; exact err_alk h1
    · rename_i g; rw [if_neg g]; exact err_alk h
  | n + 1, .call nm at_, m', d, s, t, v, hm, hA, h => by
    obtain ⟨at', rfl⟩ : ∃ at', m' = .call nm at' := by
      rcases hm with h | ⟨nm2, a1, a2, h1, h2⟩
      · exact ⟨at_, h.symm⟩
      · injection h1 with h3 h4
        subst h3
        exact ⟨a2, h2⟩
    rw [rd] at h ⊢
    rw [← hA.is lp]
    split at h
    · rename_i g
      rw [if_pos g]
      split at h
      · rename_i g2; rw [if_pos g2]; exact err_alk h
      · rename_i g2
        rw [if_neg g2]
        refine go_alk h (fun u hu => ?_) (fun q s1 t1 w hA1 h1 => ?_)
        · rw [← hA.next.is rp]
          split at hu
          · rename_i g3; rw [if_pos g3]; exact ok_alk hA.next hu
          · rename_i g3; rw [if_neg g3]; exact rd_alk n _ _ _ _ _ u (.inl rfl) hA.next hu
        · rw [← hA1.is rp]
          split at h1
          · rename_i g3; rw [if_pos g3]; exact lay_alk' hA1.next h1 rfl
          · rename_i g3; rw [if_neg g3]; exact err_alk h1
    · rename_i g; rw [if_neg g]; exact err_alk h
  | n + 1, .args acc, m', d, s, t, v, hm, hA, h => by
    obtain rfl : _ = m' := by
      rcases hm with h | ⟨_, _, _, h, _⟩
      · exact h
      · cases h
    rw [rd] at h ⊢
    split at h
    · rename_i g; rw [if_pos g]; exact err_alk h
    · rename_i g
      rw [if_neg g]
      refine go_alk h (fun u => rd_alk n _ _ _ _ _ u (.inl rfl) hA) (fun q s1 t1 w hA1 h1 => ?_)
      rw [← hA1.is comma]
      split at h1
      · rename_i g3; rw [if_pos g3]; exact rd_alk n _ _ _ _ _ _ (.inl rfl) hA1.next h1
      · rename_i g3; rw [if_neg g3]; exact ok_alk hA1 h1
  | n + 1, .single, m', d, s, t, v, hm, hA, h => by
    obtain rfl : _ = m' := by
      rcases hm with h | ⟨_, _, _, h, _⟩
      · exact h
      · cases h
    rw [rd_single] at h ⊢
    rw [← sg_core hA.tok]
    split at h
    · exact rd_alk n _ _ _ _ _ _ (.inl rfl) hA h
    · exact lay_alk' hA.next h (by rfl)
    · exact lay_alk' hA.next h (by rfl)
    · exact lay_alk' hA.next h (by rfl)
    · exact go_alk h (fun u => rd_alk n _ _ _ _ _ u (.inl rfl) hA.next) (fun q s1 t1 w hA1 h1 => lay_alk' hA1 h1 (by rfl))
    · exact go_alk h (fun u => rd_alk n _ _ _ _ _ u (.inl rfl) hA.next) (fun q s1 t1 w hA1 h1 => lay_alk' hA1 h1 (by rfl))
    · exact lay_alk' hA.next h (by rw [hA.n]; rfl)
    · show Ans2 (if t.next.is lp then _ else _) v
      rw [← hA.next.is lp]
      split at h
      · rename_i g2; rw [if_pos g2]; exact rd_alk n _ _ _ _ _ _ (.inr ⟨_, s.tok.place, t.tok.place, rfl, by rw [hA.text]⟩) hA.next h
      · rename_i g2; rw [if_neg g2]; exact lay_alk' hA.next h (by rw [hA.text]; rfl)
    · exact err_alk h
theorem ex_alk {n d : Nat} {f f' : Int → PS → Option Out} {v : Out} (hA : Alk s t) (h : needEx n d s f = some v) (hf : ∀ a s t w, Alk s t → f a s = some w → Ans2 (f' a t) w) : Ans2 (needEx n d t f') v :=
  go_alk h (fun u => rd_alk n _ _ _ _ _ u (.inl rfl) hA) (fun p s t w hA h => hf _ _ _ _ hA h)
/-- the same but for a block's place -/
def pmEq (m m' : Pm) : Prop := m = m' ∨ ∃ acc a a', m = .stmts acc a ∧ m' = .stmts acc a'
theorem prd_alk : ∀ (n : Nat) (m m' : Pm) (d : Nat) (s t : PS) (v : Out), pmEq m m' → Alk s t → prd n m d s = some v → Ans2 (prd n m' d t) v
  | 0, _, _, _, _, _, _, _, _, h => by cases h
  | n + 1, .block, m', d, s, t, v, hm, hA, h => by
    obtain rfl : _ = m' := by
      rcases hm with h | ⟨_, _, _, h, _⟩
      · exact h
      · cases h
    rw [prd] at h ⊢
    refine need_alk hA h fun hA1 h => ?_
    split at h
    · rename_i g; rw [if_pos g]; exact err_alk h
    · rename_i g; rw [if_neg g]; exact prd_alk n _ _ _ _ _ _ (.inr ⟨_, s.tok.place, t.tok.place, rfl, rfl⟩) hA1 h
  | n + 1, .stmts acc a, m', d, s, t, v, hm, hA, h => by
    obtain ⟨a', rfl⟩ : ∃ a', m' = .stmts acc a' := by
      rcases hm with h | ⟨acc2, a1, a2, h1, h2⟩
      · exact ⟨a, h.symm⟩
      · injection h1 with h3 h4
        subst h3
        exact ⟨a2, h2⟩
    rw [prd] at h ⊢
    rw [← hA.is rc]
    split at h
    · rename_i g; rw [if_pos g]; exact lay_alk' hA.next h rfl
    · rename_i g; rw [if_neg g]; exact go_alk h (fun u => prd_alk n _ _ _ _ _ u (.inl rfl) hA) (fun p s t w hA h => prd_alk n _ _ _ _ _ _ (.inr ⟨_, a, a', rfl, rfl⟩) hA h)
  | n + 1, .stmt, m', d, s, t, v, hm, hA, h => by
    obtain rfl : _ = m' := by
      rcases hm with h | ⟨_, _, _, h, _⟩
      · exact h
      · cases h
    have blk : ∀ {f f' : List Int → PS → Option Out} {s t : PS} {v : Out}, Alk s t → Out.go (prd n .block d s) f = some v → (∀ p s t w, Alk s t → f p s = some w → Ans2 (f' p t) w) → Ans2 (Out.go (prd n .block d t) f') v := fun hA h hf => go_alk h (fun u => prd_alk n _ _ _ _ _ u (.inl rfl) hA) hf
    rw [prd] at h ⊢
    rw [← stAt_core hA.tok]
    split at h
    · exact name_alk hA.next h fun nm a a' hA h => need_alk hA h fun hA h => ex_alk hA h fun x s t w hA h => need_alk hA h fun hA h => lay_alk' hA h rfl
    · exact name_alk hA.next h fun nm a a' hA h => need_alk hA h fun hA h => ex_alk hA h fun x s t w hA h => need_alk hA h fun hA h => ex_alk hA h fun y s t w hA h => blk hA h fun p s t w hA h => lay_alk' hA h rfl
    · exact need_alk hA.next h fun hA h => lay_alk' hA h (by rfl)
    · exact need_alk hA.next h fun hA h => lay_alk' hA h (by rfl)
    · exact ex_alk hA.next h fun x s t w hA h => need_alk hA h fun hA h => lay_alk' hA h (by rfl)
    · exact ex_alk hA.next h fun x s t w hA h => need_alk hA h fun hA h => lay_alk' hA h (by rfl)
    · exact ex_alk hA.next h fun x s t w hA h => blk hA h fun p s t w hA h => lay_alk' hA h (by rfl)
    · refine ex_alk hA.next h fun x s1 t1 w hA1 h => blk hA1 h fun p s2 t2 w hA2 h => ?_
      rw [← hA2.is wElse]
      split at h
      · rename_i g; rw [if_pos g]; exact blk hA2.next h fun p s t w hA h => lay_alk' hA h (by rfl)
      · rename_i g; rw [if_neg g]; exact lay_alk' hA2 h (by rfl)
    · refine name_alk hA h fun nm a a' hA1 h => ?_
      rw [← hA1.is lp, ← hA1.is lb]
      split at h
      · rename_i g; rw [if_pos g]; exact go_alk h (fun u => rd_alk n _ _ _ _ _ u (.inr ⟨_, a, a', rfl, rfl⟩) hA1) (fun p s t w hA h => need_alk hA h fun hA h => lay_alk' hA h rfl)
      · rename_i g
        rw [if_neg g]
        split at h
        · rename_i g2; rw [if_pos g2]; exact go_alk h (fun u => rd_alk n _ _ _ _ _ u (.inl rfl) hA1) (fun p s t w hA h => need_alk hA h fun hA h => ex_alk hA h fun x s t w hA h => need_alk hA h fun hA h => lay_alk' hA h (by rfl))
        · rename_i g2; rw [if_neg g2]; exact need_alk hA1 h fun hA h => ex_alk hA h fun x s t w hA h => need_alk hA h fun hA h => lay_alk' hA h rfl
  | n + 1, .params acc, m', d, s, t, v, hm, hA, h => by
    obtain rfl : _ = m' := by
      rcases hm with h | ⟨_, _, _, h, _⟩
      · exact h
      · cases h
    rw [prd] at h ⊢
    refine name_alk hA h fun nm a a' hA1 h => ?_
    split at h
    · rename_i g; rw [if_pos g]; exact err_alk h
    · rename_i g
      rw [if_neg g]
      refine kind_alk hA1 h fun k hA2 h => go_alk h (fun u hu => lay_alk' hA2 hu rfl) (fun p s t w hA h => ?_)
      rw [← hA.is comma]
      split at h
      · rename_i g3; rw [if_pos g3]; exact prd_alk n _ _ _ _ _ _ (.inl rfl) hA.next h
      · rename_i g3; rw [if_neg g3]; exact need_alk hA h fun hA h => ok_alk hA h
  | n + 1, .func, m', d, s, t, v, hm, hA, h => by
    obtain rfl : _ = m' := by
      rcases hm with h | ⟨_, _, _, h, _⟩
      · exact h
      · cases h
    rw [prd] at h ⊢
    refine name_alk hA h fun nm a a' hA1 h => need_alk hA1 h fun hA2 h => go_alk h (fun u hu => ?_) (fun p s t w hA h => kind_alk hA h fun k hA h => go_alk h (fun u => prd_alk n _ _ _ _ _ u (.inl rfl) hA) (fun p s t w hA h => lay_alk' hA h rfl))
    rw [← hA2.is rp]
    split at hu
    · rename_i g; rw [if_pos g]; exact ok_alk hA2.next hu
    · rename_i g; rw [if_neg g]; exact prd_alk n _ _ _ _ _ _ (.inl rfl) hA2 hu
  | n + 1, .prog acc, m', d, s, t, v, hm, hA, h => by
    obtain rfl : _ = m' := by
      rcases hm with h | ⟨_, _, _, h, _⟩
      · exact h
      · cases h
    rw [prd] at h ⊢
    rw [← hA.kind]
    split at h
    · rename_i g; rw [if_pos g]; exact lay_alk' hA h rfl
    · rename_i g
      rw [if_neg g]
      refine need_alk hA h fun hA1 h => ?_
      split at h
      · rename_i g2; rw [if_pos g2]; exact err_alk h
      · rename_i g2; rw [if_neg g2]; exact go_alk h (fun u => prd_alk n _ _ _ _ _ u (.inl rfl) hA1) (fun p s t w hA h => prd_alk n _ _ _ _ _ _ (.inl rfl) hA h)
/-- what is read of tokens that are alike is alike -/
theorem preads_alk {L L' : List Tk} (hL : L.map tcore = L'.map tcore) {v : Out} (h : PReads (.prog []) 0 ⟨L, [], []⟩ v) : ∃ v', PReads (.prog []) 0 ⟨L', [], []⟩ v' ∧ VAl v v' := by
  obtain ⟨n, hn⟩ := h
  obtain ⟨v', h1, h2⟩ := prd_alk n (.prog []) (.prog []) 0 ⟨L, [], []⟩ ⟨L', [], []⟩ v (.inl rfl) ⟨hL, rfl, rfl⟩ hn
  exact ⟨v', ⟨n, h1⟩, h2⟩
end Go.Proofs.YtagacfcpepoaoaaDoor
