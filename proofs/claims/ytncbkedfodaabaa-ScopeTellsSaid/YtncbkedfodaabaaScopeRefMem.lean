/- The reference's Declare: what lies where while it makes the longer lists. -/
import Derived.Test.YtncbkedfodaabaaScopeRefClose
namespace Go.Proofs.Ytncbkedfodaabaa
open Go.RowKit
set_option linter.unusedVariables false

/-- append(T{}, x...): a copy -/
theorem wpList_copy {P : Program} {ops : Array Oper} {rest : List Oper} {o : Oper} {a : Act} {Q : Exit → Act → World → Prop} (hgd : o.guard = none) (s x : Operand) (T e : TypeId) (z : Value) (sz bytes : Nat)
    (ht : P.underlying T = some (.slice e)) (hinfo : (P.info? e).map (fun i => (i.zero, i.size, i.bytes)) = some (some z, sz, bytes)) (hzs : z.cells.size = sz) (hsz : 0 < sz) (hby : bytes ≤ 1000)
    (ho : o.op = .call { callee := .builtin .append, args := #[s, x], argTypes := #[T, T] })
    (w : World) (ax : Option Addr) (n c : Nat) (xs : List Value) (N : Nat → Prop) (hs : a.eval s = .slice (some ⟨w.heap.size, 0, none⟩) 0 0) (hx : a.eval x = .slice ax n c) (hr : RdC w N ax xs) (hl : xs.length = n * sz) (hnil : ax = none → c = 0) (h1 : ∀ u ∈ xs, u.oneCell' = true) (hn : n ≤ 1000000)
    (h : ∀ av cv w', w'.ownsRow w.heap.size e sz (.slice av n cv) n xs → Below w.heap.size w w' → wpList P ops Q rest (a.put o.dst (.slice av n cv)) w') :
    wpList P ops Q (o :: rest) a (w.alloc (.cells #[] e)) := by
  obtain ⟨i0, hi, hz0, hz1, hz2⟩ := info_parts hinfo
  have hst : (w.alloc (.cells #[] e)).ownsRow w.heap.size e sz (.slice (some ⟨w.heap.size, 0, none⟩) 0 0) 0 [] := World.ownsRow_made w #[] 0 (Nat.le_refl _) (Nat.zero_le _) (by simp)
  have hbel : Below w.heap.size w (w.alloc (.cells #[] e)) := (Below.refl _ _).alloc (Nat.le_refl _) _
  have hbn : n * bytes ≤ 1000000 * 1000 := Nat.mul_le_mul hn hby
  cases ax with
  | none =>
    have hn0 : n = 0 := by
      rcases Nat.eq_zero_or_pos n with h0 | h0
      · exact h0
      · have hp : 0 < xs.length := by rw [hl]; exact Nat.mul_pos h0 hsz
        obtain ⟨g, hg, _⟩ := hr hp
        cases hg
    have hc0 := hnil rfl
    subst hn0 hc0
    have hx0 : xs = [] := List.eq_nil_of_length_eq_zero (by rw [hl, Nat.zero_mul])
    subst hx0
    subst hz1
    exact wpList_append_own_none hgd s x T ho w.heap.size e i0 i0.size ht hi _ 0 [] hs hst hx (h _ _ _ hst hbel)
  | some ad =>
    refine wpList_append_own _ hgd s x T ho w.heap.size e i0 z sz bytes ht hi hz0 hz1 hz2 hzs hsz _ 0 [] hs hst ad n c xs hx hl ?_ h1 (by unfold maxLen; omega) (by rw [Nat.zero_add]; omega) (by simp) ?_
    · intro j u hj
      obtain ⟨g, hg, _, _, hc⟩ := hr (by obtain ⟨hlt, _⟩ := List.getElem?_eq_some_iff.1 hj; omega)
      injection hg with hg
      subst hg
      rw [add_zero_at]
      exact Lib.cell?_alloc_some _ (hc j u hj)
    · intro v' w' h2 h3 h4
      rw [Nat.zero_add, List.nil_append] at h2
      obtain ⟨av, cv, rfl, _⟩ := own_len h2
      exact h av cv w' h2 (hbel.grown h3 (by simp) (by intro k hk; simp [Value.ownBlock] at hk; omega))
/-- append of one element whose cells lie in a block -/
theorem wpList_more' {P : Program} {ops : Array Oper} {rest : List Oper} {o : Oper} {a : Act} {Q : Exit → Act → World → Prop} (hgd : o.guard = none) (s x : Operand) (T e : TypeId) (z : Value) (sz bytes : Nat)
    (ht : P.underlying T = some (.slice e)) (hinfo : (P.info? e).map (fun i => (i.zero, i.size, i.bytes)) = some (some z, sz, bytes)) (hzs : z.cells.size = sz) (hsz : 0 < sz) (hby : bytes ≤ 1000)
    (ho : o.op = .call { callee := .builtin .append, args := #[s, x], argTypes := #[T, T] })
    (w : World) (v : Value) (n : Nat) (xs news : List Value) (g : Nat) (hg : Held w g e news.toArray) (hs : a.eval s = v) (hx : a.eval x = .slice (some ⟨g, 0, none⟩) 1 1) (hown : w.ownsRow 0 e sz v n xs) (hlen : n ≤ 10000000)
    (hl : news.length = sz) (h1 : ∀ u ∈ news, u.oneCell' = true)
    (h : ∀ av cv w', w'.ownsRow 0 e sz (.slice av (n + 1) cv) (n + 1) (xs ++ news) → w.grownBy w' v.ownBlock → (∀ k, (Value.slice av (n + 1) cv).ownBlock = some k → v.ownBlock = some k ∨ w.heap.size ≤ k) → wpList P ops Q rest (a.put o.dst (.slice av (n + 1) cv)) w') :
    wpList P ops Q (o :: rest) a w := by
  refine wpList_append_where hgd s x T e z sz bytes ht hinfo hzs hsz hby ho 0 v n xs hs hown ⟨g, 0, none⟩ 1 1 news hx (by decide) (by omega) ?_ h1 (by omega) (Nat.zero_le _) ?_
  · intro j u hj
    rw [add_zero_at, hg.cell]
    simpa using hj
  · intro v' w' h2 h3 h4
    obtain ⟨av, cv, rfl, _⟩ := own_len h2
    exact h av cv w' h2 h3 fun k hk => (h4 k hk).imp id (fun e => by omega)
/-- two lists of one's own, and two boxes, behind S -/
structure Two (S A0 A1 : Nat) (w0 : World) (c0 c1 : Array Value) (W : World) (vL : Value) (nL : Nat) (xL : List Value) (vK : Value) (nK : Nat) (xK : List Value) : Prop where
  ownL : W.ownsRow 0 42 4 vL nL xL
  ownK : W.ownsRow 0 3 1 vK nK xK
  a0 : Held W A0 29 c0
  a1 : Held W A1 29 c1
  obL : ∀ k, vL.ownBlock = some k → S ≤ k
  obK : ∀ k, vK.ownBlock = some k → S ≤ k
  below : Below S w0 W
  size : S ≤ W.heap.size
theorem Two.alloc {S A0 A1 : Nat} {w0 : World} {c0 c1 : Array Value} {W : World} {vL : Value} {nL : Nat} {xL : List Value} {vK : Value} {nK : Nat} {xK : List Value} (h : Two S A0 A1 w0 c0 c1 W vL nL xL vK nK xK) (o : Obj) : Two S A0 A1 w0 c0 c1 (W.alloc o) vL nL xL vK nK xK :=
  ⟨h.ownL.alloc _, h.ownK.alloc _, h.a0.alloc _, h.a1.alloc _, h.obL, h.obK, h.below.alloc h.size _, Nat.le_trans h.size (by simp)⟩
theorem Two.appL {S A0 A1 : Nat} {w0 : World} {c0 c1 : Array Value} {W W' : World} {vL vL' : Value} {nL nL' : Nat} {xL xL' : List Value} {vK : Value} {nK : Nat} {xK : List Value} (h : Two S A0 A1 w0 c0 c1 W vL nL xL vK nK xK)
    (ho : W'.ownsRow 0 42 4 vL' nL' xL') (hg : W.grownBy W' vL.ownBlock) (hw : ∀ k, vL'.ownBlock = some k → vL.ownBlock = some k ∨ W.heap.size ≤ k) : Two S A0 A1 w0 c0 c1 W' vL' nL' xL' vK nK xK :=
  ⟨ho, h.ownK.kept hg (own_own h.ownK h.ownL (by decide)), h.a0.block (hg.block _ h.a0.lt (fun e => own_ne h.ownL h.a0 (by decide) e.symm)), h.a1.block (hg.block _ h.a1.lt (fun e => own_ne h.ownL h.a1 (by decide) e.symm)),
    fun k hk => (hw k hk).elim (h.obL k) (fun h1 => Nat.le_trans h.size h1), h.obK, h.below.grown hg h.size h.obL, Nat.le_trans h.size hg.size⟩
theorem Two.appK {S A0 A1 : Nat} {w0 : World} {c0 c1 : Array Value} {W W' : World} {vK vK' : Value} {nK nK' : Nat} {xK xK' : List Value} {vL : Value} {nL : Nat} {xL : List Value} (h : Two S A0 A1 w0 c0 c1 W vL nL xL vK nK xK)
    (ho : W'.ownsRow 0 3 1 vK' nK' xK') (hg : W.grownBy W' vK.ownBlock) (hw : ∀ k, vK'.ownBlock = some k → vK.ownBlock = some k ∨ W.heap.size ≤ k) : Two S A0 A1 w0 c0 c1 W' vL nL xL vK' nK' xK' :=
  ⟨h.ownL.kept hg (own_own h.ownL h.ownK (by decide)), ho, h.a0.block (hg.block _ h.a0.lt (fun e => own_ne h.ownK h.a0 (by decide) e.symm)), h.a1.block (hg.block _ h.a1.lt (fun e => own_ne h.ownK h.a1 (by decide) e.symm)),
    h.obL, fun k hk => (hw k hk).elim (h.obK k) (fun h1 => Nat.le_trans h.size h1), h.below.grown hg h.size h.obK, Nat.le_trans h.size hg.size⟩
end Go.Proofs.Ytncbkedfodaabaa
