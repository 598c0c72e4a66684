/- A block that is known whole (Held), and slices of whatever elements that a call builds by append (Vals). No program. -/
import Derived.Test.YtncbkedfodaabaaGenRow
import Derived.Laws.AppendOwnNone
import Derived.WalkKit
namespace Go.Proofs.Ytncbkedfodaabaa
open Go.RowKit
set_option linter.unusedVariables false

/-- block g holds the cells cs, none of them frozen -/
def Held (w : World) (g : Nat) (t : TypeId) (cs : Array Value) : Prop := w.heap[g]? = some (.cells cs t (0, 0))
theorem Held.lt {w : World} {g : Nat} {t : TypeId} {cs : Array Value} (h : Held w g t cs) : g < w.heap.size := by
  obtain ⟨hlt, _⟩ := Array.getElem?_eq_some_iff.1 h
  exact hlt
theorem Held.cell {w : World} {g : Nat} {t : TypeId} {cs : Array Value} (h : Held w g t cs) (j : Nat) : w.cell? ⟨g, j, none⟩ = cs[j]? := by
  unfold Held at h
  simp [World.cell?, h]
theorem Held.at_ {w : World} {g : Nat} {t : TypeId} {cs : Array Value} (h : Held w g t cs) {j : Nat} {v : Value} (hv : cs[j]? = some v) : w.cell? ⟨g, j, none⟩ = some v := (h.cell j).trans hv
theorem Held.frozen {w : World} {g : Nat} {t : TypeId} {cs : Array Value} (h : Held w g t cs) (j : Nat) : w.frozen? ⟨g, j, none⟩ = false := by
  unfold Held at h
  simp [World.frozen?, h]
theorem Held.block {w w' : World} {g : Nat} {t : TypeId} {cs : Array Value} (h : Held w g t cs) (e : w'.heap[g]? = w.heap[g]?) : Held w' g t cs := e.trans h
theorem Held.below {w w' : World} {g B : Nat} {t : TypeId} {cs : Array Value} (h : Held w g t cs) (hb : Below B w w') (hg : g < B) : Held w' g t cs := h.block (hb.block g hg)
theorem Held.since {w w' : World} {g : Nat} {t : TypeId} {cs : Array Value} (h : Held w g t cs) (hb : Below w.heap.size w w') : Held w' g t cs := h.below hb h.lt
theorem Held.drew {w : World} {g : Nat} {t : TypeId} {cs : Array Value} (h : Held w g t cs) : Held w.drew g t cs := h
theorem Held.drewN {w : World} {g : Nat} {t : TypeId} {cs : Array Value} (h : Held w g t cs) (q : Nat) : Held (w.drewN q) g t cs := h
theorem Held.new (w : World) (t : TypeId) (cs : Array Value) : Held (w.alloc (.cells cs t)) w.heap.size t cs := by
  show (w.heap.push _)[w.heap.size]? = _
  simp
theorem Held.alloc {w : World} {g : Nat} {t : TypeId} {cs : Array Value} (h : Held w g t cs) (o : Obj) : Held (w.alloc o) g t cs := by
  have hlt := h.lt
  show (w.heap.push o)[g]? = _
  rw [Array.getElem?_push, if_neg (by omega)]
  exact h
theorem Held.set {w : World} {g : Nat} {t : TypeId} {cs : Array Value} (h : Held w g t cs) (i : Nat) (v : Value) : Held (w.setCell ⟨g, i, none⟩ v) g t (cs.setIfInBounds i v) := by
  unfold Held at h ⊢
  simp [World.setCell, Array.getElem?_modify, h]
theorem Held.off {w : World} {g g' : Nat} {t : TypeId} {cs : Array Value} (h : Held w g t cs) (hne : g ≠ g') (i : Nat) (v : Value) : Held (w.setCell ⟨g', i, none⟩ v) g t cs :=
  h.block (by simp [World.setCell, Array.getElem?_modify, Ne.symm hne])
/-- v is a slice of n elements of type t, of sz cells each, made since w0: their cells are xs; nothing that was there has turned -/
def Vals (t : TypeId) (sz : Nat) (w0 w : World) (v : Value) (n : Nat) (xs : List Value) : Prop := w.ownsRow w0.heap.size t sz v n xs ∧ Below w0.heap.size w0 w
theorem Vals.below {t : TypeId} {sz n : Nat} {w0 w : World} {v : Value} {xs : List Value} (h : Vals t sz w0 w v n xs) : Below w0.heap.size w0 w := h.2
theorem Vals.drewN {t : TypeId} {sz n : Nat} {w0 w : World} {v : Value} {xs : List Value} (h : Vals t sz w0 w v n xs) (q : Nat) : Vals t sz w0 (w.drewN q) v n xs := ⟨h.1, ⟨h.2.os, h.2.tape, h.2.output, h.2.size, h.2.block⟩⟩
theorem Vals.start (t : TypeId) (sz : Nat) (w : World) (cs : Array Value) (hcs : cs = #[]) : Vals t sz w (w.alloc (.cells cs t)) (.slice (some ⟨w.heap.size, 0, none⟩) 0 0) 0 [] := by
  subst hcs
  exact ⟨⟨by simp, .inr ⟨w.heap.size, 0, #[], rfl, Nat.le_refl _, by show (w.heap.push _)[_]? = _; simp, Nat.le_refl _, by unfold maxLen; omega, by simp, by simp⟩⟩, (Below.refl _ _).alloc (Nat.le_refl _) _⟩
theorem Vals.nil (t : TypeId) (sz : Nat) (w : World) : Vals t sz w w (.slice none 0 0) 0 [] := ⟨⟨by simp, .inl ⟨rfl, rfl⟩⟩, Below.refl _ _⟩
theorem Vals.quiet {t : TypeId} {sz n : Nat} {w0 w w' : World} {v : Value} {xs : List Value} (h : Vals t sz w0 w v n xs) (hb : Below w.heap.size w w') : Vals t sz w0 w' v n xs := by
  refine ⟨⟨h.1.1, ?_⟩, h.2.trans (hb.mono h.2.size)⟩
  rcases h.1.2 with h1 | ⟨g, cap, cur, h1, h2, h3, r⟩
  · exact .inl h1
  · refine .inr ⟨g, cap, cur, h1, h2, ?_, r⟩
    obtain ⟨hlt, _⟩ := Array.getElem?_eq_some_iff.1 h3
    rw [hb.block g hlt]; exact h3
theorem Vals.widen {t : TypeId} {sz n : Nat} {w w1 w2 : World} {v : Value} {xs : List Value} (h : Vals t sz w1 w2 v n xs) (hb : Below w.heap.size w w1) : Vals t sz w w2 v n xs := by
  refine ⟨⟨h.1.1, ?_⟩, hb.trans (h.2.mono hb.size)⟩
  rcases h.1.2 with h1 | ⟨g, cap, cur, h1, h2, r⟩
  · exact .inl h1
  · exact .inr ⟨g, cap, cur, h1, Nat.le_trans hb.size h2, r⟩
/-- .. while blocks that were there ahead of it turn -/
theorem Vals.apart {t : TypeId} {sz n : Nat} {w w1 w2 w3 : World} {v : Value} {xs : List Value} (h : Vals t sz w1 w2 v n xs) (hb : Below w.heap.size w w1) (hk : ∀ k, w1.heap.size ≤ k → w3.heap[k]? = w2.heap[k]?) (h3 : Below w.heap.size w w3) : Vals t sz w w3 v n xs := by
  refine ⟨⟨h.1.1, ?_⟩, h3⟩
  rcases h.1.2 with h1 | ⟨g, cap, cur, h1, h2, h4, r⟩
  · exact .inl h1
  · exact .inr ⟨g, cap, cur, h1, Nat.le_trans hb.size h2, (hk g h2).trans h4, r⟩
/-- what such a slice is: its length, and the cells behind its address -/
theorem Vals.shape {t : TypeId} {sz n : Nat} {w0 w : World} {v : Value} {xs : List Value} (h : Vals t sz w0 w v n xs) :
    ∃ a cap, v = .slice a n cap ∧ n ≤ cap ∧ (0 < n → ∃ g, a = some ⟨g, 0, none⟩ ∧ g < w.heap.size ∧ ∀ j u, xs[j]? = some u → w.cell? ⟨g, j, none⟩ = some u) := by
  rcases h.1.2 with ⟨rfl, rfl⟩ | ⟨g, cap, cur, rfl, h2, h3, h4, h5, h6, h7⟩
  · exact ⟨none, 0, rfl, Nat.le_refl _, fun h => by omega⟩
  · refine ⟨_, cap, rfl, h4, fun _ => ⟨g, rfl, (Array.getElem?_eq_some_iff.1 h3).1, fun j u hj => ?_⟩⟩
    rw [← h7] at hj
    have hj' : j < n * sz := by
      obtain ⟨hl, _⟩ := List.getElem?_eq_some_iff.1 hj
      rw [List.length_take] at hl
      omega
    rw [List.getElem?_take_of_lt hj', Array.getElem?_toList] at hj
    simp [World.cell?, h3, hj]
/-- append of one element whose cells lie in a new block -/
theorem wpList_push_vals {P : Program} {ops : Array Oper} {rest : List Oper} {o : Oper} {a : Act} {Q : Exit → Act → World → Prop} (hgd : o.guard = none) (s x : Operand) (T t : TypeId) (z : Value) (sz bytes : Nat)
    (ht : P.underlying T = some (.slice t)) (hinfo : (P.info? t).map (fun i => (i.zero, i.size, i.bytes)) = some (some z, sz, bytes)) (hzs : z.cells.size = sz) (hsz : 0 < sz) (hby : bytes ≤ 1000)
    (ho : o.op = .call { callee := .builtin .append, args := #[s, x], argTypes := #[T, T] })
    (w0 w : World) (v : Value) (n : Nat) (xs news : List Value) (cs : Array Value) (hs : a.eval s = v) (hx : a.eval x = .slice (some ⟨w.heap.size, 0, none⟩) 1 1) (hb : Vals t sz w0 w v n xs) (hlen : n ≤ 10000000)
    (hcs : cs = news.toArray) (hl : news.length = sz) (h1 : ∀ u ∈ news, u.oneCell' = true)
    (h : ∀ v' w', Vals t sz w0 w' v' (n + 1) (xs ++ news) → wpList P ops Q rest (a.put o.dst v') w') :
    wpList P ops Q (o :: rest) a (w.alloc (.cells cs t)) := by
  obtain ⟨i0, hi, hz0, hz1, hz2⟩ := info_parts hinfo
  refine wpList_append_own _ hgd s x T ho w0.heap.size t i0 z sz bytes ht hi hz0 hz1 hz2 hzs hsz v n xs hs (hb.1.alloc _) ⟨w.heap.size, 0, none⟩ 1 1 news hx (by omega) ?_ h1 ?_ ?_ ?_ ?_
  · intro j u hj
    have hc := (Held.new w t cs).cell j
    have he : (⟨w.heap.size, 0, none⟩ : Addr).add j = ⟨w.heap.size, j, none⟩ := by
      simp only [Addr.add]
      split
      · rename_i h0; rw [h0]
      · rw [Nat.zero_add]
    rw [he, hc, hcs]
    simpa using hj
  · unfold maxLen; omega
  · have : (n + 1) * bytes ≤ 10000001 * 1000 := Nat.mul_le_mul (by omega) hby
    omega
  · have := hb.2.size; simp; omega
  · intro v' w' hown hgrow _
    refine h v' w' ⟨hown, ?_⟩
    refine ((hb.2.alloc hb.2.size _)).grown hgrow (by have := hb.2.size; simp; omega) ?_
    intro k hk
    exact (hb.1.lt k hk).1
/-- the block of such a slice was there -/
theorem Vals.lt {t : TypeId} {sz n : Nat} {w0 w : World} {v : Value} {xs : List Value} (h : Vals t sz w0 w v n xs) (k : Nat) (hk : v.ownBlock = some k) : k < w.heap.size := (h.1.lt k hk).2
/-- append of one element whose cells lie in a new block: all blocks but the slice's own stay -/
theorem wpList_push_kept {P : Program} {ops : Array Oper} {rest : List Oper} {o : Oper} {a : Act} {Q : Exit → Act → World → Prop} (hgd : o.guard = none) (s x : Operand) (T t : TypeId) (z : Value) (sz bytes : Nat)
    (ht : P.underlying T = some (.slice t)) (hinfo : (P.info? t).map (fun i => (i.zero, i.size, i.bytes)) = some (some z, sz, bytes)) (hzs : z.cells.size = sz) (hsz : 0 < sz) (hby : bytes ≤ 1000)
    (ho : o.op = .call { callee := .builtin .append, args := #[s, x], argTypes := #[T, T] })
    (w0 w : World) (v : Value) (n : Nat) (xs news : List Value) (cs : Array Value) (hs : a.eval s = v) (hx : a.eval x = .slice (some ⟨w.heap.size, 0, none⟩) 1 1) (hb : Vals t sz w0 w v n xs) (hlen : n ≤ 10000000)
    (hcs : cs = news.toArray) (hl : news.length = sz) (h1 : ∀ u ∈ news, u.oneCell' = true)
    (h : ∀ v' w', Vals t sz w0 w' v' (n + 1) (xs ++ news) → (∀ k, k < w.heap.size → v.ownBlock ≠ some k → w'.heap[k]? = w.heap[k]?) → wpList P ops Q rest (a.put o.dst v') w') :
    wpList P ops Q (o :: rest) a (w.alloc (.cells cs t)) := by
  obtain ⟨i0, hi, hz0, hz1, hz2⟩ := info_parts hinfo
  refine wpList_append_own _ hgd s x T ho w0.heap.size t i0 z sz bytes ht hi hz0 hz1 hz2 hzs hsz v n xs hs (hb.1.alloc _) ⟨w.heap.size, 0, none⟩ 1 1 news hx (by omega) ?_ h1 ?_ ?_ ?_ ?_
  · intro j u hj
    have hc := (Held.new w t cs).cell j
    have he : (⟨w.heap.size, 0, none⟩ : Addr).add j = ⟨w.heap.size, j, none⟩ := by
      simp only [Addr.add]
      split
      · rename_i h0; rw [h0]
      · rw [Nat.zero_add]
    rw [he, hc, hcs]
    simpa using hj
  · unfold maxLen; omega
  · have : (n + 1) * bytes ≤ 10000001 * 1000 := Nat.mul_le_mul (by omega) hby
    omega
  · have := hb.2.size; simp; omega
  · intro v' w' hown hgrow _
    have hkeep : ∀ k, k < w.heap.size → v.ownBlock ≠ some k → w'.heap[k]? = w.heap[k]? := by
      intro k hk hne
      rw [hgrow.block k (by simp; omega) (fun e => hne e.symm)]
      show (w.heap.push _)[k]? = _
      rw [Array.getElem?_push, if_neg (by omega)]
    refine h v' w' ⟨hown, ?_⟩ hkeep
    refine ((hb.2.alloc hb.2.size _)).grown hgrow (by have := hb.2.size; simp; omega) ?_
    intro k hk
    exact (hb.1.lt k hk).1
end Go.Proofs.Ytncbkedfodaabaa
