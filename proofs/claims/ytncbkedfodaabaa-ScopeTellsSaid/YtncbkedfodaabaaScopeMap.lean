/- The map of the names that are seen: what each name means, as a function. Of the program only its table of types. -/
import Derived.Test.YtncbkedfodaabaaRows
import Derived.Test.YtncbkedfodaabaaGenText
import Derived.Maps.OwnSet
import Derived.WalkKit
namespace Go.Proofs.Ytncbkedfodaabaa
open Go.RowKit
open Go.Maps (Keyed)
set_option linter.unusedVariables false

/-- three numbers, as a value of the map -/
def tv (x : Nat × Nat × Nat) : Value := .agg #[.int .i64 (x.1 : Int), .int .i64 (x.2.1 : Int), .int .i64 (x.2.2 : Int)]
def dv (x : Nat × Nat × Nat) : DataW Unit := .agg [.lit (.int .i64 (x.1 : Int)), .lit (.int .i64 (x.2.1 : Int)), .lit (.int .i64 (x.2.2 : Int))]
def vElem : Value → Option (DataW Unit × List MemPlace)
  | .agg cs => match cs.toList with
    | [.int .i64 a, .int .i64 b, .int .i64 c] => some (.agg [.lit (.int .i64 a), .lit (.int .i64 b), .lit (.int .i64 c)], [])
    | _ => none
  | _ => none
theorem vElem_mk (x : Nat × Nat × Nat) : vElem (tv x) = some (dv x, []) := rfl
theorem vElem_inv {v : Value} {x : Nat × Nat × Nat} {ps : List MemPlace} (h : vElem v = some (dv x, ps)) : v = tv x := by
  unfold vElem at h
  split at h
  · rename_i cs
    split at h
    · rename_i a b c hcs
      injection h with h
      injection h with h1 h2
      unfold dv at h1
      injection h1 with h1
      simp only [List.cons.injEq, DataW.lit.injEq, Lit.int.injEq, true_and, and_true] at h1
      obtain ⟨e1, e2, e3⟩ := h1
      subst e1 e2 e3
      unfold tv
      congr 1
      apply Array.toList_inj.1
      rw [hcs]
    · cases h
  · cases h
theorem lawS : Keyed Try.prog 9 := Maps.string_keyed Try.underlying9
theorem zeroV (w : World) : (zeroValue 56).run Try.prog w = .ok (tv (0, 0, 0)) w := by kernel_rfl
theorem keyS {s : ByteArray} (h : s.size ≤ maxLen) : keyOf Try.prog 9 (.string s) = some (.string s.data.toList) := WideMaps.keyOf_string_mk Try.underlying9 h
/-- block b is a map of at most n entries, in which each name means what g says -/
def MapIs (w : World) (b n : Nat) (g : ByteArray → Nat × Nat × Nat) : Prop :=
  ∃ D, w.ownsMap Try.prog 9 vElem b n D ∧ ∀ s : ByteArray, s.size ≤ maxLen → D.atKey (.string s.data.toList) (dv (0, 0, 0)) = dv (g s)
def upd (g : ByteArray → Nat × Nat × Nat) (s : ByteArray) (x : Nat × Nat × Nat) : ByteArray → Nat × Nat × Nat := fun u => if u = s then x else g u
theorem MapIs.congr {w : World} {b n : Nat} {g g' : ByteArray → Nat × Nat × Nat} (h : MapIs w b n g) (e : ∀ s : ByteArray, s.size ≤ maxLen → g s = g' s) : MapIs w b n g' := by
  obtain ⟨D, h1, h2⟩ := h
  exact ⟨D, h1, fun s hs => by rw [h2 s hs, e s hs]⟩
theorem MapIs.made (w : World) : MapIs (w.alloc (.map #[] 0)) w.heap.size 0 (fun _ => (0, 0, 0)) := ⟨.map [], World.ownsMap_made _ _ _ _, fun s _ => rfl⟩
theorem MapIs.lt {w : World} {b n : Nat} {g : ByteArray → Nat × Nat × Nat} (h : MapIs w b n g) : b < w.heap.size := by obtain ⟨D, h1, _⟩ := h; exact h1.lt
theorem MapIs.kept {w w' : World} {b n : Nat} {g : ByteArray → Nat × Nat × Nat} {row : Option Nat} (h : MapIs w b n g) (hg : w.grownBy w' row) (hne : some b ≠ row) : MapIs w' b n g := by
  obtain ⟨D, h1, h2⟩ := h
  exact ⟨D, h1.kept hg hne, h2⟩
theorem MapIs.block {w w' : World} {b n : Nat} {g : ByteArray → Nat × Nat × Nat} (h : MapIs w b n g) (hb : w'.heap[b]? = w.heap[b]?) : MapIs w' b n g := by
  obtain ⟨D, ⟨es, clock, h0, h1⟩, h2⟩ := h
  exact ⟨D, ⟨es, clock, hb.trans h0, h1⟩, h2⟩
theorem MapIs.mono {w : World} {b n n' : Nat} {g : ByteArray → Nat × Nat × Nat} (h : MapIs w b n g) (hn : n ≤ n') : MapIs w b n' g := by
  obtain ⟨D, h1, h2⟩ := h
  exact ⟨D, h1.mono hn, h2⟩
/-- it is no row of cells -/
theorem MapIs.ne {w : World} {b n k : Nat} {g : ByteArray → Nat × Nat × Nat} {cs : Array Value} {t : TypeId} {fz : Nat × Nat} (h : MapIs w b n g) (hk : w.heap[k]? = some (.cells cs t fz)) : k ≠ b := by
  obtain ⟨D, ⟨es, clock, h0, _⟩, _⟩ := h
  rintro rfl
  rw [h0] at hk
  cases hk
theorem str_ne {s u : ByteArray} (h : u ≠ s) : Lit.string u.data.toList ≠ Lit.string s.data.toList := by
  intro e
  injection e with e
  apply h
  apply ByteArray.ext
  exact Array.toList_inj.1 e
theorem isKey (s : ByteArray) : WideAt.IsKeyLit (.string s.data.toList) := trivial
/-- a look-up -/
theorem MapIs.look {w : World} {b n : Nat} {g : ByteArray → Nat × Nat × Nat} (h : MapIs w b n g) {s : ByteArray} (hs : s.size ≤ maxLen) : (Instr.lookup 49 (.map (some b)) (.string s) false).run Try.prog w = .ok (tv (g s)) w := by
  obtain ⟨D, h1, h2⟩ := h
  obtain ⟨v, ps, hrun, hv⟩ := h1.lookup lawS Try.underlying49 (zeroV w) (vElem_mk (0, 0, 0)) (keyS hs)
  rw [h2 s hs] at hv
  rw [hrun, vElem_inv hv]
theorem look_none (w : World) {s : ByteArray} (hs : s.size ≤ maxLen) : (Instr.lookup 49 (.map none) (.string s) false).run Try.prog w = .ok (tv (0, 0, 0)) w := by
  have := Maps.look_nil (w := w) false lawS Try.underlying49 (zeroV w) (keyS hs)
  simpa using this
/-- a store -/
theorem wpList_put {w : World} {ops : Array Oper} {rest : List Oper} {o : Oper} {a : Act} {Q : Exit → Act → World → Prop} (hg : o.guard = none) (m x v : Operand) (hop : o.op = Op.mapUpdate 49 m x v)
    (b n : Nat) (g : ByteArray → Nat × Nat × Nat) (hm : a.eval m = .map (some b)) (h : MapIs w b n g) (hn : n < maxLen) (s : ByteArray) (hs : s.size ≤ maxLen) (y : Nat × Nat × Nat) (hx : a.eval x = .string s) (hv : a.eval v = tv y)
    (hK : ∀ w', MapIs w' b (n + 1) (upd g s y) → w.grownBy w' (some b) → wpList Try.prog ops Q rest (a.put o.dst undef) w') : wpList Try.prog ops Q (o :: rest) a w := by
  obtain ⟨D, h1, h2⟩ := h
  refine wpList_mapUpdate_own w hg m x v _ hop 9 56 lawS Try.underlying49 vElem b n D hm h1 hn _ _ _ hx hv (keyS hs) (dv y) [] (vElem_mk y) ?_
  intro w' h3 h4
  refine hK w' ⟨_, h3, fun u hu => ?_⟩ h4
  unfold upd
  split
  · rename_i e; subst e
    exact Maps.atKey_put_same h1.isMap (isKey u) _ _
  · rename_i e
    rw [Maps.atKey_put_other (str_ne e), h2 u hu]
/-- a name is struck out -/
theorem wpList_strike {w : World} {ops : Array Oper} {rest : List Oper} {o : Oper} {a : Act} {Q : Exit → Act → World → Prop} (hg : o.guard = none) (m x : Operand) (hop : o.op = Op.call { callee := Callee.builtin Builtin.delete, args := #[m, x], argTypes := #[49, 9] })
    (b n : Nat) (g : ByteArray → Nat × Nat × Nat) (hm : a.eval m = .map (some b)) (h : MapIs w b n g) (s : ByteArray) (hs : s.size ≤ maxLen) (hx : a.eval x = .string s)
    (hK : ∀ w', MapIs w' b n (upd g s (0, 0, 0)) → w.grownBy w' (some b) → wpList Try.prog ops Q rest (a.put o.dst (.tuple #[])) w') : wpList Try.prog ops Q (o :: rest) a w := by
  obtain ⟨D, h1, h2⟩ := h
  refine wpList_delete_own w hg m x _ 9 hop 56 lawS Try.underlying49 vElem b n D hm h1 _ _ hx (keyS hs) ?_
  intro w' h3 h4
  refine hK w' ⟨_, h3, fun u hu => ?_⟩ h4.grown
  unfold upd
  split
  · rename_i e; subst e
    exact Maps.atKey_del_same _
  · rename_i e
    rw [Maps.atKey_del_other (str_ne e), h2 u hu]
end Go.Proofs.Ytncbkedfodaabaa
