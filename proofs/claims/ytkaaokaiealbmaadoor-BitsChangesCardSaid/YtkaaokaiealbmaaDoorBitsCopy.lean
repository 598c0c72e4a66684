/- Appending a whole slice to a new one: the walks through copied and Ints. -/
import Derived.Test.YtkaaokaiealbmaaDoorBitsList
import Derived.Laws.AppendOwnNone
namespace Go.Proofs.YtkaaokaiealbmaaDoor
open Go.RowKit
set_option linter.unusedVariables false

theorem append_types {P : Program} (t t' e e' ty : TypeId) (i : TypeInfo) (ht : P.underlying t = some (.slice e)) (ht' : P.underlying t' = some (.slice e')) (hi : P.info? e = some i) (b : Option Addr) (l c : Nat) (x : Value) (w : World) :
    (Builtin.append_ #[t, t'] ty #[.slice b l c, x]).run P w = (Builtin.append_ #[t, t] ty #[.slice b l c, x]).run P w := by
  simp [Builtin.append_, run_underlying ht, run_underlying ht', sizeOf, typeInfo, hi]
theorem own_shape {w : World} {base n : Nat} {e : TypeId} {v : Value} {xs : List Value} (h : w.ownsRow base e 1 v n xs) : ∃ b l c, v = .slice b l c := by
  rcases h.2 with ⟨rfl, _⟩ | ⟨g, cap, cur, rfl, _⟩
  · exact ⟨_, _, _, rfl⟩
  · exact ⟨_, _, _, rfl⟩

/-- the cells that Rows' tells -/
def cellsOf (k : IntKind) (n : Nat) (f : Nat → Int) : List Int := (List.range n).map f
theorem cellsOf_length (k : IntKind) (n : Nat) (f : Nat → Int) : (cellsOf k n f).length = n := by simp [cellsOf]
theorem cellsOf_get {k : IntKind} {n j : Nat} {f : Nat → Int} (h : j < n) : (cellsOf k n f).getD j 0 = f j := by
  simp [cellsOf, List.getD_eq_getElem?_getD, h]

/-- what append(Set{}, x...) makes of a slice x of n numbers -/
theorem wpList_whole {ops : Array Oper} {rest : List Oper} {o : Oper} {a : Act} {Q : Exit → Act → World → Prop} (hgd : o.guard = none) (s x : Operand) (t t' e : TypeId) (k : IntKind)
    (ht : Tryd.prog.underlying t = some (.slice e)) (ht' : Tryd.prog.underlying t' = some (.slice e)) (hinfo : (Tryd.prog.info? e).map (fun i => (i.zero, i.size, i.bytes)) = some (some (.int k 0), 1, 8))
    (ho : o.op = .call { callee := .builtin .append, args := #[s, x], argTypes := #[t, t'] })
    (w0 w : World) (v : Value) (m : Nat) (xs : List Int) (ad : Option Addr) (n c : Nat) (f : Nat → Int) (hs : a.eval s = v) (hx : a.eval x = .slice ad n c)
    (hown : w.ownsRow w0.heap.size e 1 v m (xs.map (Value.int k))) (hbel : Below w0.heap.size w0 w) (hr : Rows' k w ad n f) (hc : ad = none → n = 0 ∧ c = 0) (hn : n ≤ 1000000) (hm : m ≤ 1000000) (hv : v ≠ .slice none 0 0)
    (h : ∀ v' w', w'.ownsRow w0.heap.size e 1 v' (m + n) ((xs ++ cellsOf k n f).map (Value.int k)) → Below w0.heap.size w0 w' → v' ≠ .slice none 0 0 → wpList Tryd.prog ops Q rest (a.put o.dst v') w') :
    wpList Tryd.prog ops Q (o :: rest) a w := by
  obtain ⟨i0, hi, hz0, hz1, hz2⟩ := info_parts hinfo
  have key : ∃ v' w', (Builtin.append_ #[t, t'] o.type #[v, .slice ad n c]).run Tryd.prog w = .ok v' w' ∧ w'.ownsRow w0.heap.size e 1 v' (m + n) ((xs ++ cellsOf k n f).map (Value.int k)) ∧ Below w0.heap.size w0 w' ∧ v' ≠ .slice none 0 0 := by
    have hshape : (Builtin.append_ #[t, t'] o.type #[v, .slice ad n c]).run Tryd.prog w = (Builtin.append_ #[t, t] o.type #[v, .slice ad n c]).run Tryd.prog w := by
      obtain ⟨b, l, c', rfl⟩ := own_shape hown
      exact append_types t t' e e o.type i0 ht ht' hi b l c' _ w
    rw [hshape]
    cases ad with
    | none =>
      obtain ⟨rfl, rfl⟩ := hc rfl
      refine ⟨v, w, run_append_owned_none (P := Tryd.prog) w w0.heap.size t o.type e i0 1 ht hi v m _ hown, ?_, hbel, hv⟩
      simpa [cellsOf] using hown
    | some ad =>
      have hcells : ∀ j u, ((cellsOf k n f).map (Value.int k))[j]? = some u → w.cell? (ad.add j) = some u := by
        intro j u hj
        rw [List.getElem?_map] at hj
        rcases Nat.lt_or_ge j n with hjn | hjn
        · obtain ⟨b, off, hab, hlt, hcell⟩ := hr (by omega)
          cases hab
          have hg := cellsOf_get (k := k) (f := f) hjn
          rw [List.getD_eq_getElem?_getD, List.getElem?_eq_getElem (by rw [cellsOf_length]; exact hjn)] at hg
          rw [List.getElem?_eq_getElem (by rw [cellsOf_length]; exact hjn)] at hj
          simp at hj hg
          subst hj
          rw [hg]
          have hcj := hcell j hjn
          simp only [Addr.add]
          split
          · rename_i h0; rw [h0, Nat.add_zero] at hcj; rw [h0]; exact hcj
          · exact hcj
        · rw [List.getElem?_eq_none (by rw [cellsOf_length]; exact hjn)] at hj
          cases hj
      obtain ⟨v', w', hr1, h2, h3, h4⟩ := run_append_own (P := Tryd.prog) w w0.heap.size t o.type e i0 (.int k 0) 1 8 ht hi hz0 hz1 hz2 rfl (by decide) v m _ hown ad n c ((cellsOf k n f).map (Value.int k))
        (by rw [List.length_map, cellsOf_length, Nat.mul_one]) hcells (ints_oneCell _ _) (by unfold maxLen; omega) (by omega) hbel.size
      refine ⟨v', w', hr1, by rw [List.map_append]; exact h2, ?_, fun e => hv (h4.1 e).1⟩
      exact hbel.grown h3 hbel.size (fun j hj => (hown.lt j hj).1)
  obtain ⟨v', w', hrun, h2, h3, h4⟩ := key
  refine wpList_plain hgd fun K hK => ?_
  unfold Oper.wp
  simp [execOp, ho, resolve, invoke, builtin, hs, hx, hrun, Result.andThen]
  exact hK _ _ (h v' w' h2 h3 h4)

theorem own_start (w : World) (t : TypeId) : (w.alloc (.cells #[] t)).ownsRow w.heap.size t 1 (.slice (some ⟨w.heap.size, 0, none⟩) 0 0) 0 [] :=
  ⟨rfl, .inr ⟨w.heap.size, 0, #[], rfl, Nat.le_refl _, by show (w.heap.push _)[_]? = _; simp, Nat.le_refl _, by unfold maxLen; omega, rfl, rfl⟩⟩
theorem below_start (w : World) (o : Obj) : Below w.heap.size w (w.alloc o) := (Below.refl _ _).alloc (Nat.le_refl _) _

theorem copied_any (ad : Option Addr) (n c : Nat) (f : Nat → Int) (w : World) (hn : n ≤ 100000) (hc : ad = none → n = 0 ∧ c = 0) (hr : Rows' .u64 w ad n f) :
    Calls Tryd.prog 13 #[.slice ad n c] w fun e w' => ∃ g cap, e = .returned (.slice (some ⟨g, 0, none⟩) n cap) ∧ w.heap.size ≤ g ∧ Mine .u64 48 w' g n f ∧ Below w.heap.size w w' := by
  have HR := hidden hr
  have HC := hidden hc
  clear hr hc
  go_enter Tryd.func13, Tryd.ntmps13
  go_wp2_with (at_builtin; refine wpList_whole rfl (.tmp 3) (.tmp 4) 26 23 48 .u64 Tryd.underlying26 Tryd.underlying23 info64 rfl w _ _ 0 [] ad n c f rfl rfl (own_start w _) (below_start w _) (HR.out.below (below_start w _)) HC.out (by omega) (by omega) (fun h => by cases h) ?_; intro v1 w1 hown1 hbel1 hv1)
  have HO := hidden hown1
  have HB := hidden hbel1
  have HV := hidden hv1
  clear hown1 hbel1 hv1
  go_wp2_with fail
  go_ret
  have h1 := HO.out
  rw [Nat.zero_add, List.nil_append] at h1
  obtain ⟨g, cap, rfl, hg, _, hm⟩ := Mine.own h1 f (fun j hj => (cellsOf_get hj).symm) HV.out
  exact ⟨g, cap, rfl, hg, hm, HB.out⟩

end Go.Proofs.YtkaaokaiealbmaaDoor
