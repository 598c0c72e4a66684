/- Nodes' cells, and slices of one's own: what the texts on expressions share with those on trees. -/
import Derived.Test.YtnmeijcaaohnpaaDoorGenOwn
import Derived.Test.YtnmeijcaaohnpaaDoorTreeNd
namespace Go.Proofs.YtnmeijcaaohnpaaDoor
open Go.RowKit
set_option linter.unusedVariables false

/-- the cells of nodes -/
def ndCells (L : List Nd) : List Value := L.flatMap (fun x => x.cs.toList)
theorem ndCells_append (L R : List Nd) : ndCells (L ++ R) = ndCells L ++ ndCells R := by unfold ndCells; rw [List.flatMap_append]
theorem ndCells_one (x : Nd) : ndCells [x] = x.cs.toList := by unfold ndCells; simp
theorem cs_length (x : Nd) : x.cs.toList.length = 5 := rfl
theorem ndCells_length : ∀ L : List Nd, (ndCells L).length = L.length * 5
  | [] => rfl
  | x :: r => by
    have ih := ndCells_length r
    unfold ndCells at ih ⊢
    rw [List.flatMap_cons, List.length_append, ih, cs_length, List.length_cons]
    omega
theorem ndCells_get : ∀ (L : List Nd) (j k : Nat), j < L.length → k < 5 → (ndCells L)[j * 5 + k]? = (nd L j).cs.toList[k]?
  | [], j, k, h, _ => by simp at h
  | x :: r, 0, k, _, hk => by
    unfold ndCells
    rw [List.flatMap_cons, Nat.zero_mul, Nat.zero_add, List.getElem?_append_left (by rw [cs_length]; exact hk)]
    rfl
  | x :: r, j + 1, k, h, hk => by
    have ih := ndCells_get r j k (by simpa using h) hk
    unfold ndCells at ih ⊢
    rw [List.flatMap_cons, List.getElem?_append_right (by rw [cs_length]; omega), cs_length, show (j + 1) * 5 + k - 5 = j * 5 + k by omega, ih]
    rfl
theorem infoN : (Tryd.prog.info? 37).map (fun i => (i.zero, i.size, i.bytes)) = some (some (.agg #[.int .i64 0, .slice none 0 0, .int .i64 0, .string ⟨#[]⟩, .int .i64 0]), 5, 64) := by kernel_rfl
theorem add_zero_at (g j : Nat) : (⟨g, 0, none⟩ : Addr).add j = ⟨g, j, none⟩ := by
  simp only [Addr.add]
  split
  · rename_i h0; rw [h0]
  · rw [Nat.zero_add]
/-- append of one number to a row of one's own -/
theorem wpList_kid {ops : Array Oper} {rest : List Oper} {o : Oper} {a : Act} {Q : Exit → Act → World → Prop} (hgd : o.guard = none) (s x : Operand)
    (ho : o.op = .call { callee := .builtin .append, args := #[s, x], argTypes := #[29, 29] })
    (B : Nat) (w : World) (v : Value) (xs : List Int) (z : Int) (hs : a.eval s = v) (hx : a.eval x = .slice (some ⟨w.heap.size, 0, none⟩) 1 1) (hb : Now B w v xs) (hB : B ≤ w.heap.size) (hlen : xs.length ≤ 10000000)
    (h : ∀ v' w', Now B w' v' (xs ++ [z]) → (w.alloc (.cells #[.int .i64 z] 3)).grownBy w' v.ownBlock → (∀ k, v'.ownBlock = some k → v.ownBlock = some k ∨ k = (w.alloc (.cells #[.int .i64 z] 3)).heap.size) → wpList Tryd.prog ops Q rest (a.put o.dst v') w') :
    wpList Tryd.prog ops Q (o :: rest) a (w.alloc (.cells #[.int .i64 z] 3)) := by
  refine wpList_append_where hgd s x 29 3 (.int .i64 0) 1 8 Tryd.underlying29 infoI rfl (by decide) (by decide) ho B v xs.length (xs.map (Value.int .i64)) hs (World.ownsRow.alloc hb _) ⟨w.heap.size, 0, none⟩ 1 1 [.int .i64 z] hx (by decide) rfl ?_ ?_ (by omega) (by simp; omega) ?_
  · intro j u hj
    match j, hj with
    | 0, hj => simp at hj; subst hj; simp [Addr.add]
  · intro u hu; simp at hu; subst hu; rfl
  · intro v' w' hown hgrow hw
    exact h v' w' (by unfold Now; rw [List.length_append, List.map_append]; exact hown) hgrow hw
/-- append of one node to a slice of one's own -/
theorem wpList_node {ops : Array Oper} {rest : List Oper} {o : Oper} {a : Act} {Q : Exit → Act → World → Prop} (hgd : o.guard = none) (s x : Operand)
    (ho : o.op = .call { callee := .builtin .append, args := #[s, x], argTypes := #[32, 32] })
    (B : Nat) (w : World) (v : Value) (n : Nat) (xs news : List Value) (cs : Array Value) (hs : a.eval s = v) (hx : a.eval x = .slice (some ⟨w.heap.size, 0, none⟩) 1 1) (hb : w.ownsRow B 37 5 v n xs) (hB : B ≤ w.heap.size) (hlen : n ≤ 10000000)
    (hcs : cs = news.toArray) (hl : news.length = 5) (h1 : ∀ u ∈ news, u.oneCell' = true)
    (h : ∀ v' w', w'.ownsRow B 37 5 v' (n + 1) (xs ++ news) → (w.alloc (.cells cs 37)).grownBy w' v.ownBlock → wpList Tryd.prog ops Q rest (a.put o.dst v') w') :
    wpList Tryd.prog ops Q (o :: rest) a (w.alloc (.cells cs 37)) := by
  refine wpList_append_where hgd s x 32 37 (.agg #[.int .i64 0, .slice none 0 0, .int .i64 0, .string ⟨#[]⟩, .int .i64 0]) 5 64 Tryd.underlying32 infoN rfl (by decide) (by decide) ho B v n xs hs (World.ownsRow.alloc hb _) ⟨w.heap.size, 0, none⟩ 1 1 news hx (by decide) (by omega) ?_ h1 (by omega) (by simp; omega) ?_
  · intro j u hj
    rw [add_zero_at, (Held.new w 37 cs).cell j, hcs]
    simpa using hj
  · intro v' w' hown hgrow _
    exact h v' w' hown hgrow
theorem one_cells (L : List Nd) : ∀ u ∈ ndCells L, u.oneCell' = true := by
  intro u hu
  obtain ⟨x, _, hx⟩ := List.mem_flatMap.1 hu
  have : u ∈ [Value.int .i64 x.kind, .slice x.ka x.kids.length x.kc, .int .i64 x.n, .string x.s, .int .i64 x.at_] := hx
  simp at this
  rcases this with rfl | rfl | rfl | rfl | rfl <;> rfl
theorem own_shape5 {w : World} {B e sz n : Nat} {v : Value} {xs : List Value} (h : w.ownsRow B e sz v n xs) : ∃ a c, v = .slice a n c := by
  rcases h.2 with ⟨rfl, rfl⟩ | ⟨g, cap, cur, rfl, _⟩
  · exact ⟨_, _, rfl⟩
  · exact ⟨_, _, rfl⟩
theorem own_some {w : World} {B e sz n : Nat} {v : Value} {xs : List Value} (h : w.ownsRow B e sz v n xs) (hn : 0 < n) : ∃ g c, v = .slice (some ⟨g, 0, none⟩) n c ∧ B ≤ g := by
  rcases h.2 with ⟨rfl, rfl⟩ | ⟨g, cap, cur, rfl, hb, _⟩
  · omega
  · exact ⟨_, _, rfl, hb⟩
theorem own_frozen {w : World} {B gp n cp e sz : Nat} {xs : List Value} (h : w.ownsRow B e sz (.slice (some ⟨gp, 0, none⟩) n cp) n xs) (i : Nat) : w.frozen? ⟨gp, i, none⟩ = false := by
  rcases h.2 with ⟨h1, _⟩ | ⟨g, cap, cur, h1, _, h3, _⟩
  · cases h1
  · injection h1 with h1 _ _
    injection h1 with h1
    injection h1 with h1 _
    subst h1
    exact (show Held w gp e cur from h3).frozen i
end Go.Proofs.YtnmeijcaaohnpaaDoor
