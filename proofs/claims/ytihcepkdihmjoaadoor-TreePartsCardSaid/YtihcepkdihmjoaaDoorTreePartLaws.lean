/- What the walk through the reference's Part asks of append, and of what lies in memory. -/
import Derived.Test.YtihcepkdihmjoaaDoorTreePartMem
namespace Go.Proofs.YtihcepkdihmjoaaDoor
open Go.RowKit
set_option linter.unusedVariables false

theorem add_zero_at (g j : Nat) : (⟨g, 0, none⟩ : Addr).add j = ⟨g, j, none⟩ := by
  simp only [Addr.add]
  split
  · rename_i h0; rw [h0]
  · rw [Nat.zero_add]
/-- append of one number to a row of one's own -/
theorem wpList_kid {ops : Array Oper} {rest : List Oper} {o : Oper} {a : Act} {Q : Exit → Act → World → Prop} (hgd : o.guard = none) (s x : Operand)
    (ho : o.op = .call { callee := .builtin .append, args := #[s, x], argTypes := #[25, 25] })
    (B : Nat) (w : World) (v : Value) (xs : List Int) (z : Int) (hs : a.eval s = v) (hx : a.eval x = .slice (some ⟨w.heap.size, 0, none⟩) 1 1) (hb : Now B w v xs) (hB : B ≤ w.heap.size) (hlen : xs.length ≤ 10000000)
    (h : ∀ v' w', Now B w' v' (xs ++ [z]) → (w.alloc (.cells #[.int .i64 z] 3)).grownBy w' v.ownBlock → (∀ k, v'.ownBlock = some k → v.ownBlock = some k ∨ k = (w.alloc (.cells #[.int .i64 z] 3)).heap.size) → wpList Tryd.prog ops Q rest (a.put o.dst v') w') :
    wpList Tryd.prog ops Q (o :: rest) a (w.alloc (.cells #[.int .i64 z] 3)) := by
  refine wpList_append_where hgd s x 25 3 (.int .i64 0) 1 8 Tryd.underlying25 infoI rfl (by decide) (by decide) ho B v xs.length (xs.map (Value.int .i64)) hs (World.ownsRow.alloc hb _) ⟨w.heap.size, 0, none⟩ 1 1 [.int .i64 z] hx (by decide) rfl ?_ ?_ (by omega) (by simp; omega) ?_
  · intro j u hj
    match j, hj with
    | 0, hj => simp at hj; subst hj; simp [Addr.add]
  · intro u hu; simp at hu; subst hu; rfl
  · intro v' w' hown hgrow hw
    exact h v' w' (by unfold Now; rw [List.length_append, List.map_append]; exact hown) hgrow hw
/-- append of one node to a slice of one's own -/
theorem wpList_node {ops : Array Oper} {rest : List Oper} {o : Oper} {a : Act} {Q : Exit → Act → World → Prop} (hgd : o.guard = none) (s x : Operand)
    (ho : o.op = .call { callee := .builtin .append, args := #[s, x], argTypes := #[22, 22] })
    (B : Nat) (w : World) (v : Value) (n : Nat) (xs news : List Value) (cs : Array Value) (hs : a.eval s = v) (hx : a.eval x = .slice (some ⟨w.heap.size, 0, none⟩) 1 1) (hb : w.ownsRow B 36 5 v n xs) (hB : B ≤ w.heap.size) (hlen : n ≤ 10000000)
    (hcs : cs = news.toArray) (hl : news.length = 5) (h1 : ∀ u ∈ news, u.oneCell' = true)
    (h : ∀ v' w', w'.ownsRow B 36 5 v' (n + 1) (xs ++ news) → (w.alloc (.cells cs 36)).grownBy w' v.ownBlock → wpList Tryd.prog ops Q rest (a.put o.dst v') w') :
    wpList Tryd.prog ops Q (o :: rest) a (w.alloc (.cells cs 36)) := by
  refine wpList_append_where hgd s x 22 36 (.agg #[.int .i64 0, .slice none 0 0, .int .i64 0, .string ⟨#[]⟩, .int .i64 0]) 5 64 Tryd.underlying22 infoN rfl (by decide) (by decide) ho B v n xs hs (World.ownsRow.alloc hb _) ⟨w.heap.size, 0, none⟩ 1 1 news hx (by decide) (by omega) ?_ h1 (by omega) (by simp; omega) ?_
  · intro j u hj
    rw [add_zero_at, (Held.new w 36 cs).cell j, hcs]
    simpa using hj
  · intro v' w' hown hgrow _
    exact h v' w' hown hgrow
theorem one_cells (L : List Nd) : ∀ u ∈ ndCells L, u.oneCell' = true := by
  intro u hu
  obtain ⟨x, _, hx⟩ := List.mem_flatMap.1 hu
  have : u ∈ [Value.int .i64 x.kind, .slice x.ka x.kids.length x.kc, .int .i64 x.n, .string x.s, .int .i64 x.at_] := hx
  simp at this
  rcases this with rfl | rfl | rfl | rfl | rfl <;> rfl
/-- append of all nodes of another slice -/
theorem wpList_nodes {ops : Array Oper} {rest : List Oper} {o : Oper} {a : Act} {Q : Exit → Act → World → Prop} (hgd : o.guard = none) (s x : Operand)
    (ho : o.op = .call { callee := .builtin .append, args := #[s, x], argTypes := #[22, 22] })
    (B B' : Nat) (w : World) (v : Value) (n m gp cp : Nat) (xs : List Value) (R : List Nd) (hs : a.eval s = v) (hx : a.eval x = .slice (some ⟨gp, 0, none⟩) m cp) (hb : w.ownsRow B 36 5 v n xs) (hB : B ≤ w.heap.size) (hm : m = R.length) (hm0 : 0 < m) (hlen : n + m ≤ 10000000)
    (hp : w.ownsRow B' 36 5 (.slice (some ⟨gp, 0, none⟩) m cp) m (ndCells R))
    (h : ∀ v' w', w'.ownsRow B 36 5 v' (n + m) (xs ++ ndCells R) → w.grownBy w' v.ownBlock → (∀ k, v'.ownBlock = some k → v.ownBlock = some k ∨ k = w.heap.size) → wpList Tryd.prog ops Q rest (a.put o.dst v') w') :
    wpList Tryd.prog ops Q (o :: rest) a w :=
  wpList_append_where hgd s x 22 36 (.agg #[.int .i64 0, .slice none 0 0, .int .i64 0, .string ⟨#[]⟩, .int .i64 0]) 5 64 Tryd.underlying22 infoN rfl (by decide) (by decide) ho B v n xs hs hb ⟨gp, 0, none⟩ m cp (ndCells R) hx hm0 (by rw [ndCells_length, hm]) (hp.cells rfl) (one_cells R) (by omega) hB h
theorem own_shape5 {w : World} {B e sz n : Nat} {v : Value} {xs : List Value} (h : w.ownsRow B e sz v n xs) : ∃ a c, v = .slice a n c := by
  rcases h.2 with ⟨rfl, rfl⟩ | ⟨g, cap, cur, rfl, _⟩
  · exact ⟨_, _, rfl⟩
  · exact ⟨_, _, rfl⟩
theorem own_some {w : World} {B e sz n : Nat} {v : Value} {xs : List Value} (h : w.ownsRow B e sz v n xs) (hn : 0 < n) : ∃ g c, v = .slice (some ⟨g, 0, none⟩) n c ∧ B ≤ g := by
  rcases h.2 with ⟨rfl, rfl⟩ | ⟨g, cap, cur, rfl, hb, _⟩
  · omega
  · exact ⟨_, _, rfl, hb⟩
/-- the node at j, where p is moved so far -/
theorem own_at {w : World} {B gp j n cp : Nat} {L Q : List Nd} (h : w.ownsRow B 36 5 (.slice (some ⟨gp, 0, none⟩) n cp) n (ndCells (Q ++ L.drop j))) (hq : Q.length = j) (hj : j < L.length) : Cells5 w gp (j * 5) (nd L j) := by
  have hlen : j < (Q ++ L.drop j).length := by rw [List.length_append, List.length_drop]; omega
  have hnd : nd (Q ++ L.drop j) j = nd L j := by
    rw [nd_right (by omega), hq, Nat.sub_self, drop_nd hj]; rfl
  have hget : ∀ k, k < 5 → ∀ u, (nd L j).cs.toList[k]? = some u → w.cell? ⟨gp, j * 5 + k, none⟩ = some u := by
    intro k hk u hu
    have h1 := h.cells (g := gp) rfl (j * 5 + k) u (by rw [ndCells_get _ j k hlen hk, hnd]; exact hu)
    rw [add_zero_at] at h1
    exact h1
  exact ⟨hget 0 (by omega) _ rfl, hget 1 (by omega) _ rfl, hget 2 (by omega) _ rfl, hget 3 (by omega) _ rfl, hget 4 (by omega) _ rfl⟩
theorem own_frozen {w : World} {B gp n cp e sz : Nat} {xs : List Value} (h : w.ownsRow B e sz (.slice (some ⟨gp, 0, none⟩) n cp) n xs) (i : Nat) : w.frozen? ⟨gp, i, none⟩ = false := by
  rcases h.2 with ⟨h1, _⟩ | ⟨g, cap, cur, h1, _, h3, _⟩
  · cases h1
  · injection h1 with h1 _ _
    injection h1 with h1
    injection h1 with h1 _
    subst h1
    exact (show Held w gp e cur from h3).frozen i
theorem now_rows {B : Nat} {w : World} {y : Nd} (h : Now B w (kv y) y.kids) : Rows' .i64 w y.ka y.kids.length (fun j => y.kids.getD j 0) := by
  obtain ⟨a, cap, e, hr, _⟩ := h.shape
  unfold kv at e
  injection e with e1 e2 e3
  rw [e1]
  exact hr
theorem now_ok {B : Nat} {w : World} {y : Nd} (h : Now B w (kv y) y.kids) (hl : y.kids.length ≤ 140737488351232) (h0 : -9223372036854775808 ≤ y.n) (h1 : y.n ≤ 9223372036854775807) (hs : y.s.size ≤ 140737488351232) : Ok w y := by
  refine ⟨now_rows h, ?_, ?_, hl, h0, h1, hs⟩
  · rcases h.2 with ⟨e, e2⟩ | ⟨g, cap, cur, e, _, _, hc, _⟩
    · omega
    · unfold kv at e
      injection e with _ _ e3
      omega
  · intro hn
    rcases h.2 with ⟨e, e2⟩ | ⟨g, cap, cur, e, _⟩
    · unfold kv at e
      injection e with _ _ e3
    · unfold kv at e
      rw [hn] at e
      injection e with e1
      cases e1
theorem kids_le {l : List Nd} (h : IsT l) {i : Nat} (hi : i < l.length) : (nd l i).kids.length ≤ l.length := by
  obtain ⟨r, hr⟩ := allK_prefix l (l.length - (i + 1)) (i + 1) (by omega)
  rw [show i + 1 + (l.length - (i + 1)) = l.length by omega, allK_succ hi] at hr
  have := h.2.2.2
  rw [hr] at this
  simp only [List.length_append] at this
  omega
theorem sum_take_le (f : Int → Nat) : ∀ (k : Nat) (xs : List Int), ((xs.take k).map f).sum ≤ (xs.map f).sum
  | 0, _ => by simp
  | k + 1, [] => by simp
  | k + 1, x :: r => by
    have := sum_take_le f k r
    simp only [List.take_succ_cons, List.map_cons, List.sum_cons]
    omega
theorem Glue.le {l : List Nd} {i k : Nat} {O : List Nd} {rs : List Int} (h : Glue l i k O rs) (hT : IsT l) (hi : i < l.length) : O.length + 1 ≤ l.length := by
  have h1 := sum_take_le (fun q => sz l q.toNat) k (nd l i).kids
  have h2 := sz_eq hT.2.1 hi
  have h3 := sz_le hT hi
  rw [h.size]
  omega
theorem Glue.rlen {l : List Nd} {i k : Nat} {O : List Nd} {rs : List Int} (h : Glue l i k O rs) (hk : k ≤ (nd l i).kids.length) : rs.length = k := by
  obtain ⟨f, _, hr⟩ := h.emb
  have := congrArg List.length hr
  simp at this
  omega
end Go.Proofs.YtihcepkdihmjoaaDoor
