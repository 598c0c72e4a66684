/- Nodes that are moved, and nodes that are built by append. -/
import Derived.Test.YtihcepkdihmjoaaDoorTreeSame3
namespace Go.Proofs.YtihcepkdihmjoaaDoor
open Go.RowKit
set_option linter.unusedVariables false

/-- a node, moved -/
def mv (by_ : Int) (x : Nd) : Nd := ⟨x.kind, x.ka, x.kc, x.kids, x.n, x.s, if 0 ≤ x.at_ ∧ x.at_ < 1000 then x.at_ + by_ else x.at_⟩
theorem mv_sm (by_ : Int) (x : Nd) : Sm x (mv by_ x) := ⟨rfl, rfl, rfl, rfl⟩
theorem mv_at {by_ : Int} (h : 0 ≤ by_) (x : Nd) : 0 ≤ x.at_ ↔ 0 ≤ (mv by_ x).at_ := by
  show _ ↔ 0 ≤ if 0 ≤ x.at_ ∧ x.at_ < 1000 then x.at_ + by_ else x.at_
  split <;> omega
theorem nd_map {l : List Nd} {f : Nd → Nd} {j : Nat} (hj : j < l.length) : nd (l.map f) j = f (nd l j) := by
  rw [nd_of hj, nd_of (by simpa using hj), List.getElem_map]
theorem mv_al (by_ : Int) (l : List Nd) : Al l (l.map (mv by_)) := ⟨by simp, fun j hj => by rw [nd_map hj]; exact mv_sm by_ _⟩
theorem mv_rt {by_ : Int} (h : 0 ≤ by_) (l : List Nd) : ∀ i, 0 ≤ (nd l i).at_ ↔ 0 ≤ (nd (l.map (mv by_)) i).at_ := by
  intro i
  by_cases hi : i < l.length
  · rw [nd_map hi]; exact mv_at h _
  · rw [nd_out hi, nd_out (by simpa using hi)]
/-- the cells of nodes -/
def ndCells (L : List Nd) : List Value := L.flatMap (fun x => x.cs.toList)
theorem ndCells_append (L R : List Nd) : ndCells (L ++ R) = ndCells L ++ ndCells R := by unfold ndCells; rw [List.flatMap_append]
theorem ndCells_one (x : Nd) : ndCells [x] = x.cs.toList := by unfold ndCells; simp
theorem cs_length (x : Nd) : x.cs.toList.length = 5 := rfl
theorem ndCells_length : ∀ L : List Nd, (ndCells L).length = L.length * 5
  | [] => rfl
  | x :: r => by
    have ih := ndCells_length r
    unfold ndCells at ih ⊢
    rw [List.flatMap_cons, List.length_append, ih, cs_length, List.length_cons]
    omega
theorem ndCells_get : ∀ (L : List Nd) (j k : Nat), j < L.length → k < 5 → (ndCells L)[j * 5 + k]? = (nd L j).cs.toList[k]?
  | [], j, k, h, _ => by simp at h
  | x :: r, 0, k, _, hk => by
    unfold ndCells
    rw [List.flatMap_cons, Nat.zero_mul, Nat.zero_add, List.getElem?_append_left (by rw [cs_length]; exact hk)]
    rfl
  | x :: r, j + 1, k, h, hk => by
    have ih := ndCells_get r j k (by simpa using h) hk
    unfold ndCells at ih ⊢
    rw [List.flatMap_cons, List.getElem?_append_right (by rw [cs_length]; omega), cs_length, show (j + 1) * 5 + k - 5 = j * 5 + k by omega, ih]
    rfl
theorem nodes_of_vals {w0 w : World} {v : Value} {n : Nat} {L : List Nd} (h : Vals 36 5 w0 w v n (ndCells L)) (hn : n = L.length) (hok : ∀ j, j < L.length → Ok w (nd L j)) :
    ∃ a cap, v = .slice a n cap ∧ n ≤ cap ∧ Nodes w a L := by
  obtain ⟨a, cap, rfl, hc, hp⟩ := h.shape
  refine ⟨a, cap, rfl, hc, fun h0 => ?_, hok⟩
  obtain ⟨g, rfl, hg, hcell⟩ := hp (by omega)
  refine ⟨g, 0, rfl, hg, fun j hj => ?_⟩
  have hget : ∀ k, k < 5 → ∀ u, (nd L j).cs.toList[k]? = some u → w.cell? ⟨g, 0 + j * 5 + k, none⟩ = some u := by
    intro k hk u hu
    rw [Nat.zero_add]
    exact hcell (j * 5 + k) u ((ndCells_get L j k hj hk).trans hu)
  exact ⟨hget 0 (by omega) _ rfl, hget 1 (by omega) _ rfl, hget 2 (by omega) _ rfl, hget 3 (by omega) _ rfl, hget 4 (by omega) _ rfl⟩
theorem infoN : (Tryd.prog.info? 36).map (fun i => (i.zero, i.size, i.bytes)) = some (some (.agg #[.int .i64 0, .slice none 0 0, .int .i64 0, .string ⟨#[]⟩, .int .i64 0]), 5, 64) := by kernel_rfl
theorem mv_ok {w : World} {x : Nd} {by_ : Int} (h : Ok w x) : Ok w (mv by_ x) := ⟨h.rows, h.cap, h.none, h.len, h.n0, h.n1, h.s⟩
/-- what Text tells -/
def Spk (l : List Nd) (X : List UInt8) : Prop := (Rt l ∧ X = tx l (l.length - 1)) ∨ (¬ Rt l ∧ X = [])
theorem Spk.same {l r : List Nd} {X Y : List UInt8} (h : Al l r) (hR : Rt l ↔ Rt r) (hx : Spk l X) (hy : Spk r Y) : X = Y := by
  rcases hx with ⟨h1, rfl⟩ | ⟨h1, rfl⟩ <;> rcases hy with ⟨h2, rfl⟩ | ⟨h2, rfl⟩
  · rw [h.tx, h.1]
  · exact absurd (hR.1 h1) h2
  · exact absurd (hR.2 h2) h1
  · rfl
theorem Spoken.spk {l : List Nd} {w w' : World} {e : Ending} (h : Spoken l w e w') : ∃ X, e = .returned (txt X) ∧ Spk l X ∧ Below w.heap.size w w' := by
  rcases h.2 with ⟨h1, h2⟩ | ⟨h1, h2⟩
  · exact ⟨_, h2, .inl ⟨h1, rfl⟩, h.1⟩
  · exact ⟨_, h2, .inr ⟨h1, rfl⟩, h.1⟩
theorem take_map_next {l : List Nd} {f : Nd → Nd} {i : Nat} (hi : i < l.length) : (l.take (i + 1)).map f = (l.take i).map f ++ [f (nd l i)] := by
  rw [take_nd hi, List.map_append]; rfl
theorem few_kids {l : List Nd} (h : Few l) : ∀ i, i < l.length → (nd l i).kids.length ≤ 200 := by
  intro i hi
  obtain ⟨r, hr⟩ := allK_prefix l (l.length - (i + 1)) (i + 1) (by omega)
  rw [show i + 1 + (l.length - (i + 1)) = l.length by omega, allK_succ hi] at hr
  have := h.2.1
  rw [hr] at this
  simp only [List.length_append] at this
  omega
end Go.Proofs.YtihcepkdihmjoaaDoor
