/- Scopes in memory: the box, the map of names, a row for each open block, the kinds. Of the program only its table of types. -/
import Derived.Test.YtncbkedfodaabaaScopeSpec
import Derived.Test.YtncbkedfodaabaaScopeMap
import Derived.Test.YtncbkedfodaabaaGenOwn
namespace Go.Proofs.Ytncbkedfodaabaa
open Go.RowKit
set_option linter.unusedVariables false

theorem own_len {w : World} {B e sz n : Nat} {v : Value} {xs : List Value} (h : w.ownsRow B e sz v n xs) : ∃ a cap, v = .slice a n cap ∧ n ≤ cap := by
  rcases h.2 with ⟨rfl, rfl⟩ | ⟨g, cap, cur, rfl, _, _, h4, _⟩
  · exact ⟨none, 0, rfl, Nat.le_refl _⟩
  · exact ⟨_, cap, rfl, h4⟩
theorem own_same {w w' : World} {B e sz n : Nat} {v : Value} {xs : List Value} (h : w.ownsRow B e sz v n xs) (hb : ∀ k, v.ownBlock = some k → w'.heap[k]? = w.heap[k]?) : w'.ownsRow B e sz v n xs := by
  refine ⟨h.1, ?_⟩
  rcases h.2 with h1 | ⟨g, cap, cur, h1, h2, h3, h4⟩
  · exact .inl h1
  · exact .inr ⟨g, cap, cur, h1, h2, (hb g (by rw [h1]; rfl)).trans h3, h4⟩
/-- its block -/
theorem own_block {w : World} {B e sz n g : Nat} {v : Value} {xs : List Value} (h : w.ownsRow B e sz v n xs) (hv : v.ownBlock = some g) : ∃ cur, Held w g e cur := by
  rcases h.2 with ⟨rfl, _⟩ | ⟨g', cap, cur, rfl, h2, h3, _⟩
  · simp [Value.ownBlock] at hv
  · simp [Value.ownBlock] at hv
    subst hv
    exact ⟨cur, h3⟩
/-- its cells -/
theorem own_cell {w : World} {B e n : Nat} {v : Value} {xs : List Value} (h : w.ownsRow B e 1 v n xs) {j : Nat} {u : Value} (hj : xs[j]? = some u) : ∃ g cap, v = .slice (some ⟨g, 0, none⟩) n cap ∧ n ≤ cap ∧ w.cell? ⟨g, j, none⟩ = some u ∧ ∃ cur, Held w g e cur := by
  rcases h.2 with ⟨rfl, rfl⟩ | ⟨g, cap, cur, rfl, h2, h3, h4, h5, h6, h7⟩
  · have := h.1
    obtain ⟨hl, _⟩ := List.getElem?_eq_some_iff.1 hj
    omega
  · refine ⟨g, cap, rfl, h4, ?_, cur, h3⟩
    have hlt : j < n := by
      obtain ⟨hl, _⟩ := List.getElem?_eq_some_iff.1 hj
      have := h.1
      omega
    rw [← h7, List.getElem?_take_of_lt (by omega), Array.getElem?_toList] at hj
    rw [Held.cell (show Held w g e cur from h3)]
    exact hj
/-- the first ones of it -/
theorem own_less {w : World} {B e sz n m g cap : Nat} {xs : List Value} (h : w.ownsRow B e sz (.slice (some ⟨g, 0, none⟩) n cap) n xs) (hm : m ≤ n) : w.ownsRow B e sz (.slice (some ⟨g, 0, none⟩) m cap) m (xs.take (m * sz)) := by
  rcases h.2 with ⟨h1, _⟩ | ⟨g', cap', cur, h1, h2, h3, h4, h5, h6, h7⟩
  · cases h1
  · injection h1 with h1 h8 h9
    injection h1 with h1
    injection h1 with h1
    subst h1 h9
    have hle : m * sz ≤ n * sz := Nat.mul_le_mul_right _ hm
    refine ⟨by rw [List.length_take, h.1]; omega, .inr ⟨g, cap, cur, rfl, h2, h3, by omega, h5, h6, ?_⟩⟩
    rw [← h7, List.take_take, Nat.min_eq_left hle]
theorem own_zero {w : World} {B e sz n : Nat} {v : Value} {xs : List Value} (h : w.ownsRow B e sz v n xs) (hn : n = 0) : xs = [] := by
  have := h.1
  subst hn
  rw [Nat.zero_mul] at this
  exact List.eq_nil_of_length_eq_zero this

/-- append of one element whose cells lie in a new block: where the longer one lies, and what stays -/
theorem wpList_more {P : Program} {ops : Array Oper} {rest : List Oper} {o : Oper} {a : Act} {Q : Exit → Act → World → Prop} (hgd : o.guard = none) (s x : Operand) (T e : TypeId) (z : Value) (sz bytes : Nat)
    (ht : P.underlying T = some (.slice e)) (hinfo : (P.info? e).map (fun i => (i.zero, i.size, i.bytes)) = some (some z, sz, bytes)) (hzs : z.cells.size = sz) (hsz : 0 < sz) (hby : bytes ≤ 1000)
    (ho : o.op = .call { callee := .builtin .append, args := #[s, x], argTypes := #[T, T] })
    (w : World) (v : Value) (n : Nat) (xs news : List Value) (cs : Array Value) (hs : a.eval s = v) (hx : a.eval x = .slice (some ⟨w.heap.size, 0, none⟩) 1 1) (hown : w.ownsRow 0 e sz v n xs) (hlen : n ≤ 10000000)
    (hcs : cs = news.toArray) (hl : news.length = sz) (h1 : ∀ u ∈ news, u.oneCell' = true)
    (h : ∀ av cv w', w'.ownsRow 0 e sz (.slice av (n + 1) cv) (n + 1) (xs ++ news) → w.grownBy w' v.ownBlock → (∀ k, (Value.slice av (n + 1) cv).ownBlock = some k → v.ownBlock = some k ∨ w.heap.size ≤ k) → wpList P ops Q rest (a.put o.dst (.slice av (n + 1) cv)) w') :
    wpList P ops Q (o :: rest) a (w.alloc (.cells cs e)) := by
  refine wpList_append_where hgd s x T e z sz bytes ht hinfo hzs hsz hby ho 0 v n xs hs (World.ownsRow.alloc hown _) ⟨w.heap.size, 0, none⟩ 1 1 news hx (by decide) (by omega) ?_ h1 (by omega) (Nat.zero_le _) ?_
  · intro j u hj
    have hc := (Held.new w e cs).cell j
    have he : (⟨w.heap.size, 0, none⟩ : Addr).add j = ⟨w.heap.size, j, none⟩ := by
      simp only [Addr.add]
      split
      · rename_i h0; rw [h0]
      · rw [Nat.zero_add]
    rw [he, hc, hcs]
    simpa using hj
  · intro v' w' h2 h3 h4
    obtain ⟨av, cv, rfl, _⟩ := own_len h2
    refine h av cv w' h2 ⟨h3.os, h3.tape, h3.output, Nat.le_trans (by simp) h3.size, fun k hk hne => (h3.block k (by simp; omega) hne).trans ?_⟩ fun k hk => ?_
    · show (w.heap.push _)[k]? = _
      rw [Array.getElem?_push, if_neg (by omega)]
    · rcases h4 k hk with h5 | h5
      · exact .inl h5
      · rw [World.size_alloc] at h5
        exact .inr (by omega)
/-- a declaration, and what its name meant further out -/
def dcv (R : List (List Dc)) (d : Dc) : List Value := [.string d.nm, .int .i64 ((Sees R d.nm).1 : Int), .int .i64 ((Sees R d.nm).2.1 : Int), .int .i64 ((Sees R d.nm).2.2 : Int)]
def dcl (R : List (List Dc)) (b : List Dc) : List Value := b.flatMap (dcv R)
theorem dcl_length (R : List (List Dc)) : ∀ b : List Dc, (dcl R b).length = b.length * 4
  | [] => rfl
  | d :: b => by
    have ih := dcl_length R b
    unfold dcl at ih ⊢
    rw [List.flatMap_cons, List.length_append, ih, List.length_cons]
    show 4 + _ = _
    omega
theorem dcl_get (R : List (List Dc)) : ∀ (b : List Dc) (j k : Nat) (d : Dc), b[j]? = some d → k < 4 → (dcl R b)[j * 4 + k]? = (dcv R d)[k]?
  | [], j, k, d, h, _ => by simp at h
  | x :: b, 0, k, d, h, hk => by
    simp at h
    subst h
    unfold dcl
    rw [List.flatMap_cons, List.getElem?_append_left (by show _ < 4; omega), Nat.zero_mul, Nat.zero_add]
  | x :: b, j + 1, k, d, h, hk => by
    have ih := dcl_get R b j k d (by simpa using h) hk
    unfold dcl at ih ⊢
    rw [List.flatMap_cons, List.getElem?_append_right (by show 4 ≤ _; omega)]
    show (List.flatMap (dcv R) b)[(j + 1) * 4 + k - 4]? = _
    rw [show (j + 1) * 4 + k - 4 = j * 4 + k by omega]
    exact ih
theorem dcl_more (R : List (List Dc)) (b : List Dc) (d : Dc) : dcl R (b ++ [d]) = dcl R b ++ dcv R d := by
  unfold dcl
  rw [List.flatMap_append]
  simp
/-- a row for each open block, none in the block of another -/
def Rws (w : World) : List (List Dc) → List Value → Prop
  | [], [] => True
  | b :: R, v :: vs => w.ownsRow 0 58 4 v b.length (dcl R b) ∧ (∀ u ∈ vs, v.ownBlock = none ∨ u.ownBlock ≠ v.ownBlock) ∧ Rws w R vs
  | _, _ => False
theorem Rws.length {w : World} : ∀ {R : List (List Dc)} {vs : List Value}, Rws w R vs → vs.length = R.length
  | [], [], _ => rfl
  | b :: R, v :: vs, h => by simp [Rws.length h.2.2]
  | [], _ :: _, h => h.elim
  | _ :: _, [], h => h.elim
theorem Rws.same {w w' : World} : ∀ {R : List (List Dc)} {vs : List Value}, Rws w R vs → (∀ u ∈ vs, ∀ k, u.ownBlock = some k → w'.heap[k]? = w.heap[k]?) → Rws w' R vs
  | [], [], _, _ => trivial
  | b :: R, v :: vs, h, hb => ⟨own_same h.1 (hb v (by simp)), h.2.1, Rws.same h.2.2 fun u hu => hb u (List.mem_cons_of_mem _ hu)⟩
  | [], _ :: _, h, _ => h.elim
  | _ :: _, [], h, _ => h.elim
theorem Rws.each {w : World} : ∀ {R : List (List Dc)} {vs : List Value}, Rws w R vs → ∀ u ∈ vs, ∃ n xs, w.ownsRow 0 58 4 u n xs
  | b :: R, v :: vs, h, u, hu => by
    rcases List.mem_cons.1 hu with rfl | hu
    · exact ⟨_, _, h.1⟩
    · exact Rws.each h.2.2 u hu
  | [], [], _, u, hu => by cases hu
  | [], _ :: _, h, _, _ => h.elim
  | _ :: _, [], h, _, _ => h.elim
theorem Rws.ne {w : World} {R : List (List Dc)} {vs : List Value} (h : Rws w R vs) {g : Nat} {cs : Array Value} {e : TypeId} {fz : Nat × Nat} (hg : w.heap[g]? = some (.cells cs e fz)) (hne : 58 ≠ e) : ∀ u ∈ vs, u.ownBlock ≠ some g := fun u hu => by
  obtain ⟨n, xs, h1⟩ := h.each u hu
  exact own_ne h1 hg hne
def kcs (ks : List Nat) : List Value := ks.map fun (k : Nat) => Value.int .i64 (k : Int)
def total (R : List (List Dc)) : Nat := (R.map List.length).sum
/-- what lies where -/
structure Lay (w : World) (p : Nat) (F : Nat → Prop) (R : List (List Dc)) (ks : List Nat) (b n : Nat) (vB vK : Value) (vs : List Value) : Prop where
  box : Held w p 52 #[.map (some b), vB, vK]
  map : MapIs w b n (Sees R)
  blocks : w.ownsRow 0 54 1 vB R.length vs.reverse
  kinds : w.ownsRow 0 3 1 vK ks.length (kcs ks)
  rows : Rws w R vs
  fine : Fine R
  room : n + total R ≤ 2 * ks.length
  some_ : R ≠ []
  lt : ∀ k, F k → k < w.heap.size
  fp : F p
  fb : F b
  fB : ∀ k, vB.ownBlock = some k → F k
  fK : ∀ k, vK.ownBlock = some k → F k
  fR : ∀ u ∈ vs, ∀ k, u.ownBlock = some k → F k
def IsS (w : World) (p : Nat) (F : Nat → Prop) (R : List (List Dc)) (ks : List Nat) : Prop := ∃ b n vB vK vs, Lay w p F R ks b n vB vK vs
theorem Lay.same {w w' : World} {p : Nat} {F : Nat → Prop} {R : List (List Dc)} {ks : List Nat} {b n : Nat} {vB vK : Value} {vs : List Value} (h : Lay w p F R ks b n vB vK vs) (hb : ∀ k, F k → w'.heap[k]? = w.heap[k]?) (hs : w.heap.size ≤ w'.heap.size) : Lay w' p F R ks b n vB vK vs :=
  ⟨h.box.block (hb _ h.fp), h.map.block (hb _ h.fb), own_same h.blocks fun k hk => hb k (h.fB k hk), own_same h.kinds fun k hk => hb k (h.fK k hk), h.rows.same fun u hu k hk => hb k (h.fR u hu k hk),
    h.fine, h.room, h.some_, fun k hk => Nat.lt_of_lt_of_le (h.lt k hk) hs, h.fp, h.fb, h.fB, h.fK, h.fR⟩
theorem IsS.same {w w' : World} {p : Nat} {F : Nat → Prop} {R : List (List Dc)} {ks : List Nat} (h : IsS w p F R ks) (hb : ∀ k, F k → w'.heap[k]? = w.heap[k]?) (hs : w.heap.size ≤ w'.heap.size) : IsS w' p F R ks := by
  obtain ⟨b, n, vB, vK, vs, h⟩ := h
  exact ⟨b, n, vB, vK, vs, h.same hb hs⟩
theorem IsS.lt {w : World} {p : Nat} {F : Nat → Prop} {R : List (List Dc)} {ks : List Nat} (h : IsS w p F R ks) : ∀ k, F k → k < w.heap.size := by
  obtain ⟨b, n, vB, vK, vs, h⟩ := h
  exact h.lt
theorem IsS.below {w w' : World} {p : Nat} {F : Nat → Prop} {R : List (List Dc)} {ks : List Nat} (h : IsS w p F R ks) (hb : Below w.heap.size w w') : IsS w' p F R ks :=
  h.same (fun k hk => hb.block k (h.lt k hk)) hb.size
theorem IsS.fine {w : World} {p : Nat} {F : Nat → Prop} {R : List (List Dc)} {ks : List Nat} (h : IsS w p F R ks) : Fine R := by
  obtain ⟨b, n, vB, vK, vs, h⟩ := h
  exact h.fine
theorem IsS.some_ {w : World} {p : Nat} {F : Nat → Prop} {R : List (List Dc)} {ks : List Nat} (h : IsS w p F R ks) : R ≠ [] := by
  obtain ⟨b, n, vB, vK, vs, h⟩ := h
  exact h.some_
/-- nothing but these blocks has turned -/
structure Tn (F : Nat → Prop) (w w' : World) : Prop where
  os : w'.os = w.os
  tape : w'.tape = w.tape
  output : w'.output = w.output
  size : w.heap.size ≤ w'.heap.size
  block : ∀ k, k < w.heap.size → ¬ F k → w'.heap[k]? = w.heap[k]?
theorem Tn.below {F : Nat → Prop} {w w' : World} (h : Below w.heap.size w w') : Tn F w w' := ⟨h.os, h.tape, h.output, h.size, fun k hk _ => h.block k hk⟩
/-- .. and the blocks that they come to be -/
def Grew (F F' : Nat → Prop) (w : World) : Prop := ∀ k, F' k → F k ∨ w.heap.size ≤ k
theorem Grew.refl (F : Nat → Prop) (w : World) : Grew F F w := fun k h => .inl h
theorem Grew.trans {F F' F'' : Nat → Prop} {w w' : World} (h : Grew F F' w) (h' : Grew F' F'' w') (hs : w.heap.size ≤ w'.heap.size) : Grew F F'' w := fun k hk => by
  rcases h' k hk with h1 | h1
  · exact h k h1
  · exact .inr (by omega)
theorem Tn.trans {F F' : Nat → Prop} {w w' w'' : World} (h : Tn F w w') (h' : Tn F' w' w'') (hg : Grew F F' w) : Tn F w w'' := by
  refine ⟨h'.os.trans h.os, h'.tape.trans h.tape, h'.output.trans h.output, Nat.le_trans h.size h'.size, fun k hk hF => (h'.block k (Nat.lt_of_lt_of_le hk h.size) fun h1 => ?_).trans (h.block k hk hF)⟩
  rcases hg k h1 with h2 | h2
  · exact hF h2
  · omega
/-- of what was there when it was made nothing turns -/
theorem Tn.low {F : Nat → Prop} {w w' : World} {B : Nat} (h : Tn F w w') (hF : ∀ k, F k → B ≤ k) (hB : B ≤ w.heap.size) : Below B w w' :=
  ⟨h.os, h.tape, h.output, h.size, fun k hk => h.block k (by omega) fun h1 => by have := hF k h1; omega⟩
end Go.Proofs.Ytncbkedfodaabaa
