/- ExprNd, ExprMem, in one text. -/
import Derived.Test.YtagacfcpepoaoaaGreatDoorMGen
import Derived.Test.YtagacfcpepoaoaaGreatDoorTreeNd
import Derived.Test.YtagacfcpepoaoaaGreatDoorMSpec
namespace Go.Proofs.YtagacfcpepoaoaaGreatDoor
open Go.RowKit
set_option linter.unusedVariables false

/-- the cells of nodes -/
def ndCells (L : List Nd) : List Value := L.flatMap (fun x => x.cs.toList)
theorem ndCells_append (L R : List Nd) : ndCells (L ++ R) = ndCells L ++ ndCells R := by unfold ndCells; rw [List.flatMap_append]
theorem ndCells_one (x : Nd) : ndCells [x] = x.cs.toList := by unfold ndCells; simp
theorem cs_length (x : Nd) : x.cs.toList.length = 5 := rfl
theorem ndCells_length : ∀ L : List Nd, (ndCells L).length = L.length * 5
  | [] => rfl
  | x :: r => by
    have ih := ndCells_length r
    unfold ndCells at ih ⊢
    rw [List.flatMap_cons, List.length_append, ih, cs_length, List.length_cons]
    omega
theorem ndCells_get : ∀ (L : List Nd) (j k : Nat), j < L.length → k < 5 → (ndCells L)[j * 5 + k]? = (nd L j).cs.toList[k]?
  | [], j, k, h, _ => by simp at h
  | x :: r, 0, k, _, hk => by
    unfold ndCells
    rw [List.flatMap_cons, Nat.zero_mul, Nat.zero_add, List.getElem?_append_left (by rw [cs_length]; exact hk)]
    rfl
  | x :: r, j + 1, k, h, hk => by
    have ih := ndCells_get r j k (by simpa using h) hk
    unfold ndCells at ih ⊢
    rw [List.flatMap_cons, List.getElem?_append_right (by rw [cs_length]; omega), cs_length, show (j + 1) * 5 + k - 5 = j * 5 + k by omega, ih]
    rfl
theorem infoN : (Tryz.prog.info? 59).map (fun i => (i.zero, i.size, i.bytes)) = some (some (.agg #[.int .i64 0, .slice none 0 0, .int .i64 0, .string ⟨#[]⟩, .int .i64 0]), 5, 64) := by kernel_rfl
theorem add_zero_at (g j : Nat) : (⟨g, 0, none⟩ : Addr).add j = ⟨g, j, none⟩ := by
  simp only [Addr.add]
  split
  · rename_i h0; rw [h0]
  · rw [Nat.zero_add]
/-- append of one number to a row of one's own -/
theorem wpList_kid {ops : Array Oper} {rest : List Oper} {o : Oper} {a : Act} {Q : Exit → Act → World → Prop} (hgd : o.guard = none) (s x : Operand)
    (ho : o.op = .call { callee := .builtin .append, args := #[s, x], argTypes := #[45, 45] })
    (B : Nat) (w : World) (v : Value) (xs : List Int) (z : Int) (hs : a.eval s = v) (hx : a.eval x = .slice (some ⟨w.heap.size, 0, none⟩) 1 1) (hb : Now B w v xs) (hB : B ≤ w.heap.size) (hlen : xs.length ≤ 10000000)
    (h : ∀ v' w', Now B w' v' (xs ++ [z]) → (w.alloc (.cells #[.int .i64 z] 3)).grownBy w' v.ownBlock → (∀ k, v'.ownBlock = some k → v.ownBlock = some k ∨ k = (w.alloc (.cells #[.int .i64 z] 3)).heap.size) → wpList Tryz.prog ops Q rest (a.put o.dst v') w') :
    wpList Tryz.prog ops Q (o :: rest) a (w.alloc (.cells #[.int .i64 z] 3)) := by
  refine wpList_append_where hgd s x 45 3 (.int .i64 0) 1 8 Tryz.underlying45 infoI rfl (by decide) (by decide) ho B v xs.length (xs.map (Value.int .i64)) hs (World.ownsRow.alloc hb _) ⟨w.heap.size, 0, none⟩ 1 1 [.int .i64 z] hx (by decide) rfl ?_ ?_ (by omega) (by simp; omega) ?_
  · intro j u hj
    match j, hj with
    | 0, hj => simp at hj; subst hj; simp [Addr.add]
  · intro u hu; simp at hu; subst hu; rfl
  · intro v' w' hown hgrow hw
    exact h v' w' (by unfold Now; rw [List.length_append, List.map_append]; exact hown) hgrow hw
/-- append of one node to a slice of one's own -/
theorem wpList_node {ops : Array Oper} {rest : List Oper} {o : Oper} {a : Act} {Q : Exit → Act → World → Prop} (hgd : o.guard = none) (s x : Operand)
    (ho : o.op = .call { callee := .builtin .append, args := #[s, x], argTypes := #[23, 23] })
    (B : Nat) (w : World) (v : Value) (n : Nat) (xs news : List Value) (cs : Array Value) (hs : a.eval s = v) (hx : a.eval x = .slice (some ⟨w.heap.size, 0, none⟩) 1 1) (hb : w.ownsRow B 59 5 v n xs) (hB : B ≤ w.heap.size) (hlen : n ≤ 10000000)
    (hcs : cs = news.toArray) (hl : news.length = 5) (h1 : ∀ u ∈ news, u.oneCell' = true)
    (h : ∀ v' w', w'.ownsRow B 59 5 v' (n + 1) (xs ++ news) → (w.alloc (.cells cs 59)).grownBy w' v.ownBlock → wpList Tryz.prog ops Q rest (a.put o.dst v') w') :
    wpList Tryz.prog ops Q (o :: rest) a (w.alloc (.cells cs 59)) := by
  refine wpList_append_where hgd s x 23 59 (.agg #[.int .i64 0, .slice none 0 0, .int .i64 0, .string ⟨#[]⟩, .int .i64 0]) 5 64 Tryz.underlying23 infoN rfl (by decide) (by decide) ho B v n xs hs (World.ownsRow.alloc hb _) ⟨w.heap.size, 0, none⟩ 1 1 news hx (by decide) (by omega) ?_ h1 (by omega) (by simp; omega) ?_
  · intro j u hj
    rw [add_zero_at, (Held.new w 59 cs).cell j, hcs]
    simpa using hj
  · intro v' w' hown hgrow _
    exact h v' w' hown hgrow
theorem one_cells (L : List Nd) : ∀ u ∈ ndCells L, u.oneCell' = true := by
  intro u hu
  obtain ⟨x, _, hx⟩ := List.mem_flatMap.1 hu
  have : u ∈ [Value.int .i64 x.kind, .slice x.ka x.kids.length x.kc, .int .i64 x.n, .string x.s, .int .i64 x.at_] := hx
  simp at this
  rcases this with rfl | rfl | rfl | rfl | rfl <;> rfl
theorem own_shape5 {w : World} {B e sz n : Nat} {v : Value} {xs : List Value} (h : w.ownsRow B e sz v n xs) : ∃ a c, v = .slice a n c := by
  rcases h.2 with ⟨rfl, rfl⟩ | ⟨g, cap, cur, rfl, _⟩
  · exact ⟨_, _, rfl⟩
  · exact ⟨_, _, rfl⟩
theorem own_some {w : World} {B e sz n : Nat} {v : Value} {xs : List Value} (h : w.ownsRow B e sz v n xs) (hn : 0 < n) : ∃ g c, v = .slice (some ⟨g, 0, none⟩) n c ∧ B ≤ g := by
  rcases h.2 with ⟨rfl, rfl⟩ | ⟨g, cap, cur, rfl, hb, _⟩
  · omega
  · exact ⟨_, _, rfl, hb⟩
theorem own_frozen {w : World} {B gp n cp e sz : Nat} {xs : List Value} (h : w.ownsRow B e sz (.slice (some ⟨gp, 0, none⟩) n cp) n xs) (i : Nat) : w.frozen? ⟨gp, i, none⟩ = false := by
  rcases h.2 with ⟨h1, _⟩ | ⟨g, cap, cur, h1, _, h3, _⟩
  · cases h1
  · injection h1 with h1 _ _
    injection h1 with h1
    injection h1 with h1 _
    subst h1
    exact (show Held w gp e cur from h3).frozen i
end Go.Proofs.YtagacfcpepoaoaaGreatDoor

namespace Go.Proofs.YtagacfcpepoaoaaGreatDoor
open Go.RowKit
set_option linter.unusedVariables false

mutual
/-- the cells of plain data -/
def xflat {H : Type} : DataW H → List Value
  | .lit (.int k z) => [.int k z]
  | .lit (.bool b) => [.bool b]
  | .lit (.string l) => [.string ⟨l.toArray⟩]
  | .agg ds => xflats ds
  | _ => []
def xflats {H : Type} : List (DataW H) → List Value
  | [] => []
  | d :: r => xflat d ++ xflats r
end
def strCells : Array Value := (xflat (H := Unit) Rows.laid_balustrade_expr_strengths).toArray
def xsignCells : Array Value := (xflat (H := Unit) Rows.laid_balustrade_expr_signs).toArray
def frontCells : Array Value := (xflat (H := Unit) Rows.laid_balustrade_expr_fronts).toArray
/-- the tables, in their variables -/
structure XTabs (w : World) : Prop where
  str : ∃ t fr, w.heap[2]? = some (.cells strCells t fr)
  sign : ∃ t fr, w.heap[3]? = some (.cells xsignCells t fr)
  front : ∃ t fr, w.heap[4]? = some (.cells frontCells t fr)
/-- behind the variables of the tables -/
def xTop : Nat := max (max 2 3) 4 + 1
theorem XTabs.keep {w w' : World} (h : XTabs w) (hb : ∀ k, k < xTop → w'.heap[k]? = w.heap[k]?) : XTabs w' := by
  obtain ⟨a, b, c⟩ := h
  exact ⟨by rw [hb _ (by decide)]; exact a, by rw [hb _ (by decide)]; exact b, by rw [hb _ (by decide)]; exact c⟩
theorem XTabs.size {w : World} (h : XTabs w) : xTop ≤ w.heap.size := by
  obtain ⟨t, fr, h2⟩ := h.front
  obtain ⟨t, fr, h1⟩ := h.sign
  obtain ⟨t, fr, h0⟩ := h.str
  have e2 := (Array.getElem?_eq_some_iff.1 h2).1
  have e1 := (Array.getElem?_eq_some_iff.1 h1).1
  have e0 := (Array.getElem?_eq_some_iff.1 h0).1
  unfold xTop
  omega
/-- a token's cells -/
def tkv (t : Tk) : List Value := [.int .i64 (t.kind : Int), .string ⟨t.text.toArray⟩, .int .i64 (t.n : Int), .int .i64 (t.place : Int)]
def tkCells (L : List Tk) : List Value := L.flatMap tkv
theorem tkCells_length : ∀ L : List Tk, (tkCells L).length = L.length * 4
  | [] => rfl
  | x :: r => by
    have ih := tkCells_length r
    unfold tkCells at ih ⊢
    rw [List.flatMap_cons, List.length_append, ih, List.length_cons]
    show 4 + _ = _
    omega
theorem tkCells_get : ∀ (L : List Tk) (j k : Nat) (t : Tk), L[j]? = some t → k < 4 → (tkCells L)[j * 4 + k]? = (tkv t)[k]?
  | [], j, k, t, h, _ => by simp at h
  | x :: r, 0, k, t, h, hk => by
    simp at h
    subst h
    unfold tkCells
    rw [List.flatMap_cons, Nat.zero_mul, Nat.zero_add, List.getElem?_append_left (by show k < 4; exact hk)]
  | x :: r, j + 1, k, t, h, hk => by
    have ih := tkCells_get r j k t (by simpa using h) hk
    unfold tkCells at ih ⊢
    rw [List.flatMap_cons, List.getElem?_append_right (by show 4 ≤ _; omega), ← ih]
    congr 1
    show (j + 1) * 4 + k - 4 = _
    omega
theorem tkCells_one (L : List Tk) : ∀ u ∈ tkCells L, u.oneCell' = true := by
  intro u hu
  obtain ⟨t, _, h⟩ := List.mem_flatMap.1 hu
  simp [tkv] at h
  rcases h with rfl | rfl | rfl | rfl <;> rfl
/-- a slice of the tokens L, from cell off of block b on -/
def Toks (w : World) (b off : Nat) (L : List Tk) : Prop := ∀ j u, (tkCells L)[j]? = some u → w.cell? ⟨b, off + j, none⟩ = some u
theorem Toks.at_ {w : World} {b off : Nat} {L : List Tk} (h : Toks w b off L) {j : Nat} {t : Tk} (ht : L[j]? = some t) :
    w.cell? ⟨b, off + j * 4, none⟩ = some (.int .i64 (t.kind : Int)) ∧ w.cell? ⟨b, off + j * 4 + 1, none⟩ = some (.string ⟨t.text.toArray⟩) ∧ w.cell? ⟨b, off + j * 4 + 2, none⟩ = some (.int .i64 (t.n : Int)) ∧ w.cell? ⟨b, off + j * 4 + 3, none⟩ = some (.int .i64 (t.place : Int)) := by
  refine ⟨?_, ?_, ?_, ?_⟩
  · exact h (j * 4 + 0) _ ((tkCells_get L j 0 t ht (by decide)).trans rfl)
  · have := h (j * 4 + 1) _ ((tkCells_get L j 1 t ht (by decide)).trans rfl); rw [← Nat.add_assoc] at this; exact this
  · have := h (j * 4 + 2) _ ((tkCells_get L j 2 t ht (by decide)).trans rfl); rw [← Nat.add_assoc] at this; exact this
  · have := h (j * 4 + 3) _ ((tkCells_get L j 3 t ht (by decide)).trans rfl); rw [← Nat.add_assoc] at this; exact this
theorem Toks.block {w w' : World} {b off : Nat} {L : List Tk} (h : Toks w b off L) (hb : w'.heap[b]? = w.heap[b]?) : Toks w' b off L := by
  intro j u hj
  have := h j u hj
  unfold World.cell? at this ⊢
  rw [hb]
  exact this
/-- a node's kids as a value -/
def kidV (y : Nd) : Value := .slice y.ka y.kids.length y.kc
/-- a node that lies nowhere -/
def bare (x : Nd) : Nd := ⟨x.kind, none, 0, x.kids, x.n, x.s, x.at_⟩
/-- where a reader's parts lie: its tokens, its nodes, their heights; and blocks that are none of its own -/
structure Bx where
  tb : Nat
  tc : Nat
  vn : Value
  vh : Value
  Z : Nat → Prop
/-- a reader in block g: of the tokens L p are taken, d levels are open, l was laid, of the heights h, and e is wrong, at q -/
structure Core (B g : Nat) (L : List Tk) (w : World) (R : Bx) (p : Nat) (d : Int) (l : List Nd) (h : List Nat) (e q : Int) : Prop where
  box : Held w g 74 #[.slice (some ⟨R.tb, 0, none⟩) L.length R.tc, .int .i64 (p : Int), .int .i64 d, R.vn, R.vh, .int .i64 e, .int .i64 q]
  toks : Toks w R.tb 0 L
  tlt : R.tb < w.heap.size
  told : B ≤ R.tb
  ty : ∃ cs fz, w.heap[R.tb]? = some (.cells cs 49 fz)
  own : w.ownsRow B 59 5 R.vn l.length (ndCells l)
  hts : Now B w R.vh (h.map Int.ofNat)
  kids : ∀ x ∈ l, Now B w (kidV x) x.kids
  off : ∀ x ∈ l, (kidV x).ownBlock = none ∨ (kidV x).ownBlock ≠ R.vh.ownBlock
  old : B ≤ g
  fin : ∀ j t, L[j]? = some t → t.kind ≠ 0 → j + 1 < L.length
  many : L.length ≤ 100000
  tabs : XTabs w
  base : xTop ≤ B
  zone : ∀ k, R.Z k → k < w.heap.size ∧ R.vh.ownBlock ≠ some k ∧ ∀ x ∈ l, (kidV x).ownBlock ≠ some k
structure Rd (B g : Nat) (L : List Tk) (w : World) (R : Bx) (p : Nat) (d : Int) (l : List Nd) (h : List Nat) (e q : Int) : Prop extends Core B g L w R p d l h e q where
  len : h.length = l.length
  here : p < L.length
  few : l.length ≤ p + 1
  low : ∀ x ∈ h, x ≤ 200
/-- what may have turned between w and w' -/
structure Fr (g : Nat) (w w' : World) (R R' : Bx) : Prop where
  os : w'.os = w.os
  tape : w'.tape = w.tape
  output : w'.output = w.output
  size : w.heap.size ≤ w'.heap.size
  block : ∀ k, k < w.heap.size → k ≠ g → R.vn.ownBlock ≠ some k → R.vh.ownBlock ≠ some k → w'.heap[k]? = w.heap[k]?
  vn : ∀ k, R'.vn.ownBlock = some k → R.vn.ownBlock = some k ∨ w.heap.size ≤ k
  vh : ∀ k, R'.vh.ownBlock = some k → R.vh.ownBlock = some k ∨ w.heap.size ≤ k
theorem Fr.of_below {g : Nat} {w w' : World} (R : Bx) (h : Below w.heap.size w w') : Fr g w w' R R :=
  ⟨h.os, h.tape, h.output, h.size, fun k hk _ _ _ => h.block k hk, fun k hk => .inl hk, fun k hk => .inl hk⟩
theorem Fr.trans {g : Nat} {w w1 w2 : World} {R R1 R2 : Bx} (h : Fr g w w1 R R1) (k : Fr g w1 w2 R1 R2) : Fr g w w2 R R2 := by
  refine ⟨k.os.trans h.os, k.tape.trans h.tape, k.output.trans h.output, Nat.le_trans h.size k.size, ?_, ?_, ?_⟩
  · intro j hj h1 h2 h3
    rw [k.block j (Nat.lt_of_lt_of_le hj h.size) h1, h.block j hj h1 h2 h3]
    · intro e
      rcases h.vn j e with e' | e'
      · exact h2 e'
      · omega
    · intro e
      rcases h.vh j e with e' | e'
      · exact h3 e'
      · omega
  · intro j e
    rcases k.vn j e with e' | e'
    · exact h.vn j e'
    · exact .inr (Nat.le_trans h.size e')
  · intro j e
    rcases k.vh j e with e' | e'
    · exact h.vh j e'
    · exact .inr (Nat.le_trans h.size e')
theorem Core.below_base {B g : Nat} {L : List Tk} {w w' : World} {R R' : Bx} {p : Nat} {d e q : Int} {l : List Nd} {h : List Nat} (H : Core B g L w R p d l h e q) (F : Fr g w w' R R') : Below B w w' :=
  ⟨F.os, F.tape, F.output, F.size, fun k hk => F.block k (by have := H.old; have := H.box.lt; omega) (by have := H.old; omega) (fun e => by have := (H.own.lt k e).1; omega) (fun e => by have := (H.hts.lt k e).1; omega)⟩
/-- nothing of what was there has turned -/
theorem Core.below {B g : Nat} {L : List Tk} {w w' : World} {R : Bx} {p : Nat} {d e q : Int} {l : List Nd} {h : List Nat} (H : Core B g L w R p d l h e q) (hb : Below w.heap.size w w') : Core B g L w' R p d l h e q := by
  obtain ⟨cs, fz, hty⟩ := H.ty
  exact ⟨H.box.since hb, H.toks.block (hb.block _ H.tlt), Nat.lt_of_lt_of_le H.tlt hb.size, H.told, ⟨cs, fz, (hb.block _ H.tlt).trans hty⟩, own_below H.own hb, own_below H.hts hb, fun x hx => own_below (H.kids x hx) hb, H.off, H.old, H.fin, H.many,
    H.tabs.keep (fun k hk => hb.block k (by have := H.tabs.size; omega)), H.base, fun k hk => ⟨Nat.lt_of_lt_of_le (H.zone k hk).1 hb.size, (H.zone k hk).2⟩⟩
theorem Rd.below {B g : Nat} {L : List Tk} {w w' : World} {R : Bx} {p : Nat} {d e q : Int} {l : List Nd} {h : List Nat} (H : Rd B g L w R p d l h e q) (hb : Below w.heap.size w w') : Rd B g L w' R p d l h e q :=
  ⟨H.toCore.below hb, H.len, H.here, H.few, H.low⟩
theorem Core.tb_ne {B g : Nat} {L : List Tk} {w : World} {R : Bx} {p : Nat} {d e q : Int} {l : List Nd} {h : List Nat} (H : Core B g L w R p d l h e q) : R.tb ≠ g := by
  obtain ⟨cs, fz, hty⟩ := H.ty
  intro e0
  have h1 : w.heap[g]? = _ := H.box
  rw [e0, h1] at hty
  injection hty with h2
  injection h2 with _ h3
  exact absurd h3 (by decide)
/-- a cell of the reader's own is written: not its slices -/
theorem Rd.store {B g : Nat} {L : List Tk} {w : World} {R : Bx} {p p' : Nat} {d e q d' e' q' : Int} {l : List Nd} {h : List Nat} (H : Rd B g L w R p d l h e q) {i : Nat} {u : Value}
    (hc : (#[.slice (some ⟨R.tb, 0, none⟩) L.length R.tc, .int .i64 (p : Int), .int .i64 d, R.vn, R.vh, .int .i64 e, .int .i64 q] : Array Value).setIfInBounds i u = #[.slice (some ⟨R.tb, 0, none⟩) L.length R.tc, .int .i64 (p' : Int), .int .i64 d', R.vn, R.vh, .int .i64 e', .int .i64 q'])
    (hp : p' < L.length) (hf : l.length ≤ p' + 1) : Rd B g L (w.setCell ⟨g, i, none⟩ u) R p' d' l h e' q' := by
  have hg := H.box
  have hne : ∀ k, k ≠ g → (w.setCell ⟨g, i, none⟩ u).heap[k]? = w.heap[k]? := fun k hk => Below.heap_setCell w ⟨g, i, none⟩ u k hk
  obtain ⟨cs, fz, hty⟩ := H.ty
  have htb := H.toCore.tb_ne
  have gr := grown_setCell w g i u
  refine ⟨⟨?_, H.toks.block (hne _ htb), by have := H.tlt; simpa [World.setCell] using this, H.told, ⟨cs, fz, (hne _ htb).trans hty⟩, H.own.kept gr (.inr (own_ne H.own hg (by decide))), H.hts.kept gr (.inr (own_ne H.hts hg (by decide))), fun x hx => (H.kids x hx).kept gr (.inr (own_ne (H.kids x hx) hg (by decide))), H.off, H.old, H.fin, H.many,
    H.tabs.keep (fun k hk => hne k (by have := H.old; have := H.base; omega)), H.base, fun k hk => ⟨by have := (H.zone k hk).1; simpa [World.setCell] using this, (H.zone k hk).2⟩⟩, H.len, hp, hf, H.low⟩
  have := hg.set i u
  rw [hc] at this
  exact this
/-- a node is put behind the others -/
theorem Core.node {B g : Nat} {L : List Tk} {w W1 w3 : World} {R : Bx} {p : Nat} {d e q : Int} {l : List Nd} {h : List Nat} {v3 : Value} {y : Nd} (H0 : Core B g L w R p d l h e q) (hW1 : Below w.heap.size w W1) (hown : w3.ownsRow B 59 5 v3 (l.length + 1) (ndCells l ++ y.cs.toList)) (hg : W1.grownBy w3 R.vn.ownBlock)
    (hat : ∀ k, v3.ownBlock = some k → R.vn.ownBlock = some k ∨ w.heap.size ≤ k) (hk : Now B w (kidV y) y.kids) (hoff : (kidV y).ownBlock = none ∨ (kidV y).ownBlock ≠ R.vh.ownBlock) (hz : ∀ k, R.Z k → (kidV y).ownBlock ≠ some k) :
    Core B g L (w3.setCell ⟨g, 3, none⟩ v3) { R with vn := v3 } p d (l ++ [y]) h e q ∧ Fr g w (w3.setCell ⟨g, 3, none⟩ v3) R { R with vn := v3 } := by
  have H := H0.below hW1
  have hne : ∀ k, k ≠ g → (w3.setCell ⟨g, 3, none⟩ v3).heap[k]? = w3.heap[k]? := fun k hk => Below.heap_setCell w3 ⟨g, 3, none⟩ v3 k hk
  have hgv : R.vn.ownBlock ≠ some g := own_ne H.own H.box (by decide)
  have box3 : Held w3 g 74 _ := H.box.block (hg.block g H.box.lt (fun e => hgv e.symm))
  obtain ⟨cs, fz, hty⟩ := H.ty
  have htv : R.vn.ownBlock ≠ some R.tb := own_ne H.own hty (by decide)
  have htb3 : w3.heap[R.tb]? = W1.heap[R.tb]? := hg.block R.tb H.tlt (fun e => htv e.symm)
  have gr := grown_setCell w3 g 3 v3
  have hk1 : Now B W1 (kidV y) y.kids := own_below hk hW1
  have K3 : ∀ x, Now B W1 (kidV x) x.kids → Now B (w3.setCell ⟨g, 3, none⟩ v3) (kidV x) x.kids := by
    intro x hx
    have h3 : Now B w3 (kidV x) x.kids := World.ownsRow.kept hx hg (own_own hx H.own (by decide))
    exact World.ownsRow.kept h3 gr (.inr (own_ne h3 box3 (by decide)))
  have h3 : Now B w3 R.vh (h.map Int.ofNat) := World.ownsRow.kept H.hts hg (own_own H.hts H.own (by decide))
  refine ⟨⟨box3.set 3 v3, (H.toks.block htb3).block (hne _ H.tb_ne), ?_, H.told, ⟨cs, fz, (hne _ H.tb_ne).trans (htb3.trans hty)⟩, ?_, World.ownsRow.kept h3 gr (.inr (own_ne h3 box3 (by decide))), ?_, ?_, H.old, H.fin, H.many, ?_, H.base, ?zone⟩, ?_, ?_, ?_, ?_, ?_, ?_, ?_⟩
  case zone =>
    intro k hk
    have h1 := H.zone k hk
    refine ⟨by have h2 := hg.size; have h4 := h1.1; simp [World.setCell]; omega, h1.2.1, fun x hx => ?_⟩
    rcases List.mem_append.1 hx with hx | hx
    · exact h1.2.2 x hx
    · rw [List.mem_singleton.1 hx]; exact hz k hk
  · have h1 := H.tlt; have h2 := hg.size; simp [World.setCell]; omega
  · have h4 := World.ownsRow.kept hown gr (.inr (own_ne hown box3 (by decide)))
    rw [List.length_append, ndCells_append, ndCells_one]
    exact h4
  · intro x hx
    rcases List.mem_append.1 hx with hx | hx
    · exact K3 x (H.kids x hx)
    · rw [List.mem_singleton.1 hx]; exact K3 y hk1
  · intro x hx
    rcases List.mem_append.1 hx with hx | hx
    · exact H.off x hx
    · rw [List.mem_singleton.1 hx]; exact hoff
  · refine H.tabs.keep (fun k hk => ?_)
    have hb := H.base
    rw [hne k (by have := H.old; omega), hg.block k (by have := H.tabs.size; omega) (fun e => by have := (H.own.lt k e.symm).1; omega)]
  · exact (show w3.os = _ from hg.os).trans hW1.os
  · exact (show w3.tape = _ from hg.tape).trans hW1.tape
  · exact (show w3.output = _ from hg.output).trans hW1.output
  · have h1 := hW1.size; have h2 := hg.size; simp [World.setCell]; omega
  · intro k hk h1 h2 h4
    rw [hne k h1, hg.block k (by have := hW1.size; omega) (fun e => h2 e.symm), hW1.block k hk]
  · exact hat
  · exact fun k hk => .inl hk
/-- a height is put behind the others -/
theorem Core.height {B g : Nat} {L : List Tk} {w W1 w3 : World} {R : Bx} {p : Nat} {d e q : Int} {l : List Nd} {h : List Nat} {v3 : Value} {z : Nat} (H0 : Core B g L w R p d l h e q) (hW1 : Below w.heap.size w W1) (hown : Now B w3 v3 ((h ++ [z]).map Int.ofNat)) (hg : W1.grownBy w3 R.vh.ownBlock)
    (hat : ∀ k, v3.ownBlock = some k → R.vh.ownBlock = some k ∨ w.heap.size ≤ k) :
    Core B g L (w3.setCell ⟨g, 4, none⟩ v3) { R with vh := v3 } p d l (h ++ [z]) e q ∧ Fr g w (w3.setCell ⟨g, 4, none⟩ v3) R { R with vh := v3 } := by
  have H := H0.below hW1
  have hne : ∀ k, k ≠ g → (w3.setCell ⟨g, 4, none⟩ v3).heap[k]? = w3.heap[k]? := fun k hk => Below.heap_setCell w3 ⟨g, 4, none⟩ v3 k hk
  have hgv : R.vh.ownBlock ≠ some g := own_ne H.hts H.box (by decide)
  have box3 : Held w3 g 74 _ := H.box.block (hg.block g H.box.lt (fun e => hgv e.symm))
  obtain ⟨cs, fz, hty⟩ := H.ty
  have htv : R.vh.ownBlock ≠ some R.tb := own_ne H.hts hty (by decide)
  have htb3 : w3.heap[R.tb]? = W1.heap[R.tb]? := hg.block R.tb H.tlt (fun e => htv e.symm)
  have gr := grown_setCell w3 g 4 v3
  have own3 := World.ownsRow.kept H.own hg (own_own H.own H.hts (by decide))
  refine ⟨⟨box3.set 4 v3, (H.toks.block htb3).block (hne _ H.tb_ne), ?_, H.told, ⟨cs, fz, (hne _ H.tb_ne).trans (htb3.trans hty)⟩, World.ownsRow.kept own3 gr (.inr (own_ne own3 box3 (by decide))), World.ownsRow.kept hown gr (.inr (own_ne hown box3 (by decide))), ?_, ?_, H.old, H.fin, H.many, ?_, H.base, ?zone⟩, ?_, ?_, ?_, ?_, ?_, ?_, ?_⟩
  case zone =>
    intro k hk
    have h1 := H0.zone k hk
    refine ⟨by have h2 := hg.size; have h4 := h1.1; have h5 := hW1.size; simp [World.setCell]; omega, fun e => ?_, h1.2.2⟩
    rcases hat k e with h6 | h6
    · exact h1.2.1 h6
    · have := h1.1; omega
  · have h1 := H.tlt; have h2 := hg.size; simp [World.setCell]; omega
  · intro x hx
    have h4 : Now B w3 (kidV x) x.kids := World.ownsRow.kept (H.kids x hx) hg (H.off x hx)
    exact World.ownsRow.kept h4 gr (.inr (own_ne h4 box3 (by decide)))
  · intro x hx
    cases hb : (kidV x).ownBlock with
    | none => exact .inl rfl
    | some b =>
      right
      intro e
      rcases hat b e.symm with h1 | h1
      · rcases H.off x hx with h2 | h2
        · rw [h2] at hb; cases hb
        · exact h2 (hb.trans h1.symm)
      · have h2 := ((H0.kids x hx).lt b hb).2
        omega
  · refine H.tabs.keep (fun k hk => ?_)
    have hb := H.base
    rw [hne k (by have := H.old; omega), hg.block k (by have := H.tabs.size; omega) (fun e => by have := (H.hts.lt k e.symm).1; omega)]
  · exact (show w3.os = _ from hg.os).trans hW1.os
  · exact (show w3.tape = _ from hg.tape).trans hW1.tape
  · exact (show w3.output = _ from hg.output).trans hW1.output
  · have h1 := hW1.size; have h2 := hg.size; simp [World.setCell]; omega
  · intro k hk h1 h2 h4
    rw [hne k h1, hg.block k (by have := hW1.size; omega) (fun e => h4 e.symm), hW1.block k hk]
  · exact fun k hk => .inl hk
  · exact hat
theorem Fr.store {B g : Nat} {L : List Tk} {w : World} {R : Bx} (i : Nat) (u : Value) : Fr g w (w.setCell ⟨g, i, none⟩ u) R R :=
  ⟨rfl, rfl, rfl, by simp [World.setCell], fun k hk hne _ _ => Below.heap_setCell w ⟨g, i, none⟩ u k hne, fun k hk => .inl hk, fun k hk => .inl hk⟩
/-- nothing is wrong -/
def Good (B g : Nat) (L : List Tk) (w : World) (R : Bx) (d : Nat) (s : PS) : Prop := ∃ p l, Rd B g L w R p (d : Int) l s.h 0 0 ∧ s.r = L.drop p ∧ s.l = l.map bare
/-- something was noted -/
def Bad (B g : Nat) (L : List Tk) (w : World) (R : Bx) (d : Nat) (f : Flt) : Prop := ∃ p l h, Rd B g L w R p (d : Int) l h (f.1 : Int) (f.2 : Int) ∧ f.1 ≠ 0
theorem Good.below {B g : Nat} {L : List Tk} {w w' : World} {R : Bx} {d : Nat} {s : PS} (H : Good B g L w R d s) (hb : Below w.heap.size w w') : Good B g L w' R d s := by
  obtain ⟨p, l, h, r⟩ := H
  exact ⟨p, l, h.below hb, r⟩
theorem Bad.below {B g : Nat} {L : List Tk} {w w' : World} {R : Bx} {d : Nat} {f : Flt} (H : Bad B g L w R d f) (hb : Below w.heap.size w w') : Bad B g L w' R d f := by
  obtain ⟨p, l, h, H, r⟩ := H
  exact ⟨p, l, h, H.below hb, r⟩
/-- another row of ints is written, or made longer -/
theorem Rd.foreign {B g : Nat} {L : List Tk} {w : World} {R : Bx} {p : Nat} {d e q : Int} {l : List Nd} {h : List Nat} {W1 w' : World} {v : Value} {B' n : Nat} {xs : List Value} (H0 : Rd B g L w R p d l h e q) (hW1 : Below w.heap.size w W1) (hv : W1.ownsRow B' 3 1 v n xs) (hB' : xTop ≤ B') (hz : ∀ k, v.ownBlock = some k → R.Z k) (hg : W1.grownBy w' v.ownBlock) : Rd B g L w' R p d l h e q := by
  have H := H0.below hW1
  obtain ⟨cs, fz, hty⟩ := H.ty
  have hgv : v.ownBlock ≠ some g := own_ne hv H.box (by decide)
  have htv : v.ownBlock ≠ some R.tb := own_ne hv hty (by decide)
  have htb : w'.heap[R.tb]? = W1.heap[R.tb]? := hg.block R.tb H.tlt (fun e => htv e.symm)
  have hne : ∀ {u : Value}, (∀ k, R.Z k → u.ownBlock ≠ some k) → u.ownBlock = none ∨ u.ownBlock ≠ v.ownBlock := by
    intro u hu
    cases hb : u.ownBlock with
    | none => exact .inl rfl
    | some b => exact .inr (fun e => hu b (hz b e.symm) hb)
  have hlow : ∀ k, k < xTop → w'.heap[k]? = W1.heap[k]? := by
    intro k hk
    exact hg.block k (by have := H.tabs.size; omega) (fun e => by have := (hv.lt k e.symm).1; omega)
  refine ⟨⟨H.box.block (hg.block g H.box.lt (fun e => hgv e.symm)), H.toks.block htb, Nat.lt_of_lt_of_le H.tlt hg.size, H.told, ⟨cs, fz, htb.trans hty⟩, World.ownsRow.kept H.own hg (own_own H.own hv (by decide)), World.ownsRow.kept H.hts hg (hne (fun k hk => (H.zone k hk).2.1)), fun x hx => World.ownsRow.kept (H.kids x hx) hg (hne (fun k hk => (H.zone k hk).2.2 x hx)), H.off, H.old, H.fin, H.many, H.tabs.keep hlow, H.base, fun k hk => ⟨Nat.lt_of_lt_of_le (H.zone k hk).1 hg.size, (H.zone k hk).2⟩⟩, H.len, H.here, H.few, H.low⟩
theorem Good.foreign {B g B' n : Nat} {L : List Tk} {w W1 w' : World} {R : Bx} {d : Nat} {s : PS} {v : Value} {xs : List Value} (H : Good B g L w R d s) (hW1 : Below w.heap.size w W1) (hv : W1.ownsRow B' 3 1 v n xs) (hB' : xTop ≤ B') (hz : ∀ k, v.ownBlock = some k → R.Z k) (hg : W1.grownBy w' v.ownBlock) : Good B g L w' R d s := by
  obtain ⟨p, l, h, r⟩ := H
  exact ⟨p, l, h.foreign hW1 hv hB' hz hg, r⟩
theorem Bad.foreign {B g B' n : Nat} {L : List Tk} {w W1 w' : World} {R : Bx} {d : Nat} {f : Flt} {v : Value} {xs : List Value} (H : Bad B g L w R d f) (hW1 : Below w.heap.size w W1) (hv : W1.ownsRow B' 3 1 v n xs) (hB' : xTop ≤ B') (hz : ∀ k, v.ownBlock = some k → R.Z k) (hg : W1.grownBy w' v.ownBlock) : Bad B g L w' R d f := by
  obtain ⟨p, l, h, H, r⟩ := H
  exact ⟨p, l, h, H.foreign hW1 hv hB' hz hg, r⟩
theorem Rd.less {B g : Nat} {L : List Tk} {w : World} {R : Bx} {p : Nat} {d e q : Int} {l : List Nd} {h : List Nat} (H : Rd B g L w R p d l h e q) (Z' : Nat → Prop) (hz : ∀ k, Z' k → R.Z k) : Rd B g L w { R with Z := Z' } p d l h e q :=
  ⟨⟨H.box, H.toks, H.tlt, H.told, H.ty, H.own, H.hts, H.kids, H.off, H.old, H.fin, H.many, H.tabs, H.base, fun k hk => H.zone k (hz k hk)⟩, H.len, H.here, H.few, H.low⟩
theorem Good.less {B g : Nat} {L : List Tk} {w : World} {R : Bx} {d : Nat} {s : PS} (H : Good B g L w R d s) (Z' : Nat → Prop) (hz : ∀ k, Z' k → R.Z k) : Good B g L w { R with Z := Z' } d s := by
  obtain ⟨p, l, h, r⟩ := H
  exact ⟨p, l, h.less Z' hz, r⟩
theorem Bad.less {B g : Nat} {L : List Tk} {w : World} {R : Bx} {d : Nat} {f : Flt} (H : Bad B g L w R d f) (Z' : Nat → Prop) (hz : ∀ k, Z' k → R.Z k) : Bad B g L w { R with Z := Z' } d f := by
  obtain ⟨p, l, h, H, r⟩ := H
  exact ⟨p, l, h, H.less Z' hz, r⟩
/-- .. with a block that was made behind w -/
theorem Rd.wider {B g : Nat} {L : List Tk} {w w' : World} {R : Bx} {p : Nat} {d e q : Int} {l : List Nd} {h : List Nat} (H : Rd B g L w R p d l h e q) (H' : Rd B g L w' R p d l h e q) (Z' : Nat → Prop) (hz : ∀ k, Z' k → R.Z k ∨ (w.heap.size ≤ k ∧ k < w'.heap.size)) : Rd B g L w' { R with Z := Z' } p d l h e q := by
  refine ⟨⟨H'.box, H'.toks, H'.tlt, H'.told, H'.ty, H'.own, H'.hts, H'.kids, H'.off, H'.old, H'.fin, H'.many, H'.tabs, H'.base, fun k hk => ?_⟩, H'.len, H'.here, H'.few, H'.low⟩
  rcases hz k hk with h1 | ⟨h1, h2⟩
  · exact H'.zone k h1
  · exact ⟨h2, fun e => by have := (H.hts.lt k e).2; omega, fun x hx e => by have := ((H.kids x hx).lt k e).2; omega⟩
theorem Good.wider {B g B' n : Nat} {L : List Tk} {w W1 w' : World} {R : Bx} {d : Nat} {s : PS} {v : Value} {xs : List Value} (H : Good B g L w R d s) (hW1 : Below w.heap.size w W1) (hv : W1.ownsRow B' 3 1 v n xs) (hB' : xTop ≤ B') (hz : ∀ k, v.ownBlock = some k → R.Z k) (hg : W1.grownBy w' v.ownBlock) (Z' : Nat → Prop) (hz' : ∀ k, Z' k → R.Z k ∨ (w.heap.size ≤ k ∧ k < w'.heap.size)) : Good B g L w' { R with Z := Z' } d s := by
  obtain ⟨p, l, h, r⟩ := H
  exact ⟨p, l, h.wider (h.foreign hW1 hv hB' hz hg) Z' hz', r⟩
theorem Bad.wider {B g B' n : Nat} {L : List Tk} {w W1 w' : World} {R : Bx} {d : Nat} {f : Flt} {v : Value} {xs : List Value} (H : Bad B g L w R d f) (hW1 : Below w.heap.size w W1) (hv : W1.ownsRow B' 3 1 v n xs) (hB' : xTop ≤ B') (hz : ∀ k, v.ownBlock = some k → R.Z k) (hg : W1.grownBy w' v.ownBlock) (Z' : Nat → Prop) (hz' : ∀ k, Z' k → R.Z k ∨ (w.heap.size ≤ k ∧ k < w'.heap.size)) : Bad B g L w' { R with Z := Z' } d f := by
  obtain ⟨p, l, h, H, r⟩ := H
  exact ⟨p, l, h, H.wider (H.foreign hW1 hv hB' hz hg) Z' hz', r⟩
theorem getD_some {L : List Tk} {p : Nat} (hp : p < L.length) : ∃ t, L[p]? = some t ∧ L.drop p = t :: L.drop (p + 1) := ⟨L[p], List.getElem?_eq_getElem hp, List.drop_eq_getElem_cons hp⟩
theorem Good.tok {B g : Nat} {L : List Tk} {w : World} {R : Bx} {d : Nat} {s : PS} (H : Good B g L w R d s) : ∃ p l, Rd B g L w R p (d : Int) l s.h 0 0 ∧ s.r = L.drop p ∧ s.l = l.map bare ∧ L[p]? = some s.tok ∧ s.next.r = L.drop (p + 1) := by
  obtain ⟨p, l, h, hr, hl⟩ := H
  obtain ⟨t, h1, h2⟩ := getD_some h.here
  refine ⟨p, l, h, hr, hl, ?_, ?_⟩
  · unfold PS.tok; rw [hr, h2]; exact h1
  · show s.r.tail = _; rw [hr, h2]; rfl
variable {B g : Nat} {L : List Tk} {w : World} {R : Bx} {p : Nat} {d e q : Int} {l : List Nd} {h : List Nat}
theorem Core.c0 (H : Core B g L w R p d l h e q) : w.cell? ⟨g, 0, none⟩ = some (.slice (some ⟨R.tb, 0, none⟩) L.length R.tc) := H.box.at_ rfl
theorem Core.c1 (H : Core B g L w R p d l h e q) : w.cell? ⟨g, 1, none⟩ = some (.int .i64 (p : Int)) := H.box.at_ rfl
theorem Core.c2 (H : Core B g L w R p d l h e q) : w.cell? ⟨g, 2, none⟩ = some (.int .i64 d) := H.box.at_ rfl
theorem Core.c3 (H : Core B g L w R p d l h e q) : w.cell? ⟨g, 3, none⟩ = some R.vn := H.box.at_ rfl
theorem Core.c4 (H : Core B g L w R p d l h e q) : w.cell? ⟨g, 4, none⟩ = some R.vh := H.box.at_ rfl
theorem Core.c5 (H : Core B g L w R p d l h e q) : w.cell? ⟨g, 5, none⟩ = some (.int .i64 e) := H.box.at_ rfl
theorem Core.c6 (H : Core B g L w R p d l h e q) : w.cell? ⟨g, 6, none⟩ = some (.int .i64 q) := H.box.at_ rfl
theorem Held.t0 {a b c x : Value} {t : TypeId} (H : Held w g t #[a, b, c, x]) : w.cell? ⟨g, 0, none⟩ = some a := H.at_ rfl
theorem Held.t1 {a b c x : Value} {t : TypeId} (H : Held w g t #[a, b, c, x]) : w.cell? ⟨g, 1, none⟩ = some b := H.at_ rfl
theorem Held.t2 {a b c x : Value} {t : TypeId} (H : Held w g t #[a, b, c, x]) : w.cell? ⟨g, 2, none⟩ = some c := H.at_ rfl
theorem Held.t3 {a b c x : Value} {t : TypeId} (H : Held w g t #[a, b, c, x]) : w.cell? ⟨g, 3, none⟩ = some x := H.at_ rfl
end Go.Proofs.YtagacfcpepoaoaaGreatDoor
