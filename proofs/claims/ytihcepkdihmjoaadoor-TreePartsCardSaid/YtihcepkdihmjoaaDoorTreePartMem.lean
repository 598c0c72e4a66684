/- A part of a tree in memory while it is glued: what each step leaves. -/
import Derived.Test.YtihcepkdihmjoaaDoorTreePart
import Derived.Test.YtihcepkdihmjoaaDoorGenOwn
import Derived.Test.YtihcepkdihmjoaaDoorTreeMoved
namespace Go.Proofs.YtihcepkdihmjoaaDoor
open Go.RowKit
set_option linter.unusedVariables false

/-- a node's kids as a value -/
def kv (y : Nd) : Value := .slice y.ka y.kids.length y.kc
/-- each node's kids lie in a row of their own -/
def Kids (B : Nat) (w : World) (L : List Nd) : Prop := ∀ y ∈ L, Now B w (kv y) y.kids
theorem Kids.kept {B : Nat} {w w' : World} {L : List Nd} {row : Option Nat} (h : Kids B w L) (hg : w.grownBy w' row) (ho : ∀ y ∈ L, (kv y).ownBlock = none ∨ (kv y).ownBlock ≠ row) : Kids B w' L :=
  fun y hy => (h y hy).kept hg (ho y hy)
theorem Kids.below {B : Nat} {w w' : World} {L : List Nd} (h : Kids B w L) (hb : Below w.heap.size w w') : Kids B w' L := fun y hy => own_below (h y hy) hb
theorem Kids.base {B B' : Nat} {w : World} {L : List Nd} (h : Kids B w L) (hb : B' ≤ B) : Kids B' w L := fun y hy => own_base (h y hy) hb
theorem Kids.node {B B' n : Nat} {w : World} {L : List Nd} {v : Value} {xs : List Value} (h : Kids B w L) (hv : w.ownsRow B' 36 5 v n xs) : ∀ y ∈ L, (kv y).ownBlock = none ∨ (kv y).ownBlock ≠ v.ownBlock :=
  fun y hy => own_own (h y hy) hv (by decide)
theorem Kids.held {B g : Nat} {w : World} {L : List Nd} {cs : Array Value} (h : Kids B w L) (hg : Held w g 36 cs) : ∀ y ∈ L, (kv y).ownBlock = none ∨ (kv y).ownBlock ≠ some g :=
  fun y hy => .inr (own_ne (h y hy) hg (by decide))
theorem Kids.append {B : Nat} {w : World} {L R : List Nd} (h : Kids B w L) (h' : Kids B w R) : Kids B w (L ++ R) := fun y hy => (List.mem_append.1 hy).elim (h y) (h' y)
/-- p, of which the first j nodes are moved by d -/
structure MS (d : Nat) (W wr : World) (vp : Value) (L Q : List Nd) (j : Nat) : Prop where
  own : wr.ownsRow W.heap.size 36 5 vp L.length (ndCells (Q ++ L.drop j))
  kids : Kids W.heap.size wr (Q ++ L.drop j)
  len : Q.length = j
  shift : ∀ t, t < j → Dt (nd Q t) (nd L t) ∧ (nd Q t).kids = (nd L t).kids.map (fun k => k + (d : Int))
  below : Below W.heap.size W wr
/-- x, of which the first m kids are there, moved by d -/
structure IS (d : Nat) (W wr : World) (g : Nat) (y : Nd) (m : Nat) (kx : Value) : Prop where
  row : Now (g + 1) wr kx ((y.kids.take m).map (fun k => k + (d : Int)))
  box : Held wr g 36 #[.int .i64 y.kind, kx, .int .i64 y.n, .string y.s, .int .i64 y.at_]
  below : Below W.heap.size W wr
  at_ : g = W.heap.size
theorem drop_nd {L : List Nd} {j : Nat} (hj : j < L.length) : L.drop j = nd L j :: L.drop (j + 1) := by
  rw [nd_of hj]
  exact List.drop_eq_getElem_cons hj
theorem MS.start {d : Nat} {W wr : World} {vp : Value} {L : List Nd} (h : wr.ownsRow W.heap.size 36 5 vp L.length (ndCells L)) (hk : Kids W.heap.size wr L) (hb : Below W.heap.size W wr) : MS d W wr vp L [] 0 :=
  ⟨by simpa using h, by simpa using hk, rfl, (fun t ht => by omega), hb⟩
theorem IS.start {d : Nat} {W : World} {y : Nd} : IS d W (W.alloc (.cells #[.int .i64 y.kind, .slice none 0 0, .int .i64 y.n, .string y.s, .int .i64 y.at_] 36)) W.heap.size y 0 (.slice none 0 0) :=
  ⟨by simp only [List.take_zero, List.map_nil]; exact Now.nil _ _, Held.new W _ _, (Below.refl _ _).alloc (Nat.le_refl _) _, rfl⟩
theorem IS.next {d : Nat} {W wr w3 : World} {g m : Nat} {y : Nd} {kx v1 : Value} {z : Int} (h : IS d W wr g y m kx) (hm : m < y.kids.length) (hz : z = y.kids.getD m 0 + (d : Int)) (hr : Now (g + 1) w3 v1 ((y.kids.take m).map (fun k => k + (d : Int)) ++ [z])) (hb : Below (g + 1) wr w3) :
    IS d W (w3.setCell ⟨g, 1, none⟩ v1) g y (m + 1) v1 := by
  refine ⟨?_, ?_, ?_, h.at_⟩
  · rw [take_getD' hm, List.map_append]
    have e : [y.kids.getD m 0].map (fun k => k + (d : Int)) = [z] := by rw [hz]; rfl
    rw [e]
    exact hr.block fun k hk _ => Below.heap_setCell _ _ _ _ (by show k ≠ g; omega)
  · have h1 := (h.box.below hb (Nat.lt_succ_self g)).set 1 v1
    exact h1
  · have h1 : Below W.heap.size W w3 := h.below.trans (hb.mono (by rw [h.at_]; omega))
    exact h1.setCell (p := ⟨g, 1, none⟩) (by show _ ≤ g; rw [h.at_]; exact Nat.le_refl _) v1
theorem set5 {A R : List Value} {c0 c1 c2 c3 c4 x0 x1 x2 x3 x4 : Value} {p : Nat} (hp : p = A.length) :
    (((((A ++ [c0, c1, c2, c3, c4] ++ R).set p x0).set (p + 1) x1).set (p + 2) x2).set (p + 3) x3).set (p + 4) x4 = A ++ [x0, x1, x2, x3, x4] ++ R := by
  subst hp
  simp
theorem MS.write {B n g o : Nat} {w : World} {vp u : Value} {xs : List Value} {K : List Nd} (h : w.ownsRow B 36 5 vp n xs) (hk : Kids B w K) (hv : vp.ownBlock = some g) (ho : o < n * 5) :
    (w.setCell ⟨g, o, none⟩ u).ownsRow B 36 5 vp n (xs.set o u) ∧ Kids B (w.setCell ⟨g, o, none⟩ u) K := by
  refine ⟨own_set h hv ho, hk.kept (grown_setCell w g o u) ?_⟩
  intro y hy
  have := hk.node h y hy
  rwa [hv] at this
/-- the node as it is put back -/
def put (d : Nat) (y : Nd) (ka : Option Addr) (kc : Nat) : Nd := ⟨y.kind, ka, kc, y.kids.map (fun k => k + (d : Int)), y.n, y.s, y.at_⟩
theorem MS.next {d j gp g : Nat} {W W1 wr : World} {vp : Value} {L Q : List Nd} {ka : Option Addr} {kc : Nat} (h : MS d W W1 vp L Q j) (hj : j < L.length) (hv : vp.ownBlock = some gp) (hgp : W.heap.size ≤ gp) (hI : IS d W1 wr g (nd L j) (nd L j).kids.length (.slice ka (nd L j).kids.length kc)) :
    MS d W (((((wr.setCell ⟨gp, j * 5, none⟩ (.int .i64 (nd L j).kind)).setCell ⟨gp, j * 5 + 1, none⟩ (.slice ka (nd L j).kids.length kc)).setCell ⟨gp, j * 5 + 2, none⟩ (.int .i64 (nd L j).n)).setCell ⟨gp, j * 5 + 3, none⟩ (.string (nd L j).s)).setCell ⟨gp, j * 5 + 4, none⟩ (.int .i64 (nd L j).at_)) vp L (Q ++ [put d (nd L j) ka kc]) (j + 1) := by
  have hkx : Now W.heap.size wr (kv (put d (nd L j) ka kc)) (put d (nd L j) ka kc).kids := by
    have h1 := hI.row
    rw [List.take_length] at h1
    have h2 : Now W.heap.size wr (.slice ka (nd L j).kids.length kc) ((nd L j).kids.map (fun k => k + (d : Int))) := own_base h1 (by rw [hI.at_]; have := h.below.size; omega)
    have e : kv (put d (nd L j) ka kc) = .slice ka (nd L j).kids.length kc := by
      unfold kv put
      simp
    rw [e]
    exact h2
  have hkids : Kids W.heap.size wr (Q ++ [put d (nd L j) ka kc] ++ L.drop (j + 1)) := by
    have h1 := h.kids.below hI.below
    rw [drop_nd hj] at h1
    intro y hy
    rcases List.mem_append.1 hy with hy | hy
    · rcases List.mem_append.1 hy with hy | hy
      · exact h1 y (List.mem_append_left _ hy)
      · rw [List.mem_singleton.1 hy]; exact hkx
    · exact h1 y (List.mem_append_right _ (List.mem_cons_of_mem _ hy))
  have hown := own_below h.own hI.below
  have hbnd : j * 5 + 5 ≤ L.length * 5 := by omega
  obtain ⟨o1, k1⟩ := MS.write (u := .int .i64 (nd L j).kind) (o := j * 5) hown hkids hv (by omega)
  obtain ⟨o2, k2⟩ := MS.write (u := .slice ka (nd L j).kids.length kc) (o := j * 5 + 1) o1 k1 hv (by omega)
  obtain ⟨o3, k3⟩ := MS.write (u := .int .i64 (nd L j).n) (o := j * 5 + 2) o2 k2 hv (by omega)
  obtain ⟨o4, k4⟩ := MS.write (u := .string (nd L j).s) (o := j * 5 + 3) o3 k3 hv (by omega)
  obtain ⟨o5, k5⟩ := MS.write (u := .int .i64 (nd L j).at_) (o := j * 5 + 4) o4 k4 hv (by omega)
  refine ⟨?_, k5, by rw [List.length_append, h.len]; rfl, ?_, ?_⟩
  · have e1 : ndCells (Q ++ L.drop j) = ndCells Q ++ [.int .i64 (nd L j).kind, kv (nd L j), .int .i64 (nd L j).n, .string (nd L j).s, .int .i64 (nd L j).at_] ++ ndCells (L.drop (j + 1)) := by
      rw [drop_nd hj, ndCells_append, show nd L j :: L.drop (j + 1) = [nd L j] ++ L.drop (j + 1) from rfl, ndCells_append, ndCells_one, ← List.append_assoc]
      rfl
    have e2 : ndCells (Q ++ [put d (nd L j) ka kc] ++ L.drop (j + 1)) = ndCells Q ++ [.int .i64 (nd L j).kind, .slice ka (nd L j).kids.length kc, .int .i64 (nd L j).n, .string (nd L j).s, .int .i64 (nd L j).at_] ++ ndCells (L.drop (j + 1)) := by
      rw [ndCells_append, ndCells_append, ndCells_one]
      have : (put d (nd L j) ka kc).cs.toList = [.int .i64 (nd L j).kind, .slice ka (nd L j).kids.length kc, .int .i64 (nd L j).n, .string (nd L j).s, .int .i64 (nd L j).at_] := by
        unfold put Nd.cs
        simp
      rw [this]
    rw [e1, set5 (by rw [ndCells_length, h.len])] at o5
    rw [e2]
    exact o5
  · intro t ht
    rcases Nat.lt_or_ge t j with g1 | g1
    · rw [nd_left (by rw [h.len]; exact g1)]
      exact h.shift t g1
    · have e : t = j := by omega
      subst e
      rw [nd_right (by rw [h.len]; exact Nat.le_refl _), h.len, Nat.sub_self]
      exact ⟨⟨rfl, rfl, rfl, rfl⟩, rfl⟩
  · have h1 : Below W.heap.size W wr := h.below.trans (hI.below.mono h.below.size)
    exact ((((h1.setCell (p := ⟨gp, j * 5, none⟩) hgp _).setCell (p := ⟨gp, j * 5 + 1, none⟩) hgp _).setCell (p := ⟨gp, j * 5 + 2, none⟩) hgp _).setCell (p := ⟨gp, j * 5 + 3, none⟩) hgp _).setCell (p := ⟨gp, j * 5 + 4, none⟩) hgp _
/-- what is glued, in memory: out, and the node whose kids are being put -/
structure PM (w wr : World) (gb : Nat) (v : Value) (O : List Nd) (rs : List Int) (kn : Value) (y : Nd) : Prop where
  own : wr.ownsRow w.heap.size 36 5 v O.length (ndCells O)
  kids : Kids w.heap.size wr O
  box : Held wr gb 36 #[.int .i64 y.kind, kn, .int .i64 y.n, .string y.s, .int .i64 y.at_]
  row : Now w.heap.size wr kn rs
  off : ∀ x ∈ O, (kv x).ownBlock = none ∨ (kv x).ownBlock ≠ kn.ownBlock
  apart : v.ownBlock ≠ some gb
  below : Below w.heap.size w wr
  old : w.heap.size ≤ gb
theorem PM.start (w : World) (y : Nd) : PM w ((w.alloc (.cells #[] 36)).alloc (.cells #[.int .i64 y.kind, .slice none 0 0, .int .i64 y.n, .string y.s, .int .i64 y.at_] 36)) (w.heap.size + 1) (.slice (some ⟨w.heap.size, 0, none⟩) 0 0) [] [] (.slice none 0 0) y := by
  have h1 := (Vals.start 36 5 w #[] rfl)
  have h2 := h1.quiet (w' := (w.alloc (.cells #[] 36)).alloc (.cells #[.int .i64 y.kind, .slice none 0 0, .int .i64 y.n, .string y.s, .int .i64 y.at_] 36)) ((Below.refl _ _).alloc (Nat.le_refl _) _)
  have h3 := Held.new (w.alloc (.cells #[] 36)) 36 #[.int .i64 y.kind, .slice none 0 0, .int .i64 y.n, .string y.s, .int .i64 y.at_]
  rw [show (w.alloc (.cells #[] 36)).heap.size = w.heap.size + 1 by simp] at h3
  exact ⟨h2.1, (fun y hy => by cases hy), h3, Now.nil _ _, (fun x hx => by cases hx), by simp [Value.ownBlock], h2.2, by omega⟩
/-- p is put behind out -/
theorem PM.app {w wr w5 w6 : World} {gb d : Nat} {v vp v' : Value} {O L Q : List Nd} {rs : List Int} {kn : Value} {y : Nd} (h : PM w wr gb v O rs kn y) (hM : MS d wr w5 vp L Q L.length) (hown : w6.ownsRow w.heap.size 36 5 v' (O.length + L.length) (ndCells O ++ ndCells Q)) (hg : w5.grownBy w6 v.ownBlock)
    (hw : ∀ k, v'.ownBlock = some k → v.ownBlock = some k ∨ k = w5.heap.size) : PM w w6 gb v' (O ++ Q) rs kn y := by
  have hQ : Kids wr.heap.size w5 Q := fun x hx => hM.kids x (List.mem_append_left _ hx)
  have hO : Kids w.heap.size w5 O := h.kids.below hM.below
  have own5 := own_below h.own hM.below
  have row5 : Now w.heap.size w5 kn rs := own_below h.row hM.below
  have box5 := h.box.since hM.below
  have hall : Kids w.heap.size w5 (O ++ Q) := hO.append (hQ.base h.below.size)
  refine ⟨?_, hall.kept hg (hall.node own5), ?_, row5.kept hg (own_own row5 own5 (by decide)), ?_, ?_, ?_, h.old⟩
  · rw [List.length_append, hM.len, ndCells_append]; exact hown
  · exact box5.block (hg.block gb box5.lt (fun e => h.apart e.symm))
  · intro x hx
    rcases List.mem_append.1 hx with hx | hx
    · exact h.off x hx
    · cases hb : (kv x).ownBlock with
      | none => exact .inl rfl
      | some b =>
        right
        intro e
        have h1 := (own_lt (hQ x hx) b hb).1
        have h2 := (own_lt h.row b e.symm).2
        omega
  · intro e
    rcases hw gb e with h1 | h1
    · exact h.apart h1
    · have := box5.lt; omega
  · refine (h.below.trans (hM.below.mono h.below.size)).grown hg ?_ ?_
    · have h1 := h.below.size; have h2 := hM.below.size; omega
    · intro k hk; exact (own_lt h.own k hk).1
/-- one more kid is put -/
theorem PM.push {w w6 w7 : World} {gb : Nat} {v v1 : Value} {O : List Nd} {rs : List Int} {kn : Value} {y : Nd} {o : Obj} {z : Int} (h : PM w w6 gb v O rs kn y) (hrow : Now w.heap.size w7 v1 (rs ++ [z])) (hg : (w6.alloc o).grownBy w7 kn.ownBlock)
    (hw : ∀ k, v1.ownBlock = some k → kn.ownBlock = some k ∨ k = (w6.alloc o).heap.size) : PM w (w7.setCell ⟨gb, 1, none⟩ v1) gb v O (rs ++ [z]) v1 y := by
  have hb : Below w6.heap.size w6 (w6.alloc o) := (Below.refl _ _).alloc (Nat.le_refl _) _
  have ownA := own_below h.own hb
  have rowA : Now w.heap.size (w6.alloc o) kn rs := own_below h.row hb
  have boxA := h.box.since hb
  have kidsA := h.kids.below hb
  have own7 := ownA.kept hg (own_own ownA rowA (by decide))
  have kids7 := kidsA.kept hg h.off
  have box7 : Held w7 gb 36 _ := boxA.block (hg.block gb boxA.lt (fun e => own_ne rowA boxA (by decide) e.symm))
  refine ⟨own7.kept (grown_setCell _ _ _ _) (.inr h.apart), kids7.kept (grown_setCell _ _ _ _) (kids7.held box7), box7.set 1 v1, hrow.kept (grown_setCell _ _ _ _) (.inr (own_ne hrow box7 (by decide))), ?_, h.apart, ?_, h.old⟩
  · intro x hx
    cases hbk : (kv x).ownBlock with
    | none => exact .inl rfl
    | some b =>
      right
      intro e
      rcases hw b e.symm with h1 | h1
      · rcases h.off x hx with h2 | h2
        · rw [h2] at hbk; cases hbk
        · exact h2 (hbk.trans h1.symm)
      · have h2 := (own_lt (kidsA x hx) b hbk).2
        omega
  · have h1 : Below w.heap.size w (w6.alloc o) := h.below.alloc h.below.size _
    have h2 := h1.grown hg h1.size (fun k hk => (own_lt h.row k hk).1)
    exact h2.setCell (p := ⟨gb, 1, none⟩) h.old v1
/-- what Part tells -/
def Parted (l : List Nd) (i : Nat) (w : World) (e : Ending) (w' : World) : Prop :=
  ∃ v L, e = .returned v ∧ w'.ownsRow w.heap.size 36 5 v L.length (ndCells L) ∧ Kids w.heap.size w' L ∧ PartOf l i L ∧ Below w.heap.size w w'
theorem PM.done {l : List Nd} {i : Nat} {w w6 w7 : World} {gb : Nat} {v v1 : Value} {O : List Nd} {rs : List Int} {ka : Option Addr} {kc : Nat} {o : Obj} {e : Ending} (h : PM w w6 gb v O rs (.slice ka rs.length kc) (nd l i)) (hA : Ahead l) (hi : i < l.length) (hG : Glue l i (nd l i).kids.length O rs)
    (hown : w7.ownsRow w.heap.size 36 5 v1 (O.length + 1) (ndCells O ++ [.int .i64 (nd l i).kind, .slice ka rs.length kc, .int .i64 (nd l i).n, .string (nd l i).s, .int .i64 (nd l i).at_])) (hg : (w6.alloc o).grownBy w7 v.ownBlock) (he : e = .returned v1) : Parted l i w e w7 := by
  have hb : Below w6.heap.size w6 (w6.alloc o) := (Below.refl _ _).alloc (Nat.le_refl _) _
  have ownA := own_below h.own hb
  have rowA : Now w.heap.size (w6.alloc o) (.slice ka rs.length kc) rs := own_below h.row hb
  have kidsA := h.kids.below hb
  refine ⟨v1, O ++ [⟨(nd l i).kind, ka, kc, rs, (nd l i).n, (nd l i).s, (nd l i).at_⟩], he, ?_, ?_, Glue.done hA hi hG ⟨rfl, rfl, rfl, rfl⟩ rfl, ?_⟩
  · rw [List.length_append, ndCells_append, ndCells_one]; exact hown
  · refine (kidsA.kept hg (kidsA.node ownA)).append ?_
    intro y hy
    rw [List.mem_singleton.1 hy]
    exact rowA.kept hg (own_own rowA ownA (by decide))
  · exact (h.below.alloc h.below.size o).grown hg (by have := h.below.size; simp; omega) (fun k hk => (own_lt h.own k hk).1)
end Go.Proofs.YtihcepkdihmjoaaDoor
