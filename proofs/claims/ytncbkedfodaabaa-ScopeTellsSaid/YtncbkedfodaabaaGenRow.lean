/- What is told of slices of numbers: to read (Rows'), of one's own, to write (Mine), what else may have turned (But). No program. -/
import Derived.WalkKit
import Derived.ProofKit
import Derived.Below
import Derived.Deep.OwnRows
import Derived.Deep.Draws
namespace Go.Proofs.Ytncbkedfodaabaa
open Go.RowKit
set_option linter.unusedVariables false

theorem hidden {p : Prop} (h : p) : Hid p := h
/-- v is a slice of n numbers f 0 .. of kind k, in w -/
def Rows' (k : IntKind) (w : World) (a : Option Addr) (n : Nat) (f : Nat → Int) : Prop :=
  0 < n → ∃ b off, a = some ⟨b, off, none⟩ ∧ b < w.heap.size ∧ ∀ j, j < n → w.cell? ⟨b, off + j, none⟩ = some (.int k (f j))
theorem Rows'.below {k : IntKind} {w w' : World} {a : Option Addr} {n : Nat} {f : Nat → Int} (h : Rows' k w a n f) (hb : Below w.heap.size w w') : Rows' k w' a n f := by
  intro hn
  obtain ⟨b, off, ha, hlt, hc⟩ := h hn
  exact ⟨b, off, ha, Nat.lt_of_lt_of_le hlt hb.size, fun j hj => (hb.cell (p := ⟨b, off + j, none⟩) hlt).trans (hc j hj)⟩
theorem Rows'.congr {k : IntKind} {w : World} {a : Option Addr} {n : Nat} {f g : Nat → Int} (h : Rows' k w a n f) (e : ∀ j, j < n → f j = g j) : Rows' k w a n g := by
  intro hn
  obtain ⟨b, off, ha, hlt, hc⟩ := h hn
  exact ⟨b, off, ha, hlt, fun j hj => by rw [hc j hj, e j hj]⟩
/-- block g is one's own: its first n cells are numbers, none is frozen -/
def Mine (k : IntKind) (t : TypeId) (w : World) (g n : Nat) (f : Nat → Int) : Prop :=
  ∃ c : Array Value, w.heap[g]? = some (.cells c t (0, 0)) ∧ n ≤ c.size ∧ ∀ j, j < n → c[j]? = some (.int k (f j))
theorem Mine.lt {k : IntKind} {t : TypeId} {w : World} {g n : Nat} {f : Nat → Int} (h : Mine k t w g n f) : g < w.heap.size := by
  obtain ⟨c, hb, _, _⟩ := h
  obtain ⟨hlt, _⟩ := Array.getElem?_eq_some_iff.1 hb
  exact hlt
theorem Mine.cell {k : IntKind} {t : TypeId} {w : World} {g n : Nat} {f : Nat → Int} (h : Mine k t w g n f) {j : Nat} (hj : j < n) : w.cell? ⟨g, j, none⟩ = some (.int k (f j)) := by
  obtain ⟨c, hb, _, hc⟩ := h
  simp [World.cell?, hb, hc j hj]
theorem Mine.frozen {k : IntKind} {t : TypeId} {w : World} {g n : Nat} {f : Nat → Int} (h : Mine k t w g n f) (j : Nat) : w.frozen? ⟨g, j, none⟩ = false := by
  obtain ⟨c, hb, _, _⟩ := h
  simp [World.frozen?, hb]
theorem Mine.block {k : IntKind} {t : TypeId} {w w' : World} {g n : Nat} {f : Nat → Int} (h : Mine k t w g n f) (e : w'.heap[g]? = w.heap[g]?) : Mine k t w' g n f := by
  obtain ⟨c, hb, hn, hc⟩ := h
  exact ⟨c, e.trans hb, hn, hc⟩
theorem Mine.below {k : IntKind} {t : TypeId} {w w' : World} {g n : Nat} {f : Nat → Int} (h : Mine k t w g n f) (hb : Below w.heap.size w w') : Mine k t w' g n f := h.block (hb.block g h.lt)
theorem Mine.congr {k : IntKind} {t : TypeId} {w : World} {g n : Nat} {f f' : Nat → Int} (h : Mine k t w g n f) (e : ∀ j, j < n → f j = f' j) : Mine k t w g n f' := by
  obtain ⟨c, hb, hn, hc⟩ := h
  exact ⟨c, hb, hn, fun j hj => by rw [hc j hj, e j hj]⟩
theorem Mine.set {k : IntKind} {t : TypeId} {w : World} {g n : Nat} {f : Nat → Int} (h : Mine k t w g n f) (i : Nat) (x : Int) : Mine k t (w.setCell ⟨g, i, none⟩ (.int k x)) g n (fun j => if j = i then x else f j) := by
  obtain ⟨c, hb, hn, hc⟩ := h
  refine ⟨c.setIfInBounds i (.int k x), ?_, by simpa using hn, fun j hj => ?_⟩
  · simp [World.setCell, Array.getElem?_modify, hb]
  · rw [Array.getElem?_setIfInBounds]
    by_cases e : j = i
    · subst e
      simp [show j < c.size by omega]
    · rw [if_neg (fun h => e h.symm)]
      show c[j]? = some (.int k (if j = i then x else f j))
      rw [if_neg e]
      exact hc j hj
theorem Mine.rows {k : IntKind} {t : TypeId} {w : World} {g n : Nat} {f : Nat → Int} (h : Mine k t w g n f) : Rows' k w (some ⟨g, 0, none⟩) n f :=
  fun _ => ⟨g, 0, rfl, h.lt, fun j hj => by rw [Nat.zero_add]; exact h.cell hj⟩
theorem Mine.made (w : World) (k : IntKind) (t : TypeId) (n : Nat) : Mine k t (w.alloc (.cells (madeCells #[.int k 0] n) t)) w.heap.size n (fun _ => 0) := by
  obtain ⟨c, hb, hn, hc⟩ := World.rowIs_made w (.int k 0) n t
  exact ⟨c, hb, by omega, hc⟩
/-- what append has built -/
theorem Mine.own {k : IntKind} {t : TypeId} {w : World} {base n : Nat} {v : Value} {xs : List Int} (h : w.ownsRow base t 1 v n (xs.map (Value.int k))) (f : Nat → Int) (hf : ∀ j, j < n → f j = xs.getD j 0) (hv : v ≠ .slice none 0 0) :
    ∃ g cap, v = .slice (some ⟨g, 0, none⟩) n cap ∧ base ≤ g ∧ n = xs.length ∧ Mine k t w g n f := by
  obtain ⟨hl, h2⟩ := h
  rw [List.length_map, Nat.mul_one] at hl
  rcases h2 with ⟨h2, _⟩ | ⟨g, cap, cur, rfl, hg, hh, h1, _, hs, ht⟩
  · exact absurd h2 hv
  · refine ⟨g, cap, rfl, hg, hl.symm, cur, hh, by omega, fun j hj => ?_⟩
    rw [Nat.mul_one] at ht
    have e : (cur.toList.take n)[j]? = (xs.map (Value.int k))[j]? := by rw [ht]
    rw [List.getElem?_take] at e
    simp only [hj, if_true] at e
    rw [hf j hj, ← Array.getElem?_toList, e, List.getElem?_map, List.getD_eq_getElem?_getD, List.getElem?_eq_getElem (by omega)]
    rfl
/-- .. whether it is nil or not -/
theorem Rows'.own {k : IntKind} {t : TypeId} {w : World} {base n : Nat} {v : Value} {xs : List Int} (h : w.ownsRow base t 1 v n (xs.map (Value.int k))) :
    ∃ a cap, v = .slice a xs.length cap ∧ Rows' k w a xs.length (fun j => xs.getD j 0) := by
  by_cases hv : v = .slice none 0 0
  · subst hv
    obtain ⟨hl, h2⟩ := h
    rcases h2 with ⟨_, h2⟩ | ⟨g, cap, cur, h3, _⟩
    · subst h2
      rw [List.length_map] at hl
      have : xs.length = 0 := by omega
      rw [this]
      exact ⟨none, 0, rfl, fun h => by omega⟩
    · cases h3
  · obtain ⟨g, cap, rfl, _, hn, hm⟩ := Mine.own h (fun j => xs.getD j 0) (fun _ _ => rfl) hv
    subst hn
    exact ⟨_, cap, rfl, hm.rows⟩
theorem Rows'.drewN {k : IntKind} {w : World} {a : Option Addr} {n : Nat} {f : Nat → Int} (h : Rows' k w a n f) (q : Nat) : Rows' k (w.drewN q) a n f := h
theorem Mine.drewN {k : IntKind} {t : TypeId} {w : World} {g n : Nat} {f : Nat → Int} (h : Mine k t w g n f) (q : Nat) : Mine k t (w.drewN q) g n f := h
theorem below_drewN (w : World) (q : Nat) (B : Nat) : Below B w (w.drewN q) := ⟨rfl, rfl, rfl, Nat.le_refl _, fun _ _ => rfl⟩
/-- do two rows of n numbers hold the same? -/
def allEq (n : Nat) (f g : Nat → Int) : Bool := (List.range n).all (fun j => f j == g j)
theorem allEq_true {n : Nat} {f g : Nat → Int} (h : ∀ j, j < n → f j = g j) : allEq n f g = true := by
  simp only [allEq, List.all_eq_true, List.mem_range, beq_iff_eq]
  exact h
theorem allEq_false {n k : Nat} {f g : Nat → Int} (hk : k < n) (h : f k ≠ g k) : allEq n f g = false := by
  rw [Bool.eq_false_iff]
  intro hh
  simp only [allEq, List.all_eq_true, List.mem_range, beq_iff_eq] at hh
  exact h (hh k hk)
/-- nothing but block g may have turned -/
structure But (g : Nat) (w w' : World) : Prop where
  os : w'.os = w.os
  tape : w'.tape = w.tape
  output : w'.output = w.output
  size : w'.heap.size = w.heap.size
  block : ∀ k, k ≠ g → w'.heap[k]? = w.heap[k]?
theorem But.drewN (g : Nat) (w : World) (q : Nat) : But g w (w.drewN q) := ⟨rfl, rfl, rfl, rfl, fun _ _ => rfl⟩
theorem But.refl (g : Nat) (w : World) : But g w w := ⟨rfl, rfl, rfl, rfl, fun _ _ => rfl⟩
theorem But.trans {g : Nat} {a b c : World} (h : But g a b) (k : But g b c) : But g a c :=
  ⟨k.os.trans h.os, k.tape.trans h.tape, k.output.trans h.output, k.size.trans h.size, fun i hi => (k.block i hi).trans (h.block i hi)⟩
theorem But.setCell (g i : Nat) (v : Value) (w : World) : But g w (w.setCell ⟨g, i, none⟩ v) :=
  ⟨rfl, rfl, rfl, by simp [World.setCell], fun k hk => Below.heap_setCell _ _ _ _ hk⟩
theorem But.drew {g : Nat} {w w' : World} (h : But g w w') : But g w w'.drew := ⟨h.os, h.tape, h.output, h.size, h.block⟩
theorem But.below {g B : Nat} {w0 w w' : World} (h : But g w w') (hb : Below B w0 w) (hg : B ≤ g) : Below B w0 w' :=
  hb.trans ⟨h.os, h.tape, h.output, by rw [h.size]; exact Nat.le_refl _, fun k hk => h.block k (by omega)⟩
/-- up to k the new words, from there on the old ones -/
def upto (k : Nat) (f g : Nat → Int) : Nat → Int := fun j => if j < k then f j else g j
theorem upto_zero (f g : Nat → Int) : upto 0 f g = g := rfl
theorem Mine.step {k : IntKind} {t : TypeId} {w : World} {b n i : Nat} {f g : Nat → Int} (h : Mine k t w b n (upto i f g)) (x : Int) (hx : x = f i) : Mine k t (w.setCell ⟨b, i, none⟩ (.int k x)) b n (upto (i + 1) f g) := by
  refine (h.set i x).congr fun j hj => ?_
  unfold upto
  by_cases h1 : j = i
  · subst h1; simp [hx]
  · by_cases h2 : j < i
    · simp [h1, h2, show j < i + 1 by omega]
    · simp [h1, h2, show ¬ j < i + 1 by omega]
theorem Mine.whole {k : IntKind} {t : TypeId} {w : World} {b n : Nat} {f g : Nat → Int} (h : Mine k t w b n (upto n f g)) : Mine k t w b n f :=
  h.congr fun j hj => by unfold upto; rw [if_pos hj]
theorem Rows'.since {k : IntKind} {w w' : World} {a : Option Addr} {n : Nat} {f : Nat → Int} (h : Rows' k w a n f) (hb : Below w.heap.size w w') : Rows' k w' a n f := h.below hb
/-- one cell otherwise -/
def mid (i : Nat) (x : Int) (F : Nat → Int) : Nat → Int := fun j => if j = i then x else F j
theorem Mine.mid_set {k : IntKind} {t : TypeId} {w : World} {g n i : Nat} {x : Int} {F : Nat → Int} (h : Mine k t w g n (mid i x F)) (y : Int) : Mine k t (w.setCell ⟨g, i, none⟩ (.int k y)) g n (mid i y F) := by
  refine (h.set i y).congr fun j hj => ?_
  unfold mid
  split <;> simp_all
theorem Mine.mid_start {k : IntKind} {t : TypeId} {w : World} {g n i : Nat} {f : Nat → Int} (h : Mine k t w g n (upto i f (fun _ => 0))) : Mine k t w g n (mid i 0 (upto i f (fun _ => 0))) := by
  refine h.congr fun j hj => ?_
  unfold mid upto
  by_cases e : j = i
  · subst e; simp
  · simp [e]
theorem Mine.mid_end {k : IntKind} {t : TypeId} {w : World} {g n i : Nat} {f : Nat → Int} {x : Int} (h : Mine k t w g n (mid i x (upto i f (fun _ => 0)))) (hx : x = f i) : Mine k t w g n (upto (i + 1) f (fun _ => 0)) := by
  refine h.congr fun j hj => ?_
  unfold mid upto
  by_cases e : j = i
  · subst e; simp [hx]
  · by_cases e2 : j < i
    · simp [e, e2, show j < i + 1 by omega]
    · simp [e, e2, show ¬ j < i + 1 by omega]
theorem mid_at (i : Nat) (x : Int) (F : Nat → Int) : mid i x F i = x := if_pos rfl

end Go.Proofs.Ytncbkedfodaabaa
