/- What is told of slices of numbers: to read (Rows), and of one's own, to write (Mine). No program. -/
import Derived.WalkKit
import Derived.ProofKit
import Derived.Below
import Derived.Deep.OwnRows
namespace Go.Proofs.YtkaaokaiealbmaaDoor
open Go.RowKit
set_option linter.unusedVariables false

theorem hidden {p : Prop} (h : p) : Hid p := h

/-- v is a slice of n numbers f 0 .. of kind k, in w -/
def Rows' (k : IntKind) (w : World) (a : Option Addr) (n : Nat) (f : Nat → Int) : Prop :=
  0 < n → ∃ b off, a = some ⟨b, off, none⟩ ∧ b < w.heap.size ∧ ∀ j, j < n → w.cell? ⟨b, off + j, none⟩ = some (.int k (f j))

theorem Rows'.below {k : IntKind} {w w' : World} {a : Option Addr} {n : Nat} {f : Nat → Int} (h : Rows' k w a n f) (hb : Below w.heap.size w w') : Rows' k w' a n f := by
  intro hn
  obtain ⟨b, off, ha, hlt, hc⟩ := h hn
  exact ⟨b, off, ha, Nat.lt_of_lt_of_le hlt hb.size, fun j hj => (hb.cell (p := ⟨b, off + j, none⟩) hlt).trans (hc j hj)⟩
theorem Rows'.congr {k : IntKind} {w : World} {a : Option Addr} {n : Nat} {f g : Nat → Int} (h : Rows' k w a n f) (e : ∀ j, j < n → f j = g j) : Rows' k w a n g := by
  intro hn
  obtain ⟨b, off, ha, hlt, hc⟩ := h hn
  exact ⟨b, off, ha, hlt, fun j hj => by rw [hc j hj, e j hj]⟩

/-- block g is one's own: its first n cells are numbers, none is frozen -/
def Mine (k : IntKind) (t : TypeId) (w : World) (g n : Nat) (f : Nat → Int) : Prop :=
  ∃ c : Array Value, w.heap[g]? = some (.cells c t (0, 0)) ∧ n ≤ c.size ∧ ∀ j, j < n → c[j]? = some (.int k (f j))

theorem Mine.lt {k : IntKind} {t : TypeId} {w : World} {g n : Nat} {f : Nat → Int} (h : Mine k t w g n f) : g < w.heap.size := by
  obtain ⟨c, hb, _, _⟩ := h
  obtain ⟨hlt, _⟩ := Array.getElem?_eq_some_iff.1 hb
  exact hlt
theorem Mine.cell {k : IntKind} {t : TypeId} {w : World} {g n : Nat} {f : Nat → Int} (h : Mine k t w g n f) {j : Nat} (hj : j < n) : w.cell? ⟨g, j, none⟩ = some (.int k (f j)) := by
  obtain ⟨c, hb, _, hc⟩ := h
  simp [World.cell?, hb, hc j hj]
theorem Mine.frozen {k : IntKind} {t : TypeId} {w : World} {g n : Nat} {f : Nat → Int} (h : Mine k t w g n f) (j : Nat) : w.frozen? ⟨g, j, none⟩ = false := by
  obtain ⟨c, hb, _, _⟩ := h
  simp [World.frozen?, hb]
theorem Mine.block {k : IntKind} {t : TypeId} {w w' : World} {g n : Nat} {f : Nat → Int} (h : Mine k t w g n f) (e : w'.heap[g]? = w.heap[g]?) : Mine k t w' g n f := by
  obtain ⟨c, hb, hn, hc⟩ := h
  exact ⟨c, e.trans hb, hn, hc⟩
theorem Mine.below {k : IntKind} {t : TypeId} {w w' : World} {g n : Nat} {f : Nat → Int} (h : Mine k t w g n f) (hb : Below w.heap.size w w') : Mine k t w' g n f := h.block (hb.block g h.lt)
theorem Mine.congr {k : IntKind} {t : TypeId} {w : World} {g n : Nat} {f f' : Nat → Int} (h : Mine k t w g n f) (e : ∀ j, j < n → f j = f' j) : Mine k t w g n f' := by
  obtain ⟨c, hb, hn, hc⟩ := h
  exact ⟨c, hb, hn, fun j hj => by rw [hc j hj, e j hj]⟩
theorem Mine.set {k : IntKind} {t : TypeId} {w : World} {g n : Nat} {f : Nat → Int} (h : Mine k t w g n f) (i : Nat) (x : Int) : Mine k t (w.setCell ⟨g, i, none⟩ (.int k x)) g n (fun j => if j = i then x else f j) := by
  obtain ⟨c, hb, hn, hc⟩ := h
  refine ⟨c.setIfInBounds i (.int k x), ?_, by simpa using hn, fun j hj => ?_⟩
  · simp [World.setCell, Array.getElem?_modify, hb]
  · rw [Array.getElem?_setIfInBounds]
    by_cases e : j = i
    · subst e
      simp [show j < c.size by omega]
    · rw [if_neg (fun h => e h.symm)]
      show c[j]? = some (.int k (if j = i then x else f j))
      rw [if_neg e]
      exact hc j hj
theorem Mine.rows {k : IntKind} {t : TypeId} {w : World} {g n : Nat} {f : Nat → Int} (h : Mine k t w g n f) : Rows' k w (some ⟨g, 0, none⟩) n f :=
  fun _ => ⟨g, 0, rfl, h.lt, fun j hj => by rw [Nat.zero_add]; exact h.cell hj⟩
theorem Mine.made (w : World) (k : IntKind) (t : TypeId) (n : Nat) : Mine k t (w.alloc (.cells (madeCells #[.int k 0] n) t)) w.heap.size n (fun _ => 0) := by
  obtain ⟨c, hb, hn, hc⟩ := World.rowIs_made w (.int k 0) n t
  exact ⟨c, hb, by omega, hc⟩
/-- what append has built -/
theorem Mine.own {k : IntKind} {t : TypeId} {w : World} {base n : Nat} {v : Value} {xs : List Int} (h : w.ownsRow base t 1 v n (xs.map (Value.int k))) (f : Nat → Int) (hf : ∀ j, j < n → f j = xs.getD j 0) (hv : v ≠ .slice none 0 0) :
    ∃ g cap, v = .slice (some ⟨g, 0, none⟩) n cap ∧ base ≤ g ∧ n = xs.length ∧ Mine k t w g n f := by
  obtain ⟨hl, h2⟩ := h
  rw [List.length_map, Nat.mul_one] at hl
  rcases h2 with ⟨h2, _⟩ | ⟨g, cap, cur, rfl, hg, hh, h1, _, hs, ht⟩
  · exact absurd h2 hv
  · refine ⟨g, cap, rfl, hg, hl.symm, cur, hh, by omega, fun j hj => ?_⟩
    rw [Nat.mul_one] at ht
    have e : (cur.toList.take n)[j]? = (xs.map (Value.int k))[j]? := by rw [ht]
    rw [List.getElem?_take] at e
    simp only [hj, if_true] at e
    rw [hf j hj, ← Array.getElem?_toList, e, List.getElem?_map, List.getD_eq_getElem?_getD, List.getElem?_eq_getElem (by omega)]
    rfl
/-- .. whether it is nil or not -/
theorem Rows'.own {k : IntKind} {t : TypeId} {w : World} {base n : Nat} {v : Value} {xs : List Int} (h : w.ownsRow base t 1 v n (xs.map (Value.int k))) :
    ∃ a cap, v = .slice a xs.length cap ∧ Rows' k w a xs.length (fun j => xs.getD j 0) := by
  by_cases hv : v = .slice none 0 0
  · subst hv
    obtain ⟨hl, h2⟩ := h
    rcases h2 with ⟨_, h2⟩ | ⟨g, cap, cur, h3, _⟩
    · subst h2
      rw [List.length_map] at hl
      have : xs.length = 0 := by omega
      rw [this]
      exact ⟨none, 0, rfl, fun h => by omega⟩
    · cases h3
  · obtain ⟨g, cap, rfl, _, hn, hm⟩ := Mine.own h (fun j => xs.getD j 0) (fun _ _ => rfl) hv
    subst hn
    exact ⟨_, cap, rfl, hm.rows⟩

end Go.Proofs.YtkaaokaiealbmaaDoor
