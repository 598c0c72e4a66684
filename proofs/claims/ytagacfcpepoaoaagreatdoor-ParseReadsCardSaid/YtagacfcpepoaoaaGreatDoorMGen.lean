/- GenText, GenRow, GenCell, GenList, GenOwn, GenIn, GenVeil, GenHas, GenBytes, in one text. -/
import Derived.WalkKit
import Derived.ProofKit
import Derived.Below
import Derived.Deep.OwnRows
import Derived.Deep.Draws
import Derived.Laws.AppendOwnNone
import Derived.Test.YtagacfcpepoaoaaGreatDoorRows
import Derived.OpenShut
import Derived.Deep.QuietTactic
import Derived.BigQuiet
import Derived.Laws.IdiomStrings
namespace Go.Proofs.YtagacfcpepoaoaaGreatDoor
set_option linter.unusedVariables false

/-- the byte at a place -/
def bt (l : List UInt8) (k : Nat) : Nat := (l.getD k 0).toNat
theorem bt_lt {l : List UInt8} {k : Nat} (h : bt l k = 10) : k < l.length := by
  rcases Nat.lt_or_ge k l.length with g | g
  · exact g
  · unfold bt at h
    rw [List.getD_eq_getElem?_getD, List.getElem?_eq_none g] at h
    cases h
/-- the bytes between two places -/
def cut (l : List UInt8) (a b : Nat) : List UInt8 := (l.take b).drop a
theorem take_next {l : List UInt8} {k : Nat} (h : k < l.length) : l.take (k + 1) = l.take k ++ [l.getD k 0] := by
  rw [List.take_succ_eq_append_getElem h, List.getD_eq_getElem?_getD, List.getElem?_eq_getElem h]
  rfl
theorem cut_next {l : List UInt8} {a k : Nat} (ha : a ≤ k) (h : k < l.length) : cut l a (k + 1) = cut l a k ++ [l.getD k 0] := by
  unfold cut
  rw [take_next h, List.drop_append_of_le_length (by rw [List.length_take]; omega)]
theorem cut_none (l : List UInt8) (a : Nat) : cut l a a = [] := by
  unfold cut; rw [List.drop_eq_nil_iff, List.length_take]; omega
theorem cut_join {l : List UInt8} {a b : Nat} (h : a ≤ b) : l.take a ++ cut l a b = l.take b := by
  unfold cut
  rw [show l.take a = (l.take b).take a by rw [List.take_take, Nat.min_eq_left h], List.take_append_drop]
theorem cut_length {l : List UInt8} {a b : Nat} (h : b ≤ l.length) : (cut l a b).length = b - a := by
  unfold cut; rw [List.length_drop, List.length_take]; omega
/-- of a text's beginning -/
theorem bt_take {l : List UInt8} {n k : Nat} (h : k < n) : bt (l.take n) k = bt l k := by
  unfold bt
  rw [List.getD_eq_getElem?_getD, List.getD_eq_getElem?_getD, List.getElem?_take_of_lt h]
theorem length_of (s : ByteArray) : s.data.toList.length = s.size := Array.length_toList
theorem bt_of {s : ByteArray} {l : List UInt8} (h : l = s.data.toList) {k : Nat} (hk : k < s.size) : bt l k = s[k].toNat := by
  subst h
  unfold bt
  rw [List.getD_eq_getElem?_getD, List.getElem?_eq_getElem (show k < s.data.toList.length from (Array.length_toList (xs := s.data)).symm ▸ hk)]
  rfl
theorem extract_take (s : ByteArray) (k : Nat) : (s.extract 0 k).data.toList = s.data.toList.take k := by
  simp [ByteArray.data_extract]
theorem size_extract (s : ByteArray) (k : Nat) (h : k ≤ s.size) : (s.extract 0 k).size = k := by
  rw [ByteArray.size_extract]; omega
theorem extract_cut (s : ByteArray) (a b : Nat) : s.extract a b = ⟨(cut s.data.toList a b).toArray⟩ := by
  apply ByteArray.ext
  apply Array.toList_inj.1
  unfold cut
  rw [ByteArray.data_extract]
  simp [List.drop_take]
end Go.Proofs.YtagacfcpepoaoaaGreatDoor

namespace Go.Proofs.YtagacfcpepoaoaaGreatDoor
open Go.RowKit
set_option linter.unusedVariables false

theorem hidden {p : Prop} (h : p) : Hid p := h
/-- v is a slice of n numbers f 0 .. of kind k, in w -/
def Rows' (k : IntKind) (w : World) (a : Option Addr) (n : Nat) (f : Nat → Int) : Prop :=
  0 < n → ∃ b off, a = some ⟨b, off, none⟩ ∧ b < w.heap.size ∧ ∀ j, j < n → w.cell? ⟨b, off + j, none⟩ = some (.int k (f j))
theorem Rows'.below {k : IntKind} {w w' : World} {a : Option Addr} {n : Nat} {f : Nat → Int} (h : Rows' k w a n f) (hb : Below w.heap.size w w') : Rows' k w' a n f := by
  intro hn
  obtain ⟨b, off, ha, hlt, hc⟩ := h hn
  exact ⟨b, off, ha, Nat.lt_of_lt_of_le hlt hb.size, fun j hj => (hb.cell (p := ⟨b, off + j, none⟩) hlt).trans (hc j hj)⟩
theorem Rows'.congr {k : IntKind} {w : World} {a : Option Addr} {n : Nat} {f g : Nat → Int} (h : Rows' k w a n f) (e : ∀ j, j < n → f j = g j) : Rows' k w a n g := by
  intro hn
  obtain ⟨b, off, ha, hlt, hc⟩ := h hn
  exact ⟨b, off, ha, hlt, fun j hj => by rw [hc j hj, e j hj]⟩
/-- block g is one's own: its first n cells are numbers, none is frozen -/
def Mine (k : IntKind) (t : TypeId) (w : World) (g n : Nat) (f : Nat → Int) : Prop :=
  ∃ c : Array Value, w.heap[g]? = some (.cells c t (0, 0)) ∧ n ≤ c.size ∧ ∀ j, j < n → c[j]? = some (.int k (f j))
theorem Mine.lt {k : IntKind} {t : TypeId} {w : World} {g n : Nat} {f : Nat → Int} (h : Mine k t w g n f) : g < w.heap.size := by
  obtain ⟨c, hb, _, _⟩ := h
  obtain ⟨hlt, _⟩ := Array.getElem?_eq_some_iff.1 hb
  exact hlt
theorem Mine.cell {k : IntKind} {t : TypeId} {w : World} {g n : Nat} {f : Nat → Int} (h : Mine k t w g n f) {j : Nat} (hj : j < n) : w.cell? ⟨g, j, none⟩ = some (.int k (f j)) := by
  obtain ⟨c, hb, _, hc⟩ := h
  simp [World.cell?, hb, hc j hj]
theorem Mine.frozen {k : IntKind} {t : TypeId} {w : World} {g n : Nat} {f : Nat → Int} (h : Mine k t w g n f) (j : Nat) : w.frozen? ⟨g, j, none⟩ = false := by
  obtain ⟨c, hb, _, _⟩ := h
  simp [World.frozen?, hb]
theorem Mine.block {k : IntKind} {t : TypeId} {w w' : World} {g n : Nat} {f : Nat → Int} (h : Mine k t w g n f) (e : w'.heap[g]? = w.heap[g]?) : Mine k t w' g n f := by
  obtain ⟨c, hb, hn, hc⟩ := h
  exact ⟨c, e.trans hb, hn, hc⟩
theorem Mine.below {k : IntKind} {t : TypeId} {w w' : World} {g n : Nat} {f : Nat → Int} (h : Mine k t w g n f) (hb : Below w.heap.size w w') : Mine k t w' g n f := h.block (hb.block g h.lt)
theorem Mine.congr {k : IntKind} {t : TypeId} {w : World} {g n : Nat} {f f' : Nat → Int} (h : Mine k t w g n f) (e : ∀ j, j < n → f j = f' j) : Mine k t w g n f' := by
  obtain ⟨c, hb, hn, hc⟩ := h
  exact ⟨c, hb, hn, fun j hj => by rw [hc j hj, e j hj]⟩
theorem Mine.set {k : IntKind} {t : TypeId} {w : World} {g n : Nat} {f : Nat → Int} (h : Mine k t w g n f) (i : Nat) (x : Int) : Mine k t (w.setCell ⟨g, i, none⟩ (.int k x)) g n (fun j => if j = i then x else f j) := by
  obtain ⟨c, hb, hn, hc⟩ := h
  refine ⟨c.setIfInBounds i (.int k x), ?_, by simpa using hn, fun j hj => ?_⟩
  · simp [World.setCell, Array.getElem?_modify, hb]
  · rw [Array.getElem?_setIfInBounds]
    by_cases e : j = i
    · subst e
      simp [show j < c.size by omega]
    · rw [if_neg (fun h => e h.symm)]
      show c[j]? = some (.int k (if j = i then x else f j))
      rw [if_neg e]
      exact hc j hj
theorem Mine.rows {k : IntKind} {t : TypeId} {w : World} {g n : Nat} {f : Nat → Int} (h : Mine k t w g n f) : Rows' k w (some ⟨g, 0, none⟩) n f :=
  fun _ => ⟨g, 0, rfl, h.lt, fun j hj => by rw [Nat.zero_add]; exact h.cell hj⟩
theorem Mine.made (w : World) (k : IntKind) (t : TypeId) (n : Nat) : Mine k t (w.alloc (.cells (madeCells #[.int k 0] n) t)) w.heap.size n (fun _ => 0) := by
  obtain ⟨c, hb, hn, hc⟩ := World.rowIs_made w (.int k 0) n t
  exact ⟨c, hb, by omega, hc⟩
/-- what append has built -/
theorem Mine.own {k : IntKind} {t : TypeId} {w : World} {base n : Nat} {v : Value} {xs : List Int} (h : w.ownsRow base t 1 v n (xs.map (Value.int k))) (f : Nat → Int) (hf : ∀ j, j < n → f j = xs.getD j 0) (hv : v ≠ .slice none 0 0) :
    ∃ g cap, v = .slice (some ⟨g, 0, none⟩) n cap ∧ base ≤ g ∧ n = xs.length ∧ Mine k t w g n f := by
  obtain ⟨hl, h2⟩ := h
  rw [List.length_map, Nat.mul_one] at hl
  rcases h2 with ⟨h2, _⟩ | ⟨g, cap, cur, rfl, hg, hh, h1, _, hs, ht⟩
  · exact absurd h2 hv
  · refine ⟨g, cap, rfl, hg, hl.symm, cur, hh, by omega, fun j hj => ?_⟩
    rw [Nat.mul_one] at ht
    have e : (cur.toList.take n)[j]? = (xs.map (Value.int k))[j]? := by rw [ht]
    rw [List.getElem?_take] at e
    simp only [hj, if_true] at e
    rw [hf j hj, ← Array.getElem?_toList, e, List.getElem?_map, List.getD_eq_getElem?_getD, List.getElem?_eq_getElem (by omega)]
    rfl
/-- .. whether it is nil or not -/
theorem Rows'.own {k : IntKind} {t : TypeId} {w : World} {base n : Nat} {v : Value} {xs : List Int} (h : w.ownsRow base t 1 v n (xs.map (Value.int k))) :
    ∃ a cap, v = .slice a xs.length cap ∧ Rows' k w a xs.length (fun j => xs.getD j 0) := by
  by_cases hv : v = .slice none 0 0
  · subst hv
    obtain ⟨hl, h2⟩ := h
    rcases h2 with ⟨_, h2⟩ | ⟨g, cap, cur, h3, _⟩
    · subst h2
      rw [List.length_map] at hl
      have : xs.length = 0 := by omega
      rw [this]
      exact ⟨none, 0, rfl, fun h => by omega⟩
    · cases h3
  · obtain ⟨g, cap, rfl, _, hn, hm⟩ := Mine.own h (fun j => xs.getD j 0) (fun _ _ => rfl) hv
    subst hn
    exact ⟨_, cap, rfl, hm.rows⟩
theorem Rows'.drewN {k : IntKind} {w : World} {a : Option Addr} {n : Nat} {f : Nat → Int} (h : Rows' k w a n f) (q : Nat) : Rows' k (w.drewN q) a n f := h
theorem Mine.drewN {k : IntKind} {t : TypeId} {w : World} {g n : Nat} {f : Nat → Int} (h : Mine k t w g n f) (q : Nat) : Mine k t (w.drewN q) g n f := h
theorem below_drewN (w : World) (q : Nat) (B : Nat) : Below B w (w.drewN q) := ⟨rfl, rfl, rfl, Nat.le_refl _, fun _ _ => rfl⟩
/-- do two rows of n numbers hold the same? -/
def allEq (n : Nat) (f g : Nat → Int) : Bool := (List.range n).all (fun j => f j == g j)
theorem allEq_true {n : Nat} {f g : Nat → Int} (h : ∀ j, j < n → f j = g j) : allEq n f g = true := by
  simp only [allEq, List.all_eq_true, List.mem_range, beq_iff_eq]
  exact h
theorem allEq_false {n k : Nat} {f g : Nat → Int} (hk : k < n) (h : f k ≠ g k) : allEq n f g = false := by
  rw [Bool.eq_false_iff]
  intro hh
  simp only [allEq, List.all_eq_true, List.mem_range, beq_iff_eq] at hh
  exact h (hh k hk)
/-- nothing but block g may have turned -/
structure But (g : Nat) (w w' : World) : Prop where
  os : w'.os = w.os
  tape : w'.tape = w.tape
  output : w'.output = w.output
  size : w'.heap.size = w.heap.size
  block : ∀ k, k ≠ g → w'.heap[k]? = w.heap[k]?
theorem But.drewN (g : Nat) (w : World) (q : Nat) : But g w (w.drewN q) := ⟨rfl, rfl, rfl, rfl, fun _ _ => rfl⟩
theorem But.refl (g : Nat) (w : World) : But g w w := ⟨rfl, rfl, rfl, rfl, fun _ _ => rfl⟩
theorem But.trans {g : Nat} {a b c : World} (h : But g a b) (k : But g b c) : But g a c :=
  ⟨k.os.trans h.os, k.tape.trans h.tape, k.output.trans h.output, k.size.trans h.size, fun i hi => (k.block i hi).trans (h.block i hi)⟩
theorem But.setCell (g i : Nat) (v : Value) (w : World) : But g w (w.setCell ⟨g, i, none⟩ v) :=
  ⟨rfl, rfl, rfl, by simp [World.setCell], fun k hk => Below.heap_setCell _ _ _ _ hk⟩
theorem But.drew {g : Nat} {w w' : World} (h : But g w w') : But g w w'.drew := ⟨h.os, h.tape, h.output, h.size, h.block⟩
theorem But.below {g B : Nat} {w0 w w' : World} (h : But g w w') (hb : Below B w0 w) (hg : B ≤ g) : Below B w0 w' :=
  hb.trans ⟨h.os, h.tape, h.output, by rw [h.size]; exact Nat.le_refl _, fun k hk => h.block k (by omega)⟩
/-- up to k the new words, from there on the old ones -/
def upto (k : Nat) (f g : Nat → Int) : Nat → Int := fun j => if j < k then f j else g j
theorem upto_zero (f g : Nat → Int) : upto 0 f g = g := rfl
theorem Mine.step {k : IntKind} {t : TypeId} {w : World} {b n i : Nat} {f g : Nat → Int} (h : Mine k t w b n (upto i f g)) (x : Int) (hx : x = f i) : Mine k t (w.setCell ⟨b, i, none⟩ (.int k x)) b n (upto (i + 1) f g) := by
  refine (h.set i x).congr fun j hj => ?_
  unfold upto
  by_cases h1 : j = i
  · subst h1; simp [hx]
  · by_cases h2 : j < i
    · simp [h1, h2, show j < i + 1 by omega]
    · simp [h1, h2, show ¬ j < i + 1 by omega]
theorem Mine.whole {k : IntKind} {t : TypeId} {w : World} {b n : Nat} {f g : Nat → Int} (h : Mine k t w b n (upto n f g)) : Mine k t w b n f :=
  h.congr fun j hj => by unfold upto; rw [if_pos hj]
theorem Rows'.since {k : IntKind} {w w' : World} {a : Option Addr} {n : Nat} {f : Nat → Int} (h : Rows' k w a n f) (hb : Below w.heap.size w w') : Rows' k w' a n f := h.below hb
/-- one cell otherwise -/
def mid (i : Nat) (x : Int) (F : Nat → Int) : Nat → Int := fun j => if j = i then x else F j
theorem Mine.mid_set {k : IntKind} {t : TypeId} {w : World} {g n i : Nat} {x : Int} {F : Nat → Int} (h : Mine k t w g n (mid i x F)) (y : Int) : Mine k t (w.setCell ⟨g, i, none⟩ (.int k y)) g n (mid i y F) := by
  refine (h.set i y).congr fun j hj => ?_
  unfold mid
  split <;> simp_all
theorem Mine.mid_start {k : IntKind} {t : TypeId} {w : World} {g n i : Nat} {f : Nat → Int} (h : Mine k t w g n (upto i f (fun _ => 0))) : Mine k t w g n (mid i 0 (upto i f (fun _ => 0))) := by
  refine h.congr fun j hj => ?_
  unfold mid upto
  by_cases e : j = i
  · subst e; simp
  · simp [e]
theorem Mine.mid_end {k : IntKind} {t : TypeId} {w : World} {g n i : Nat} {f : Nat → Int} {x : Int} (h : Mine k t w g n (mid i x (upto i f (fun _ => 0)))) (hx : x = f i) : Mine k t w g n (upto (i + 1) f (fun _ => 0)) := by
  refine h.congr fun j hj => ?_
  unfold mid upto
  by_cases e : j = i
  · subst e; simp [hx]
  · by_cases e2 : j < i
    · simp [e, e2, show j < i + 1 by omega]
    · simp [e, e2, show ¬ j < i + 1 by omega]
theorem mid_at (i : Nat) (x : Int) (F : Nat → Int) : mid i x F i = x := if_pos rfl

end Go.Proofs.YtagacfcpepoaoaaGreatDoor

namespace Go.Proofs.YtagacfcpepoaoaaGreatDoor
open Go.RowKit
set_option linter.unusedVariables false

/-- block g holds the cells cs, none of them frozen -/
def Held (w : World) (g : Nat) (t : TypeId) (cs : Array Value) : Prop := w.heap[g]? = some (.cells cs t (0, 0))
theorem Held.lt {w : World} {g : Nat} {t : TypeId} {cs : Array Value} (h : Held w g t cs) : g < w.heap.size := by
  obtain ⟨hlt, _⟩ := Array.getElem?_eq_some_iff.1 h
  exact hlt
theorem Held.cell {w : World} {g : Nat} {t : TypeId} {cs : Array Value} (h : Held w g t cs) (j : Nat) : w.cell? ⟨g, j, none⟩ = cs[j]? := by
  unfold Held at h
  simp [World.cell?, h]
theorem Held.at_ {w : World} {g : Nat} {t : TypeId} {cs : Array Value} (h : Held w g t cs) {j : Nat} {v : Value} (hv : cs[j]? = some v) : w.cell? ⟨g, j, none⟩ = some v := (h.cell j).trans hv
theorem Held.frozen {w : World} {g : Nat} {t : TypeId} {cs : Array Value} (h : Held w g t cs) (j : Nat) : w.frozen? ⟨g, j, none⟩ = false := by
  unfold Held at h
  simp [World.frozen?, h]
theorem Held.block {w w' : World} {g : Nat} {t : TypeId} {cs : Array Value} (h : Held w g t cs) (e : w'.heap[g]? = w.heap[g]?) : Held w' g t cs := e.trans h
theorem Held.below {w w' : World} {g B : Nat} {t : TypeId} {cs : Array Value} (h : Held w g t cs) (hb : Below B w w') (hg : g < B) : Held w' g t cs := h.block (hb.block g hg)
theorem Held.since {w w' : World} {g : Nat} {t : TypeId} {cs : Array Value} (h : Held w g t cs) (hb : Below w.heap.size w w') : Held w' g t cs := h.below hb h.lt
theorem Held.drew {w : World} {g : Nat} {t : TypeId} {cs : Array Value} (h : Held w g t cs) : Held w.drew g t cs := h
theorem Held.drewN {w : World} {g : Nat} {t : TypeId} {cs : Array Value} (h : Held w g t cs) (q : Nat) : Held (w.drewN q) g t cs := h
theorem Held.new (w : World) (t : TypeId) (cs : Array Value) : Held (w.alloc (.cells cs t)) w.heap.size t cs := by
  show (w.heap.push _)[w.heap.size]? = _
  simp
theorem Held.alloc {w : World} {g : Nat} {t : TypeId} {cs : Array Value} (h : Held w g t cs) (o : Obj) : Held (w.alloc o) g t cs := by
  have hlt := h.lt
  show (w.heap.push o)[g]? = _
  rw [Array.getElem?_push, if_neg (by omega)]
  exact h
theorem Held.set {w : World} {g : Nat} {t : TypeId} {cs : Array Value} (h : Held w g t cs) (i : Nat) (v : Value) : Held (w.setCell ⟨g, i, none⟩ v) g t (cs.setIfInBounds i v) := by
  unfold Held at h ⊢
  simp [World.setCell, Array.getElem?_modify, h]
theorem Held.off {w : World} {g g' : Nat} {t : TypeId} {cs : Array Value} (h : Held w g t cs) (hne : g ≠ g') (i : Nat) (v : Value) : Held (w.setCell ⟨g', i, none⟩ v) g t cs :=
  h.block (by simp [World.setCell, Array.getElem?_modify, Ne.symm hne])
/-- v is a slice of n elements of type t, of sz cells each, made since w0: their cells are xs; nothing that was there has turned -/
def Vals (t : TypeId) (sz : Nat) (w0 w : World) (v : Value) (n : Nat) (xs : List Value) : Prop := w.ownsRow w0.heap.size t sz v n xs ∧ Below w0.heap.size w0 w
theorem Vals.below {t : TypeId} {sz n : Nat} {w0 w : World} {v : Value} {xs : List Value} (h : Vals t sz w0 w v n xs) : Below w0.heap.size w0 w := h.2
theorem Vals.drewN {t : TypeId} {sz n : Nat} {w0 w : World} {v : Value} {xs : List Value} (h : Vals t sz w0 w v n xs) (q : Nat) : Vals t sz w0 (w.drewN q) v n xs := ⟨h.1, ⟨h.2.os, h.2.tape, h.2.output, h.2.size, h.2.block⟩⟩
theorem Vals.start (t : TypeId) (sz : Nat) (w : World) (cs : Array Value) (hcs : cs = #[]) : Vals t sz w (w.alloc (.cells cs t)) (.slice (some ⟨w.heap.size, 0, none⟩) 0 0) 0 [] := by
  subst hcs
  exact ⟨⟨by simp, .inr ⟨w.heap.size, 0, #[], rfl, Nat.le_refl _, by show (w.heap.push _)[_]? = _; simp, Nat.le_refl _, by unfold maxLen; omega, by simp, by simp⟩⟩, (Below.refl _ _).alloc (Nat.le_refl _) _⟩
theorem Vals.nil (t : TypeId) (sz : Nat) (w : World) : Vals t sz w w (.slice none 0 0) 0 [] := ⟨⟨by simp, .inl ⟨rfl, rfl⟩⟩, Below.refl _ _⟩
theorem Vals.quiet {t : TypeId} {sz n : Nat} {w0 w w' : World} {v : Value} {xs : List Value} (h : Vals t sz w0 w v n xs) (hb : Below w.heap.size w w') : Vals t sz w0 w' v n xs := by
  refine ⟨⟨h.1.1, ?_⟩, h.2.trans (hb.mono h.2.size)⟩
  rcases h.1.2 with h1 | ⟨g, cap, cur, h1, h2, h3, r⟩
  · exact .inl h1
  · refine .inr ⟨g, cap, cur, h1, h2, ?_, r⟩
    obtain ⟨hlt, _⟩ := Array.getElem?_eq_some_iff.1 h3
    rw [hb.block g hlt]; exact h3
theorem Vals.widen {t : TypeId} {sz n : Nat} {w w1 w2 : World} {v : Value} {xs : List Value} (h : Vals t sz w1 w2 v n xs) (hb : Below w.heap.size w w1) : Vals t sz w w2 v n xs := by
  refine ⟨⟨h.1.1, ?_⟩, hb.trans (h.2.mono hb.size)⟩
  rcases h.1.2 with h1 | ⟨g, cap, cur, h1, h2, r⟩
  · exact .inl h1
  · exact .inr ⟨g, cap, cur, h1, Nat.le_trans hb.size h2, r⟩
/-- .. while blocks that were there ahead of it turn -/
theorem Vals.apart {t : TypeId} {sz n : Nat} {w w1 w2 w3 : World} {v : Value} {xs : List Value} (h : Vals t sz w1 w2 v n xs) (hb : Below w.heap.size w w1) (hk : ∀ k, w1.heap.size ≤ k → w3.heap[k]? = w2.heap[k]?) (h3 : Below w.heap.size w w3) : Vals t sz w w3 v n xs := by
  refine ⟨⟨h.1.1, ?_⟩, h3⟩
  rcases h.1.2 with h1 | ⟨g, cap, cur, h1, h2, h4, r⟩
  · exact .inl h1
  · exact .inr ⟨g, cap, cur, h1, Nat.le_trans hb.size h2, (hk g h2).trans h4, r⟩
/-- what such a slice is: its length, and the cells behind its address -/
theorem Vals.shape {t : TypeId} {sz n : Nat} {w0 w : World} {v : Value} {xs : List Value} (h : Vals t sz w0 w v n xs) :
    ∃ a cap, v = .slice a n cap ∧ n ≤ cap ∧ (0 < n → ∃ g, a = some ⟨g, 0, none⟩ ∧ g < w.heap.size ∧ ∀ j u, xs[j]? = some u → w.cell? ⟨g, j, none⟩ = some u) := by
  rcases h.1.2 with ⟨rfl, rfl⟩ | ⟨g, cap, cur, rfl, h2, h3, h4, h5, h6, h7⟩
  · exact ⟨none, 0, rfl, Nat.le_refl _, fun h => by omega⟩
  · refine ⟨_, cap, rfl, h4, fun _ => ⟨g, rfl, (Array.getElem?_eq_some_iff.1 h3).1, fun j u hj => ?_⟩⟩
    rw [← h7] at hj
    have hj' : j < n * sz := by
      obtain ⟨hl, _⟩ := List.getElem?_eq_some_iff.1 hj
      rw [List.length_take] at hl
      omega
    rw [List.getElem?_take_of_lt hj', Array.getElem?_toList] at hj
    simp [World.cell?, h3, hj]
/-- append of one element whose cells lie in a new block -/
theorem wpList_push_vals {P : Program} {ops : Array Oper} {rest : List Oper} {o : Oper} {a : Act} {Q : Exit → Act → World → Prop} (hgd : o.guard = none) (s x : Operand) (T t : TypeId) (z : Value) (sz bytes : Nat)
    (ht : P.underlying T = some (.slice t)) (hinfo : (P.info? t).map (fun i => (i.zero, i.size, i.bytes)) = some (some z, sz, bytes)) (hzs : z.cells.size = sz) (hsz : 0 < sz) (hby : bytes ≤ 1000)
    (ho : o.op = .call { callee := .builtin .append, args := #[s, x], argTypes := #[T, T] })
    (w0 w : World) (v : Value) (n : Nat) (xs news : List Value) (cs : Array Value) (hs : a.eval s = v) (hx : a.eval x = .slice (some ⟨w.heap.size, 0, none⟩) 1 1) (hb : Vals t sz w0 w v n xs) (hlen : n ≤ 10000000)
    (hcs : cs = news.toArray) (hl : news.length = sz) (h1 : ∀ u ∈ news, u.oneCell' = true)
    (h : ∀ v' w', Vals t sz w0 w' v' (n + 1) (xs ++ news) → wpList P ops Q rest (a.put o.dst v') w') :
    wpList P ops Q (o :: rest) a (w.alloc (.cells cs t)) := by
  obtain ⟨i0, hi, hz0, hz1, hz2⟩ := info_parts hinfo
  refine wpList_append_own _ hgd s x T ho w0.heap.size t i0 z sz bytes ht hi hz0 hz1 hz2 hzs hsz v n xs hs (hb.1.alloc _) ⟨w.heap.size, 0, none⟩ 1 1 news hx (by omega) ?_ h1 ?_ ?_ ?_ ?_
  · intro j u hj
    have hc := (Held.new w t cs).cell j
    have he : (⟨w.heap.size, 0, none⟩ : Addr).add j = ⟨w.heap.size, j, none⟩ := by
      simp only [Addr.add]
      split
      · rename_i h0; rw [h0]
      · rw [Nat.zero_add]
    rw [he, hc, hcs]
    simpa using hj
  · unfold maxLen; omega
  · have : (n + 1) * bytes ≤ 10000001 * 1000 := Nat.mul_le_mul (by omega) hby
    omega
  · have := hb.2.size; simp; omega
  · intro v' w' hown hgrow _
    refine h v' w' ⟨hown, ?_⟩
    refine ((hb.2.alloc hb.2.size _)).grown hgrow (by have := hb.2.size; simp; omega) ?_
    intro k hk
    exact (hb.1.lt k hk).1
/-- the block of such a slice was there -/
theorem Vals.lt {t : TypeId} {sz n : Nat} {w0 w : World} {v : Value} {xs : List Value} (h : Vals t sz w0 w v n xs) (k : Nat) (hk : v.ownBlock = some k) : k < w.heap.size := (h.1.lt k hk).2
/-- append of one element whose cells lie in a new block: all blocks but the slice's own stay -/
theorem wpList_push_kept {P : Program} {ops : Array Oper} {rest : List Oper} {o : Oper} {a : Act} {Q : Exit → Act → World → Prop} (hgd : o.guard = none) (s x : Operand) (T t : TypeId) (z : Value) (sz bytes : Nat)
    (ht : P.underlying T = some (.slice t)) (hinfo : (P.info? t).map (fun i => (i.zero, i.size, i.bytes)) = some (some z, sz, bytes)) (hzs : z.cells.size = sz) (hsz : 0 < sz) (hby : bytes ≤ 1000)
    (ho : o.op = .call { callee := .builtin .append, args := #[s, x], argTypes := #[T, T] })
    (w0 w : World) (v : Value) (n : Nat) (xs news : List Value) (cs : Array Value) (hs : a.eval s = v) (hx : a.eval x = .slice (some ⟨w.heap.size, 0, none⟩) 1 1) (hb : Vals t sz w0 w v n xs) (hlen : n ≤ 10000000)
    (hcs : cs = news.toArray) (hl : news.length = sz) (h1 : ∀ u ∈ news, u.oneCell' = true)
    (h : ∀ v' w', Vals t sz w0 w' v' (n + 1) (xs ++ news) → (∀ k, k < w.heap.size → v.ownBlock ≠ some k → w'.heap[k]? = w.heap[k]?) → wpList P ops Q rest (a.put o.dst v') w') :
    wpList P ops Q (o :: rest) a (w.alloc (.cells cs t)) := by
  obtain ⟨i0, hi, hz0, hz1, hz2⟩ := info_parts hinfo
  refine wpList_append_own _ hgd s x T ho w0.heap.size t i0 z sz bytes ht hi hz0 hz1 hz2 hzs hsz v n xs hs (hb.1.alloc _) ⟨w.heap.size, 0, none⟩ 1 1 news hx (by omega) ?_ h1 ?_ ?_ ?_ ?_
  · intro j u hj
    have hc := (Held.new w t cs).cell j
    have he : (⟨w.heap.size, 0, none⟩ : Addr).add j = ⟨w.heap.size, j, none⟩ := by
      simp only [Addr.add]
      split
      · rename_i h0; rw [h0]
      · rw [Nat.zero_add]
    rw [he, hc, hcs]
    simpa using hj
  · unfold maxLen; omega
  · have : (n + 1) * bytes ≤ 10000001 * 1000 := Nat.mul_le_mul (by omega) hby
    omega
  · have := hb.2.size; simp; omega
  · intro v' w' hown hgrow _
    have hkeep : ∀ k, k < w.heap.size → v.ownBlock ≠ some k → w'.heap[k]? = w.heap[k]? := by
      intro k hk hne
      rw [hgrow.block k (by simp; omega) (fun e => hne e.symm)]
      show (w.heap.push _)[k]? = _
      rw [Array.getElem?_push, if_neg (by omega)]
    refine h v' w' ⟨hown, ?_⟩ hkeep
    refine ((hb.2.alloc hb.2.size _)).grown hgrow (by have := hb.2.size; simp; omega) ?_
    intro k hk
    exact (hb.1.lt k hk).1
end Go.Proofs.YtagacfcpepoaoaaGreatDoor

namespace Go.Proofs.YtagacfcpepoaoaaGreatDoor
open Go.RowKit
set_option linter.unusedVariables false

theorem infoI : (Tryz.prog.info? 3).map (fun i => (i.zero, i.size, i.bytes)) = some (some (.int .i64 0), 1, 8) := by kernel_rfl
/-- v is a slice of one's own with the numbers xs, made since w0, and nothing that was there has turned -/
def Built (w0 w : World) (v : Value) (xs : List Int) : Prop :=
  w.ownsRow w0.heap.size 3 1 v xs.length (xs.map (Value.int .i64)) ∧ Below w0.heap.size w0 w
theorem Built.below {w0 w : World} {v : Value} {xs : List Int} (h : Built w0 w v xs) : Below w0.heap.size w0 w := h.2
theorem Built.rows {w0 w : World} {v : Value} {xs : List Int} (h : Built w0 w v xs) : ∃ a cap, v = .slice a xs.length cap ∧ Rows' .i64 w a xs.length (fun j => xs.getD j 0) := Rows'.own h.1
theorem Built.drewN {w0 w : World} {v : Value} {xs : List Int} (h : Built w0 w v xs) (q : Nat) : Built w0 (w.drewN q) v xs := ⟨h.1, ⟨h.2.os, h.2.tape, h.2.output, h.2.size, h.2.block⟩⟩
theorem Built.start (w : World) (h : Array Value) (hh : h = #[]) : Built w (w.alloc (.cells h 3)) (.slice (some ⟨w.heap.size, 0, none⟩) 0 0) [] := by
  subst hh
  exact ⟨⟨rfl, .inr ⟨w.heap.size, 0, #[], rfl, Nat.le_refl _, by show (w.heap.push _)[_]? = _; simp, Nat.le_refl _, by unfold maxLen; omega, rfl, rfl⟩⟩, (Below.refl _ _).alloc (Nat.le_refl _) _⟩
theorem wpList_push {ops : Array Oper} {rest : List Oper} {o : Oper} {a : Act} {Q : Exit → Act → World → Prop} (hgd : o.guard = none) (s x : Operand)
    (ho : o.op = .call { callee := .builtin .append, args := #[s, x], argTypes := #[45, 45] })
    (w0 w : World) (v : Value) (xs : List Int) (z : Int) (hs : a.eval s = v) (hx : a.eval x = .slice (some ⟨w.heap.size, 0, none⟩) 1 1) (hb : Built w0 w v xs) (hlen : xs.length ≤ 10000000)
    (h : ∀ v' w', Built w0 w' v' (xs ++ [z]) → wpList Tryz.prog ops Q rest (a.put o.dst v') w') :
    wpList Tryz.prog ops Q (o :: rest) a (w.alloc (.cells #[.int .i64 z] 3)) := by
  obtain ⟨i0, hi, hz0, hz1, hz2⟩ := info_parts infoI
  refine wpList_append_own _ hgd s x 45 ho w0.heap.size 3 i0 (.int .i64 0) 1 8 Tryz.underlying45 hi hz0 hz1 hz2 rfl (by decide) v xs.length (xs.map (Value.int .i64)) hs (hb.1.alloc _) ⟨w.heap.size, 0, none⟩ 1 1 [.int .i64 z] hx rfl ?_ ?_ ?_ ?_ ?_ ?_
  · intro j u hj
    match j, hj with
    | 0, hj => simp at hj; subst hj; simp [Addr.add]
  · intro u hu; simp at hu; subst hu; rfl
  · unfold maxLen; omega
  · omega
  · have := hb.2.size; simp; omega
  · intro v' w' hown hgrow _
    refine h v' w' ⟨by rw [List.length_append, List.map_append]; exact hown, ?_⟩
    refine ((hb.2.alloc hb.2.size _)).grown hgrow (by have := hb.2.size; simp; omega) ?_
    intro k hk
    exact (hb.1.lt k hk).1
theorem wpList_room {ops : Array Oper} {rest : List Oper} {o : Oper} {a : Act} {Q : Exit → Act → World → Prop} (w : World) (hg : o.guard = none) (l c : Operand) (hop : o.op = Op.makeSlice 45 l c)
    (n : Nat) (hl : a.eval l = .int .i64 0) (hc : a.eval c = .int .i64 (n : Int)) (hn : n ≤ 10000000)
    (hK : ∀ w', Built w w' (.slice (some ⟨w.heap.size, 0, none⟩) 0 n) [] → wpList Tryz.prog ops Q rest (a.put o.dst (.slice (some ⟨w.heap.size, 0, none⟩) 0 n)) w') :
    wpList Tryz.prog ops Q (o :: rest) a w := by
  obtain ⟨i0, hi, hz0, hz1, hz2⟩ := info_parts infoI
  refine wpList_make_own w hg l c 45 hop w.heap.size 3 i0 (.int .i64 0) 1 Tryz.underlying45 hi hz0 hz1 .i64 .i64 n n hl hc rfl (by rw [hz2]; omega) (by unfold maxLen; omega) (Nat.le_refl _) ?_
  intro w' hown hgrow
  exact hK w' ⟨hown, (Below.refl _ _).grown hgrow (Nat.le_refl _) (fun k hk => by cases hk)⟩
theorem append_types {P : Program} (t t' e e' ty : TypeId) (i : TypeInfo) (ht : P.underlying t = some (.slice e)) (ht' : P.underlying t' = some (.slice e')) (hi : P.info? e = some i) (b : Option Addr) (l c : Nat) (x : Value) (w : World) :
    (Builtin.append_ #[t, t'] ty #[.slice b l c, x]).run P w = (Builtin.append_ #[t, t] ty #[.slice b l c, x]).run P w := by
  simp [Builtin.append_, run_underlying ht, run_underlying ht', sizeOf, typeInfo, hi]
theorem own_shape {w : World} {base n : Nat} {e : TypeId} {v : Value} {xs : List Value} (h : w.ownsRow base e 1 v n xs) : ∃ b l c, v = .slice b l c := by
  rcases h.2 with ⟨rfl, _⟩ | ⟨g, cap, cur, rfl, _⟩
  · exact ⟨_, _, _, rfl⟩
  · exact ⟨_, _, _, rfl⟩
/-- the cells that Rows' tells -/
def cellsOf (k : IntKind) (n : Nat) (f : Nat → Int) : List Int := (List.range n).map f
theorem cellsOf_length (k : IntKind) (n : Nat) (f : Nat → Int) : (cellsOf k n f).length = n := by simp [cellsOf]
theorem cellsOf_get {k : IntKind} {n j : Nat} {f : Nat → Int} (h : j < n) : (cellsOf k n f).getD j 0 = f j := by
  simp [cellsOf, List.getD_eq_getElem?_getD, h]
/-- what append(Set{}, x...) makes of a slice x of n numbers -/
theorem wpList_whole {ops : Array Oper} {rest : List Oper} {o : Oper} {a : Act} {Q : Exit → Act → World → Prop} (hgd : o.guard = none) (s x : Operand) (t t' e : TypeId) (k : IntKind)
    (ht : Tryz.prog.underlying t = some (.slice e)) (ht' : Tryz.prog.underlying t' = some (.slice e)) (hinfo : (Tryz.prog.info? e).map (fun i => (i.zero, i.size, i.bytes)) = some (some (.int k 0), 1, 8))
    (ho : o.op = .call { callee := .builtin .append, args := #[s, x], argTypes := #[t, t'] })
    (w0 w : World) (v : Value) (m : Nat) (xs : List Int) (ad : Option Addr) (n c : Nat) (f : Nat → Int) (hs : a.eval s = v) (hx : a.eval x = .slice ad n c)
    (hown : w.ownsRow w0.heap.size e 1 v m (xs.map (Value.int k))) (hbel : Below w0.heap.size w0 w) (hr : Rows' k w ad n f) (hc : ad = none → n = 0 ∧ c = 0) (hn : n ≤ 1000000) (hm : m ≤ 1000000) (hv : v ≠ .slice none 0 0)
    (h : ∀ v' w', w'.ownsRow w0.heap.size e 1 v' (m + n) ((xs ++ cellsOf k n f).map (Value.int k)) → Below w0.heap.size w0 w' → v' ≠ .slice none 0 0 → wpList Tryz.prog ops Q rest (a.put o.dst v') w') :
    wpList Tryz.prog ops Q (o :: rest) a w := by
  obtain ⟨i0, hi, hz0, hz1, hz2⟩ := info_parts hinfo
  have key : ∃ v' w', (Builtin.append_ #[t, t'] o.type #[v, .slice ad n c]).run Tryz.prog w = .ok v' w' ∧ w'.ownsRow w0.heap.size e 1 v' (m + n) ((xs ++ cellsOf k n f).map (Value.int k)) ∧ Below w0.heap.size w0 w' ∧ v' ≠ .slice none 0 0 := by
    have hshape : (Builtin.append_ #[t, t'] o.type #[v, .slice ad n c]).run Tryz.prog w = (Builtin.append_ #[t, t] o.type #[v, .slice ad n c]).run Tryz.prog w := by
      obtain ⟨b, l, c', rfl⟩ := own_shape hown
      exact append_types t t' e e o.type i0 ht ht' hi b l c' _ w
    rw [hshape]
    cases ad with
    | none =>
      obtain ⟨rfl, rfl⟩ := hc rfl
      refine ⟨v, w, run_append_owned_none (P := Tryz.prog) w w0.heap.size t o.type e i0 1 ht hi v m _ hown, ?_, hbel, hv⟩
      simpa [cellsOf] using hown
    | some ad =>
      have hcells : ∀ j u, ((cellsOf k n f).map (Value.int k))[j]? = some u → w.cell? (ad.add j) = some u := by
        intro j u hj
        rw [List.getElem?_map] at hj
        rcases Nat.lt_or_ge j n with hjn | hjn
        · obtain ⟨b, off, hab, hlt, hcell⟩ := hr (by omega)
          cases hab
          have hg := cellsOf_get (k := k) (f := f) hjn
          rw [List.getD_eq_getElem?_getD, List.getElem?_eq_getElem (by rw [cellsOf_length]; exact hjn)] at hg
          rw [List.getElem?_eq_getElem (by rw [cellsOf_length]; exact hjn)] at hj
          simp at hj hg
          subst hj
          rw [hg]
          have hcj := hcell j hjn
          simp only [Addr.add]
          split
          · rename_i h0; rw [h0, Nat.add_zero] at hcj; rw [h0]; exact hcj
          · exact hcj
        · rw [List.getElem?_eq_none (by rw [cellsOf_length]; exact hjn)] at hj
          cases hj
      obtain ⟨v', w', hr1, h2, h3, h4⟩ := run_append_own (P := Tryz.prog) w w0.heap.size t o.type e i0 (.int k 0) 1 8 ht hi hz0 hz1 hz2 rfl (by decide) v m _ hown ad n c ((cellsOf k n f).map (Value.int k))
        (by rw [List.length_map, cellsOf_length, Nat.mul_one]) hcells (ints_oneCell _ _) (by unfold maxLen; omega) (by omega) hbel.size
      refine ⟨v', w', hr1, by rw [List.map_append]; exact h2, ?_, fun e => hv (h4.1 e).1⟩
      exact hbel.grown h3 hbel.size (fun j hj => (hown.lt j hj).1)
  obtain ⟨v', w', hrun, h2, h3, h4⟩ := key
  refine wpList_plain hgd fun K hK => ?_
  unfold Oper.wp
  simp [execOp, ho, resolve, invoke, builtin, hs, hx, hrun, Result.andThen]
  exact hK _ _ (h v' w' h2 h3 h4)
theorem own_start (w : World) (t : TypeId) : (w.alloc (.cells #[] t)).ownsRow w.heap.size t 1 (.slice (some ⟨w.heap.size, 0, none⟩) 0 0) 0 [] :=
  ⟨rfl, .inr ⟨w.heap.size, 0, #[], rfl, Nat.le_refl _, by show (w.heap.push _)[_]? = _; simp, Nat.le_refl _, by unfold maxLen; omega, rfl, rfl⟩⟩
theorem below_start (w : World) (o : Obj) : Below w.heap.size w (w.alloc o) := (Below.refl _ _).alloc (Nat.le_refl _) _
theorem Built.rows' {w0 w : World} {v : Value} {xs : List Int} (h : Built w0 w v xs) : ∃ a cap, v = .slice a xs.length cap ∧ Rows' .i64 w a xs.length (fun j => xs.getD j 0) ∧ (a = none → xs.length = 0 ∧ cap = 0) := by
  obtain ⟨a, cap, rfl, hr⟩ := h.rows
  refine ⟨a, cap, rfl, hr, ?_⟩
  rintro rfl
  rcases h.1.2 with ⟨h1, h2⟩ | ⟨g, cap', cur, h1, _⟩
  · injection h1 with _ h3 h4; exact ⟨h3, h4⟩
  · injection h1 with h2; cases h2
theorem Built.widen {w w1 w2 : World} {v : Value} {xs : List Int} (h : Built w1 w2 v xs) (hb : Below w.heap.size w w1) : Built w w2 v xs := by
  refine ⟨⟨h.1.1, ?_⟩, hb.trans (h.2.mono hb.size)⟩
  rcases h.1.2 with h1 | ⟨g, cap, cur, h1, h2, r⟩
  · exact .inl h1
  · exact .inr ⟨g, cap, cur, h1, Nat.le_trans hb.size h2, r⟩
theorem Built.quiet {w0 w w' : World} {v : Value} {xs : List Int} (h : Built w0 w v xs) (hb : Below w.heap.size w w') : Built w0 w' v xs := by
  refine ⟨⟨h.1.1, ?_⟩, h.2.trans (hb.mono h.2.size)⟩
  rcases h.1.2 with h1 | ⟨g, cap, cur, h1, h2, h3, r⟩
  · exact .inl h1
  · refine .inr ⟨g, cap, cur, h1, h2, ?_, r⟩
    have hlt : g < w.heap.size := by
      obtain ⟨hlt, _⟩ := Array.getElem?_eq_some_iff.1 h3
      exact hlt
    rw [hb.block g hlt]; exact h3
/-- which of the numbers f 0 .. a test keeps, up to k -/
def keep (t : Int → Bool) (f : Nat → Int) : Nat → List Int
  | 0 => []
  | k + 1 => keep t f k ++ (if t (f k) then [f k] else [])
theorem keep_length (t : Int → Bool) (f : Nat → Int) : ∀ k, (keep t f k).length ≤ k
  | 0 => Nat.le_refl _
  | k + 1 => by
    have := keep_length t f k
    show (keep t f k ++ (if t (f k) then [f k] else [])).length ≤ k + 1
    rw [List.length_append]
    split <;> simp <;> omega
theorem mem_keep {t : Int → Bool} {f : Nat → Int} {x : Int} : ∀ k, x ∈ keep t f k ↔ (∃ j, j < k ∧ f j = x) ∧ t x = true
  | 0 => by simp [keep]
  | k + 1 => by
    show x ∈ keep t f k ++ (if t (f k) then [f k] else []) ↔ _
    rw [List.mem_append, mem_keep k]
    constructor
    · rintro (⟨⟨j, hj, he⟩, ht⟩ | h)
      · exact ⟨⟨j, by omega, he⟩, ht⟩
      · by_cases hk : t (f k) = true
        · simp [hk] at h; subst h; exact ⟨⟨k, by omega, rfl⟩, hk⟩
        · simp [hk] at h
    · rintro ⟨⟨j, hj, he⟩, ht⟩
      rcases Nat.lt_or_ge j k with h | h
      · exact .inl ⟨⟨j, h, he⟩, ht⟩
      · have : j = k := by omega
        subst this
        right
        rw [he, ht]; simp
/-- is x among the first n? -/
def isIn (n : Nat) (f : Nat → Int) (x : Int) : Bool := decide (∃ j, j < n ∧ f j = x)
theorem Built.shape {w0 w : World} {v : Value} {xs : List Int} (h : Built w0 w v xs) : ∃ a cap, v = .slice a xs.length cap ∧ Rows' .i64 w a xs.length (fun j => xs.getD j 0) ∧ (a = none → xs.length = 0 ∧ cap = 0) ∧ xs.length ≤ cap := by
  obtain ⟨a, cap, rfl, hr, hn⟩ := h.rows'
  refine ⟨a, cap, rfl, hr, hn, ?_⟩
  rcases h.1.2 with ⟨h1, h2⟩ | ⟨g, cap', cur, h1, _, _, h2, _⟩
  · omega
  · injection h1 with _ _ h4; omega
/-- how many of the first ones are below x -/
def pre : List Int → Int → Nat
  | [], _ => 0
  | y :: ys, x => if y < x then pre ys x + 1 else 0
theorem pre_le : ∀ xs x, pre xs x ≤ xs.length
  | [], _ => Nat.le_refl _
  | y :: ys, x => by have := pre_le ys x; unfold pre; split <;> simp <;> omega
theorem pre_lt : ∀ (xs : List Int) (x : Int) (j : Nat), j < pre xs x → j < xs.length ∧ xs.getD j 0 < x
  | [], _, j, h => by simp [pre] at h
  | y :: ys, x, j, h => by
    unfold pre at h
    by_cases hy : y < x
    · rw [if_pos hy] at h
      rcases j with _ | j
      · exact ⟨by simp, by simpa using hy⟩
      · have := pre_lt ys x j (by omega)
        exact ⟨by simp; omega, by simpa using this.2⟩
    · rw [if_neg hy] at h; omega
theorem pre_stop : ∀ (xs : List Int) (x : Int), ¬ (pre xs x < xs.length ∧ xs.getD (pre xs x) 0 < x)
  | [], _ => by simp [pre]
  | y :: ys, x => by
    unfold pre
    by_cases hy : y < x
    · rw [if_pos hy]
      have := pre_stop ys x
      simpa using this
    · rw [if_neg hy]
      simp; omega
/-- x put where it belongs -/
def ins (xs : List Int) (x : Int) : List Int := xs.take (pre xs x) ++ x :: xs.drop (pre xs x)
theorem ins_cons (y : Int) (ys : List Int) (x : Int) : ins (y :: ys) x = if y < x then y :: ins ys x else x :: y :: ys := by
  unfold ins
  by_cases hy : y < x
  · rw [if_pos hy, show pre (y :: ys) x = pre ys x + 1 by simp [pre, hy]]; rfl
  · rw [if_neg hy, show pre (y :: ys) x = 0 by simp [pre, hy]]; rfl
theorem mem_ins {xs : List Int} {x y : Int} : y ∈ ins xs x ↔ y = x ∨ y ∈ xs := by
  unfold ins
  rw [List.mem_append, List.mem_cons]
  have h : y ∈ xs ↔ y ∈ xs.take (pre xs x) ∨ y ∈ xs.drop (pre xs x) := by rw [← List.mem_append, List.take_append_drop]
  rw [h]
  constructor
  · rintro (h | h | h)
    · exact .inr (.inl h)
    · exact .inl h
    · exact .inr (.inr h)
  · rintro (h | h | h)
    · exact .inr (.inl h)
    · exact .inl h
    · exact .inr (.inr h)
theorem ins_sorted : ∀ (xs : List Int) (x : Int), xs.Pairwise (· < ·) → ¬ x ∈ xs → (ins xs x).Pairwise (· < ·)
  | [], x, _, _ => by simp [ins, pre]
  | y :: ys, x, h, hx => by
    rw [ins_cons]
    rw [List.pairwise_cons] at h
    have hne : x ≠ y := fun e => hx (by rw [e]; simp)
    by_cases hy : y < x
    · rw [if_pos hy, List.pairwise_cons]
      refine ⟨?_, ins_sorted ys x h.2 (fun hm => hx (List.mem_cons_of_mem _ hm))⟩
      intro z hz
      rcases mem_ins.1 hz with rfl | hz
      · exact hy
      · exact h.1 z hz
    · rw [if_neg hy, List.pairwise_cons, List.pairwise_cons]
      refine ⟨?_, h⟩
      intro z hz
      rcases List.mem_cons.1 hz with rfl | hz
      · omega
      · have := h.1 z hz; omega
theorem ins_length (xs : List Int) (x : Int) : (ins xs x).length = xs.length + 1 := by
  have := pre_le xs x
  unfold ins
  rw [List.length_append, List.length_take, List.length_cons, List.length_drop]
  omega
/-- the first k numbers, in order, each once -/
def srt (f : Nat → Int) : Nat → List Int
  | 0 => []
  | k + 1 => if f k ∈ srt f k then srt f k else ins (srt f k) (f k)
theorem srt_length (f : Nat → Int) : ∀ k, (srt f k).length ≤ k
  | 0 => Nat.le_refl _
  | k + 1 => by
    have := srt_length f k
    unfold srt
    split
    · omega
    · rw [ins_length]; omega
theorem mem_srt {f : Nat → Int} {y : Int} : ∀ k, y ∈ srt f k ↔ ∃ j, j < k ∧ f j = y
  | 0 => by simp [srt]
  | k + 1 => by
    unfold srt
    constructor
    · intro h
      split at h
      · obtain ⟨j, hj, he⟩ := (mem_srt k).1 h
        exact ⟨j, by omega, he⟩
      · rcases mem_ins.1 h with h | h
        · exact ⟨k, by omega, h.symm⟩
        · obtain ⟨j, hj, he⟩ := (mem_srt k).1 h
          exact ⟨j, by omega, he⟩
    · rintro ⟨j, hj, he⟩
      rcases Nat.lt_or_ge j k with h | h
      · have hm := (mem_srt k).2 ⟨j, h, he⟩
        split
        · exact hm
        · exact mem_ins.2 (.inr hm)
      · have : j = k := by omega
        subst this
        subst he
        split
        · assumption
        · exact mem_ins.2 (.inl rfl)
theorem srt_sorted (f : Nat → Int) : ∀ k, (srt f k).Pairwise (· < ·)
  | 0 => List.Pairwise.nil
  | k + 1 => by
    unfold srt
    split
    · exact srt_sorted f k
    · exact ins_sorted _ _ (srt_sorted f k) (by assumption)
/-- there is one list of the same numbers in their order -/
theorem sorted_unique : ∀ (xs ys : List Int), xs.Pairwise (· < ·) → ys.Pairwise (· < ·) → (∀ z, z ∈ xs ↔ z ∈ ys) → xs = ys
  | [], [], _, _, _ => rfl
  | [], y :: ys, _, _, h => by have := (h y).2 (by simp); simp at this
  | x :: xs, [], _, _, h => by have := (h x).1 (by simp); simp at this
  | x :: xs, y :: ys, hx, hy, h => by
    rw [List.pairwise_cons] at hx hy
    have hxy : x = y := by
      rcases List.mem_cons.1 ((h x).1 (by simp)) with e | e
      · exact e
      · have h1 := hy.1 x e
        rcases List.mem_cons.1 ((h y).2 (by simp)) with e2 | e2
        · exact e2.symm
        · have h2 := hx.1 y e2; omega
    subst hxy
    congr 1
    refine sorted_unique xs ys hx.2 hy.2 fun z => ?_
    constructor
    · intro hz
      rcases List.mem_cons.1 ((h z).1 (List.mem_cons_of_mem _ hz)) with e | e
      · have := hx.1 z hz; omega
      · exact e
    · intro hz
      rcases List.mem_cons.1 ((h z).2 (List.mem_cons_of_mem _ hz)) with e | e
      · have := hy.1 z hz; omega
      · exact e
theorem in_list {xs : List Int} {x : Int} : (∃ j, j < xs.length ∧ xs.getD j 0 = x) ↔ x ∈ xs := by
  constructor
  · rintro ⟨j, hj, rfl⟩
    rw [List.getD_eq_getElem?_getD, List.getElem?_eq_getElem hj]
    exact List.getElem_mem hj
  · intro h
    obtain ⟨j, hj, he⟩ := List.mem_iff_getElem.1 h
    exact ⟨j, hj, by rw [List.getD_eq_getElem?_getD, List.getElem?_eq_getElem hj]; exact he⟩
theorem Built.notnil {w0 w : World} {v : Value} {xs : List Int} (h : Built w0 w v xs) (hx : xs ≠ []) : v ≠ .slice none 0 0 := by
  intro e
  subst e
  rcases h.1.2 with ⟨_, h2⟩ | ⟨g, cap, cur, h1, _⟩
  · exact hx (List.eq_nil_of_length_eq_zero h2)
  · injection h1 with h3; cases h3
theorem Rows'.cut {k : IntKind} {w : World} {b off n j : Nat} {f : Nat → Int} (h : Rows' k w (some ⟨b, off, none⟩) n f) : Rows' k w (some ⟨b, off + j, none⟩) (n - j) (fun t => f (j + t)) := by
  intro hp
  obtain ⟨b', off', e, hlt, hc⟩ := h (by omega)
  cases e
  exact ⟨b, off + j, rfl, hlt, fun t ht => by rw [Nat.add_assoc]; exact hc (j + t) (by omega)⟩
theorem drop_cells (xs : List Int) (j : Nat) : cellsOf .i64 (xs.length - j) (fun t => xs.getD (j + t) 0) = xs.drop j := by
  apply List.ext_getElem
  · rw [cellsOf_length, List.length_drop]
  · intro i h1 h2
    rw [cellsOf_length] at h1
    simp [cellsOf, List.getD_eq_getElem?_getD, show j + i < xs.length by omega]
theorem ins_built {wo w2 : World} {v2 : Value} {xs : List Int} {x : Int} {j L : Nat} (hj : j = pre xs x) (hL : L = xs.length)
    (h : w2.ownsRow wo.heap.size 3 1 v2 ((xs.take j ++ [x]).length + (L - j)) (((xs.take j ++ [x]) ++ cellsOf .i64 (L - j) (fun t => xs.getD (j + t) 0)).map (Value.int .i64))) (hb : Below wo.heap.size wo w2) : Built wo w2 v2 (ins xs x) := by
  subst hL
  have e : (xs.take j ++ [x]) ++ cellsOf .i64 (xs.length - j) (fun t => xs.getD (j + t) 0) = ins xs x := by
    rw [drop_cells, hj]
    unfold ins
    simp
  rw [e] at h
  have e2 : (xs.take j ++ [x]).length + (xs.length - j) = (ins xs x).length := by
    have := pre_le xs x
    rw [ins_length, List.length_append, List.length_take, hj]
    simp
    omega
  rw [e2] at h
  exact ⟨h, hb⟩
theorem take_getD (xs : List Int) (j : Nat) (h : j < xs.length) : xs.take (j + 1) = xs.take j ++ [xs.getD j 0] := by
  rw [List.take_add_one, List.getD_eq_getElem?_getD, List.getElem?_eq_getElem h]
  rfl
/-- is z among the numbers of a list? -/
theorem isIn_list (xs : List Int) (z : Int) : isIn xs.length (fun j => xs.getD j 0) z = decide (z ∈ xs) := by
  unfold isIn
  exact decide_eq_decide.2 in_list
theorem bool_iff {p : Prop} [Decidable p] {b : Bool} (h : p ↔ b = true) : decide p = b := by
  by_cases hp : p
  · rw [decide_eq_true hp, h.1 hp]
  · rw [decide_eq_false hp]
    cases b
    · rfl
    · exact absurd (h.2 rfl) hp
theorem list_eqB (xs ys : List Int) : (decide (xs.length = ys.length) && allEq xs.length (fun j => xs.getD j 0) (fun j => ys.getD j 0)) = decide (xs = ys) := by
  by_cases h : xs = ys
  · subst h
    rw [allEq_true (fun j _ => rfl)]
    simp
  · rw [decide_eq_false h]
    by_cases hl : xs.length = ys.length
    · have : ∃ k, k < xs.length ∧ xs.getD k 0 ≠ ys.getD k 0 := by
        apply Classical.byContradiction
        intro hn
        apply h
        apply List.ext_getElem hl
        intro i h1 h2
        apply Classical.byContradiction
        intro he
        apply hn
        refine ⟨i, h1, ?_⟩
        rw [List.getD_eq_getElem?_getD, List.getD_eq_getElem?_getD, List.getElem?_eq_getElem h1, List.getElem?_eq_getElem h2]
        exact he
      obtain ⟨k, hk, he⟩ := this
      rw [allEq_false hk he]
      simp
    · simp [hl]
/-- v is a list of one's own whose block is B or later -/
def Now (B : Nat) (w : World) (v : Value) (xs : List Int) : Prop := w.ownsRow B 3 1 v xs.length (xs.map (Value.int .i64))
theorem Now.shape {B : Nat} {w : World} {v : Value} {xs : List Int} (h : Now B w v xs) : ∃ a cap, v = .slice a xs.length cap ∧ Rows' .i64 w a xs.length (fun j => xs.getD j 0) ∧ (a = none → xs.length = 0 ∧ cap = 0) := by
  obtain ⟨a, cap, rfl, hr⟩ := Rows'.own h
  refine ⟨a, cap, rfl, hr, ?_⟩
  rintro rfl
  rcases h.2 with ⟨h1, h2⟩ | ⟨g, cap', cur, h1, _⟩
  · injection h1 with _ h3 h4; exact ⟨h3, h4⟩
  · injection h1 with h2; cases h2
theorem Now.of_built {B : Nat} {w0 w : World} {v : Value} {xs : List Int} (h : Built w0 w v xs) (hB : B ≤ w0.heap.size) : Now B w v xs := by
  refine ⟨h.1.1, ?_⟩
  rcases h.1.2 with h1 | ⟨g, cap, cur, h1, h2, r⟩
  · exact .inl h1
  · exact .inr ⟨g, cap, cur, h1, Nat.le_trans hB h2, r⟩
theorem Now.block {B : Nat} {w w' : World} {v : Value} {xs : List Int} (h : Now B w v xs) (hb : ∀ k, B ≤ k → k < w.heap.size → w'.heap[k]? = w.heap[k]?) : Now B w' v xs := by
  refine ⟨h.1, ?_⟩
  rcases h.2 with h1 | ⟨g, cap, cur, h1, h2, h3, r⟩
  · exact .inl h1
  · refine .inr ⟨g, cap, cur, h1, h2, ?_, r⟩
    have hlt : g < w.heap.size := by
      obtain ⟨hlt, _⟩ := Array.getElem?_eq_some_iff.1 h3
      exact hlt
    rw [hb g h2 hlt]; exact h3
theorem Now.but {B g : Nat} {w w' : World} {v : Value} {xs : List Int} (h : Now B w v xs) (hb : But g w w') (hg : g < B) : Now B w' v xs := h.block fun k hk _ => hb.block k (by omega)
theorem Now.below {B : Nat} {w w' : World} {v : Value} {xs : List Int} (h : Now B w v xs) (hb : Below w.heap.size w w') : Now B w' v xs := h.block fun k _ hk => hb.block k hk
theorem keep_filter (t : Int → Bool) (xs : List Int) : keep t (fun j => xs.getD j 0) xs.length = xs.filter t := by
  have key : ∀ k, k ≤ xs.length → keep t (fun j => xs.getD j 0) k = (xs.take k).filter t := by
    intro k
    induction k with
    | zero => intro _; simp [keep]
    | succ k ih =>
      intro hk
      show keep t (fun j => xs.getD j 0) k ++ (if t (xs.getD k 0) then [xs.getD k 0] else []) = _
      rw [ih (by omega), take_getD xs k (by omega), List.filter_append]
      congr 1
      by_cases h : t (xs.getD k 0) = true
      · simp only [h, if_true, List.filter_cons, List.filter_nil]
      · simp only [h, List.filter_cons, List.filter_nil]
  rw [key xs.length (Nat.le_refl _), List.take_length]
theorem isIn_one (x z : Int) : isIn 1 (fun j => ([x] : List Int).getD j 0) z = decide (z = x) := by
  have h := isIn_list [x] z
  rw [List.length_singleton] at h
  rw [h]
  exact decide_eq_decide.2 (by simp)
theorem one_rows (w : World) (t : TypeId) (x : Int) : Rows' .i64 (w.alloc (.cells #[.int .i64 x] t)) (some ⟨w.heap.size, 0, none⟩) 1 (fun j => ([x] : List Int).getD j 0) := by
  intro _
  refine ⟨w.heap.size, 0, rfl, by simp, fun j hj => ?_⟩
  rw [World.cell?_alloc_at _ _ _ _ rfl]
  rcases j with _ | j
  · simp
  · omega
theorem cells_all (X : List Int) : cellsOf .i64 X.length (fun j => X.getD j 0) = X := by
  have h := drop_cells X 0
  simpa using h
/-- append of one, while other blocks are written between -/
theorem wpList_push_now {ops : Array Oper} {rest : List Oper} {o : Oper} {a : Act} {Q : Exit → Act → World → Prop} (hgd : o.guard = none) (s x : Operand)
    (ho : o.op = .call { callee := .builtin .append, args := #[s, x], argTypes := #[45, 45] })
    (B : Nat) (w : World) (v : Value) (xs : List Int) (z : Int) (hs : a.eval s = v) (hx : a.eval x = .slice (some ⟨w.heap.size, 0, none⟩) 1 1) (hb : Now B w v xs) (hB : B ≤ w.heap.size) (hlen : xs.length ≤ 10000000)
    (h : ∀ v' w', Now B w' v' (xs ++ [z]) → Below B w w' → wpList Tryz.prog ops Q rest (a.put o.dst v') w') :
    wpList Tryz.prog ops Q (o :: rest) a (w.alloc (.cells #[.int .i64 z] 3)) := by
  obtain ⟨i0, hi, hz0, hz1, hz2⟩ := info_parts infoI
  refine wpList_append_own _ hgd s x 45 ho B 3 i0 (.int .i64 0) 1 8 Tryz.underlying45 hi hz0 hz1 hz2 rfl (by decide) v xs.length (xs.map (Value.int .i64)) hs (World.ownsRow.alloc hb _) ⟨w.heap.size, 0, none⟩ 1 1 [.int .i64 z] hx rfl ?_ ?_ ?_ ?_ ?_ ?_
  · intro j u hj
    match j, hj with
    | 0, hj => simp at hj; subst hj; simp [Addr.add]
  · intro u hu; simp at hu; subst hu; rfl
  · unfold maxLen; omega
  · omega
  · simp; omega
  · intro v' w' hown hgrow _
    refine h v' w' (by unfold Now; rw [List.length_append, List.map_append]; exact hown) ?_
    refine ((Below.refl B w).alloc hB _).grown hgrow (by simp; omega) ?_
    intro k hk
    exact (World.ownsRow.lt hb k hk).1
theorem Now.nil (B : Nat) (w : World) : Now B w (.slice none 0 0) [] := World.ownsRow_nil w B 3 1
theorem Now.drewN {B : Nat} {w : World} {v : Value} {xs : List Int} (h : Now B w v xs) (q : Nat) : Now B (w.drewN q) v xs := h
/-- how long a slice is -/
def sliceLen : Value → Nat
  | .slice _ n _ => n
  | _ => 0
theorem Built.some {w0 w : World} {v : Value} {xs : List Int} (h : Built w0 w v xs) (hx : xs ≠ []) : ∃ g cap, v = .slice (some ⟨g, 0, none⟩) xs.length cap ∧ xs.length ≤ cap ∧ Rows' .i64 w (some ⟨g, 0, none⟩) xs.length (fun j => xs.getD j 0) := by
  obtain ⟨a, cap, e, hr, hn, hc⟩ := h.shape
  rcases h.1.2 with ⟨h1, h2⟩ | ⟨g, cap', cur, h1, _⟩
  · exact absurd h1 (h.notnil hx)
  · rw [e] at h1
    injection h1 with h3 h4 h5
    subst h3
    exact ⟨g, cap, e, hc, hr⟩
theorem take_get (xs : List Int) (k t : Nat) (h : t < k) : (xs.take k).getD t 0 = xs.getD t 0 := by
  rw [List.getD_eq_getElem?_getD, List.getD_eq_getElem?_getD, List.getElem?_take, if_pos h]
theorem drop_get (xs : List Int) (k t : Nat) : (xs.drop k).getD t 0 = xs.getD (k + t) 0 := by
  rw [List.getD_eq_getElem?_getD, List.getD_eq_getElem?_getD, List.getElem?_drop]
theorem Rows'.first {w : World} {a : Option Addr} {L K : Nat} {xs : List Int} (h : Rows' .i64 w a L (fun j => xs.getD j 0)) (hK : K ≤ L) : Rows' .i64 w a K (fun j => (xs.take K).getD j 0) := by
  intro hp
  obtain ⟨b, off, e, hlt, hc⟩ := h (by omega)
  exact ⟨b, off, e, hlt, fun t ht => (hc t (by omega)).trans (congrArg (fun z => some (Value.int .i64 z)) (take_get xs K t ht).symm)⟩
theorem Rows'.rest {w : World} {b off L K : Nat} {xs : List Int} (h : Rows' .i64 w (some ⟨b, off, none⟩) L (fun j => xs.getD j 0)) : Rows' .i64 w (some ⟨b, off + K, none⟩) (L - K) (fun j => (xs.drop K).getD j 0) :=
  h.cut.congr fun t _ => (drop_get xs K t).symm

end Go.Proofs.YtagacfcpepoaoaaGreatDoor

namespace Go.Proofs.YtagacfcpepoaoaaGreatDoor
open Go.RowKit
set_option linter.unusedVariables false

/-- the longer slice lies where the one did, or in a new block -/
theorem append_where {P : Program} (w : World) (base : Nat) (t ty e : TypeId) (i : TypeInfo) (z : Value) (ht : P.underlying t = some (.slice e)) (hi : P.info? e = some i) (hz : i.zero = some z)
    (v : Value) (n : Nat) (xs : List Value) (hown : w.ownsRow base e i.size v n xs)
    (a : Addr) (m c : Nat) (news : List Value) (hm : 0 < m) (hl : news.length = m * i.size) (hnews : ∀ j u, news[j]? = some u → w.cell? (a.add j) = some u) (h1 : ∀ u ∈ news, u.oneCell' = true)
    (h63 : n + m ≤ maxLen) (hbytes : (n + m) * i.bytes ≤ 140737488355328) (v' : Value) (w' : World) (hr : (Builtin.append_ #[t, t] ty #[v, .slice (some a) m c]).run P w = .ok v' w') :
    ∀ k, v'.ownBlock = some k → v.ownBlock = some k ∨ k = w.heap.size := by
  have hsmall : n + m ≤ 9223372036854775807 := by simp only [maxLen] at h63; omega
  intro k hk
  rcases hown.2 with ⟨rfl, rfl⟩ | ⟨g, cap, cur, rfl, hbg, hg, hnc, hcm, hcs, htake⟩
  · have h := run_append_nil (P := P) w t ty e i z ht hi hz a m c news hl hnews (by omega) (by omega) (by have hb := hbytes; simp only [Nat.zero_add] at hb; omega)
    rw [h] at hr
    injection hr with e1 e2
    subst e1
    right
    simpa [Value.ownBlock] using hk.symm
  · by_cases hroom : n + m ≤ cap
    · have hfit : n * i.size + news.length ≤ cur.size := by rw [hl, hcs, ← Nat.add_mul]; exact Nat.mul_le_mul_right _ hroom
      have h := run_append_room (P := P) w t ty e i ht hi g n cap cur hg a m c news hl hnews h1 hroom hfit
      rw [h] at hr
      injection hr with e1 e2
      subst e1
      left
      exact hk
    · have holds : ∀ j u, xs[j]? = some u → w.cell? ((⟨g, 0, none⟩ : Addr).add j) = some u := hown.cells (g := g) rfl
      have h := run_append_grow (P := P) w t ty e i z ht hi hz ⟨g, 0, none⟩ n cap xs hown.1 holds a m c news hl hnews (by omega) (by omega) (growslice_fits (by omega) hbytes)
      rw [h] at hr
      injection hr with e1 e2
      subst e1
      right
      simpa [Value.ownBlock] using hk.symm
theorem wpList_append_where {P : Program} {w : World} {ops : Array Oper} {rest : List Oper} {o : Oper} {a : Act} {Q : Exit → Act → World → Prop} (hgd : o.guard = none) (s x : Operand) (t e : TypeId) (z : Value) (size bytes : Nat)
    (ht : P.underlying t = some (.slice e)) (hinfo : (P.info? e).map (fun i => (i.zero, i.size, i.bytes)) = some (some z, size, bytes)) (hzs : z.cells.size = size) (hsz : 0 < size) (hby : bytes ≤ 1000)
    (ho : o.op = .call { callee := .builtin .append, args := #[s, x], argTypes := #[t, t] })
    (base : Nat) (v : Value) (n : Nat) (xs : List Value) (hs : a.eval s = v) (hown : w.ownsRow base e size v n xs)
    (ad : Addr) (m c : Nat) (news : List Value) (hx : a.eval x = .slice (some ad) m c) (hm : 0 < m) (hl : news.length = m * size) (hnews : ∀ j u, news[j]? = some u → w.cell? (ad.add j) = some u) (h1 : ∀ u ∈ news, u.oneCell' = true)
    (hlen : n + m ≤ 20000000) (hbase : base ≤ w.heap.size)
    (h : ∀ v' w', w'.ownsRow base e size v' (n + m) (xs ++ news) → w.grownBy w' v.ownBlock → (∀ k, v'.ownBlock = some k → v.ownBlock = some k ∨ k = w.heap.size) → wpList P ops Q rest (a.put o.dst v') w') : wpList P ops Q (o :: rest) a w := by
  obtain ⟨i0, hi, hz0, hz1, hz2⟩ := info_parts hinfo
  subst hz1 hz2
  have h63 : n + m ≤ maxLen := by unfold maxLen; omega
  have hbytes : (n + m) * i0.bytes ≤ 140737488355328 := by
    have : (n + m) * i0.bytes ≤ 20000000 * 1000 := Nat.mul_le_mul hlen hby
    omega
  refine wpList_plain hgd fun _ hK => ?_
  obtain ⟨v', w', hr, h2, h3, _⟩ := run_append_own (P := P) w base t o.type e i0 z i0.size i0.bytes ht hi hz0 rfl rfl hzs hsz v n xs hown ad m c news hl hnews h1 h63 hbytes hbase
  have h5 := append_where w base t o.type e i0 z ht hi hz0 v n xs hown ad m c news hm hl hnews h1 h63 hbytes v' w' hr
  unfold Oper.wp execOp
  simp only [ho, resolve, invoke, builtin, Sem.run_bind, Sem.run_pure, Result.andThen_ok, List.map_toArray, List.map_cons, List.map_nil, hs, hx, hr]
  exact hK _ _ (h v' w' h2 h3 h5)
theorem grown_below {w w' : World} (h : Below w.heap.size w w') (row : Option Nat) : w.grownBy w' row := ⟨h.os, h.tape, h.output, h.size, fun k hk _ => h.block k hk⟩
theorem own_below {w w' : World} {base e sz n : Nat} {v : Value} {xs : List Value} (h : w.ownsRow base e sz v n xs) (hb : Below w.heap.size w w') : w'.ownsRow base e sz v n xs :=
  h.kept (grown_below hb none) (by cases hv : v.ownBlock <;> simp)
theorem own_base {w : World} {base base' e sz n : Nat} {v : Value} {xs : List Value} (h : w.ownsRow base e sz v n xs) (hb : base' ≤ base) : w.ownsRow base' e sz v n xs := by
  refine ⟨h.1, ?_⟩
  rcases h.2 with h1 | ⟨g, cap, cur, h1, h2, r⟩
  · exact .inl h1
  · exact .inr ⟨g, cap, cur, h1, Nat.le_trans hb h2, r⟩
theorem grown_setCell (w : World) (g i : Nat) (u : Value) : w.grownBy (w.setCell ⟨g, i, none⟩ u) (some g) :=
  ⟨rfl, rfl, rfl, by simp [World.setCell], fun k hk hne => Below.heap_setCell w ⟨g, i, none⟩ u k (fun e => hne (by rw [e]))⟩
/-- slices over unlike elements lie in unlike blocks -/
theorem own_ne {w : World} {B e e' sz n g : Nat} {v : Value} {xs : List Value} {cs : Array Value} {fz : Nat × Nat} (h : w.ownsRow B e sz v n xs) (hg : w.heap[g]? = some (.cells cs e' fz)) (hne : e ≠ e') : v.ownBlock ≠ some g := by
  intro hv
  rcases h.2 with ⟨rfl, _⟩ | ⟨g', cap, cur, rfl, h2, h3, _⟩
  · simp [Value.ownBlock] at hv
  · simp [Value.ownBlock] at hv
    subst hv
    rw [h3] at hg
    injection hg with hg
    injection hg with _ e2
    exact hne e2
theorem own_own {w : World} {B B' e e' sz sz' n n' : Nat} {v u : Value} {xs ys : List Value} (h : w.ownsRow B e sz v n xs) (h' : w.ownsRow B' e' sz' u n' ys) (hne : e ≠ e') : v.ownBlock = none ∨ v.ownBlock ≠ u.ownBlock := by
  rcases h'.2 with ⟨rfl, _⟩ | ⟨g, cap, cur, rfl, _, h3, _⟩
  · cases hv : v.ownBlock with
    | none => exact .inl rfl
    | some k => exact .inr (by simp [Value.ownBlock])
  · exact .inr (own_ne h h3 hne)
/-- a cell of such a slice is written -/
theorem own_set {w : World} {base e sz n g j : Nat} {v u : Value} {xs : List Value} (h : w.ownsRow base e sz v n xs) (hv : v.ownBlock = some g) (hj : j < n * sz) : (w.setCell ⟨g, j, none⟩ u).ownsRow base e sz v n (xs.set j u) := by
  rcases h.2 with ⟨rfl, _⟩ | ⟨g', cap, cur, rfl, h2, h3, h4, h5, h6, h7⟩
  · simp [Value.ownBlock] at hv
  · simp [Value.ownBlock] at hv
    subst hv
    refine ⟨by rw [List.length_set]; exact h.1, .inr ⟨g', cap, cur.setIfInBounds j u, rfl, h2, ?_, h4, h5, by simpa using h6, ?_⟩⟩
    · have := (show Held w g' e cur from h3).set j u
      exact this
    · rw [Array.toList_setIfInBounds, ← h7, List.take_set]
theorem own_lt {w : World} {base e sz n : Nat} {v : Value} {xs : List Value} (h : w.ownsRow base e sz v n xs) : ∀ k, v.ownBlock = some k → base ≤ k ∧ k < w.heap.size := h.lt
end Go.Proofs.YtagacfcpepoaoaaGreatDoor

namespace Go.Proofs.YtagacfcpepoaoaaGreatDoor
open Go.ChangeShapes Go.WideShapes Go.ChangeAt Go.RowKit
set_option linter.unusedVariables false

/-- what is told of a slice of integers that came in -/
def IsRow (k : IntKind) (w : World) (a : Option Addr) (len cap : Nat) (zs : List Int) : Prop :=
  (a = none ∧ len = 0 ∧ cap = 0 ∧ zs = []) ∨
  ∃ x, a = some x ∧ len ≤ cap ∧ cap ≤ maxLen ∧ zs.length = cap ∧ (∀ i, i < zs.length → w.cell? (x.add i) = some (.int k (zs.getD i 0))) ∧ ∀ n ∈ zs, (Lit.int k n).wf = true
theorem IsRow.none {k : IntKind} {w : World} {a : Option Addr} {len cap : Nat} {zs : List Int} (h : IsRow k w a len cap zs) : a = none → len = 0 ∧ cap = 0 := by
  intro ha
  rcases h with ⟨_, h1, h2, _⟩ | ⟨x, h1, _⟩
  · exact ⟨h1, h2⟩
  · rw [ha] at h1; cases h1
theorem IsRow.len {k : IntKind} {w : World} {a : Option Addr} {len cap : Nat} {zs : List Int} (h : IsRow k w a len cap zs) : len ≤ zs.length ∧ len ≤ 9223372036854775807 := by
  rcases h with ⟨_, h1, h2, rfl⟩ | ⟨x, h1, h2, h3, h4, _⟩
  · subst h1; exact ⟨by simp, by omega⟩
  · unfold maxLen at h3; exact ⟨by omega, by omega⟩
theorem cell_lt {w : World} {p : Addr} {v : Value} (h : w.cell? p = some v) : p.block < w.heap.size := by
  apply Nat.lt_of_not_le
  intro hle
  have e : w.heap[p.block]? = none := Array.getElem?_eq_none hle
  simp [World.cell?, e] at h
theorem IsRow.rows {k : IntKind} {w : World} {a : Option Addr} {len cap : Nat} {zs : List Int} (h : IsRow k w a len cap zs) : Rows' k w a len (fun j => zs.getD j 0) := by
  intro hpos
  rcases h with ⟨_, h1, _, _⟩ | ⟨x, rfl, hl, hm, hz, hcell, hwz⟩
  · omega
  · obtain ⟨b, off, rfl, hc⟩ := ints_at hcell (by omega)
    refine ⟨b, off, rfl, ?_, fun j hj => hc j (by omega)⟩
    have := hc 0 (by omega)
    exact cell_lt this
theorem IsRow.fits {k : IntKind} {w : World} {a : Option Addr} {len cap : Nat} {zs : List Int} (h : IsRow k w a len cap zs) (j : Nat) (hj : j < zs.length) : (Lit.int k (zs.getD j 0)).wf = true := by
  rcases h with ⟨_, _, _, rfl⟩ | ⟨x, _, _, _, _, _, hwz⟩
  · simp at hj
  · rw [List.getD_eq_getElem?_getD, List.getElem?_eq_getElem hj]
    exact hwz _ (List.getElem_mem hj)
theorem wf_u64 {n : Int} (h : (Lit.int .u64 n).wf = true) : 0 ≤ n ∧ n < 18446744073709551616 := by
  have h1 : IntKind.u64.min = 0 := by decide
  have h2 : IntKind.u64.max = 18446744073709551615 := by decide
  simp [Lit.wf, h1, h2] at h
  omega
/-- the words that came in -/
def wordsIn (zs : List Int) : Nat → Nat := fun j => (zs.getD j 0).toNat
theorem wordsIn_lt {w : World} {a : Option Addr} {len cap : Nat} {zs : List Int} (h : IsRow .u64 w a len cap zs) (j : Nat) : wordsIn zs j < 18446744073709551616 := by
  unfold wordsIn
  rcases Nat.lt_or_ge j zs.length with hj | hj
  · have := wf_u64 (h.fits j hj); omega
  · rw [List.getD_eq_getElem?_getD, List.getElem?_eq_none hj]; simp
theorem IsRow.words {w : World} {a : Option Addr} {len cap : Nat} {zs : List Int} (h : IsRow .u64 w a len cap zs) : Rows' .u64 w a len (fun j => (wordsIn zs j : Int)) := by
  refine h.rows.congr fun j hj => ?_
  have := wf_u64 (h.fits j (Nat.lt_of_lt_of_le hj h.len.1))
  unfold wordsIn
  omega

end Go.Proofs.YtagacfcpepoaoaaGreatDoor

namespace Go.Proofs.YtagacfcpepoaoaaGreatDoor
set_option linter.unusedVariables false

/-- a code that the walk does not open -/
def Veil (c : Code) : Code := c
theorem veil (id : Nat) (ops : Array Oper) : Code.region id ops false = Veil (Code.region id ops false) := rfl
theorem wp_veil {P : Program} {c : Code} {Q : Exit → Act → World → Prop} {a : Act} {w : World} (h : c.wp P Q a w) : (Veil c).wp P Q a w := h
end Go.Proofs.YtagacfcpepoaoaaGreatDoor

namespace Go.Proofs.YtagacfcpepoaoaaGreatDoor
open Go.RowKit
set_option linter.unusedVariables false

/-- is x among the numbers? -/
theorem hasInt_any (a : Option Addr) (n c : Nat) (f : Nat → Int) (x : Int) (w : World) (hn : n ≤ 100000) (ha : Rows' .i64 w a n f) :
    Calls Tryz.prog 24 #[.slice a n c, .int .i64 x] w fun e w' => e = .returned (.bool (decide (∃ j, j < n ∧ f j = x))) ∧ w' = w := by
  have HA := hidden ha
  clear ha
  go_enter Tryz.func24, Tryz.ntmps24
  go_wp2
  go_loop [5] (fun i => ∃ k : Nat, k ≤ n ∧ i = .int .i64 (k : Int) ∧ Hid (∀ j, j < k → f j ≠ x)) (fun i => n - (intOf i).toNat)
  case atStart => exact ⟨0, by omega, rfl, fun j hj => by omega⟩
  case round =>
    obtain ⟨k, hk, rfl, hE⟩ := hrel
    by_cases hkn : k < n
    · have hki : (k : Int) < (n : Int) := by omega
      obtain ⟨b, off, rfl, hlt, hc⟩ := HA.out (by omega)
      have hcell := hc k hkn
      clear hc
      by_cases he : f k = x
      · have he' : (f k == x) = true := by simp [he]
        have HE := hidden he
        clear he
        go_wp2_with fail
        go_ret
        refine ⟨?_, rfl⟩
        rw [decide_eq_true (⟨k, hkn, HE.out⟩ : ∃ j, j < n ∧ f j = x)]
        rfl
      · have he' : (f k == x) = false := by simp [he]
        have HE := hidden he
        clear he
        go_wp2_with fail
        go_round
        case rel => exact ⟨k + 1, by omega, by go_num, fun j hj => by
          rcases Nat.lt_or_ge j k with h | h
          · exact hE j h
          · rw [show j = k by omega]; exact HE⟩
        case measure => simp [intOf]; omega
    · have : k = n := by omega
      subst this
      go_wp2
      go_ret
      refine ⟨?_, rfl⟩
      rw [decide_eq_false (fun ⟨j, hj, h⟩ => hE.out j hj h)]
      rfl
theorem hasInt_list (a : Option Addr) (L cap : Nat) (xs : List Int) (x : Int) (w : World) (hL : L = xs.length) (hn : L ≤ 100000) (ha : Rows' .i64 w a L (fun j => xs.getD j 0)) :
    Calls Tryz.prog 24 #[.slice a L cap, .int .i64 x] w fun e w' => e = .returned (.bool (decide (x ∈ xs))) ∧ w' = w := by
  refine (hasInt_any a L cap _ x w hn ha).mono ?_
  rintro e w1 ⟨rfl, hw1⟩
  refine ⟨?_, hw1⟩
  rw [hL]
  congr 2
  exact decide_eq_decide.2 in_list
end Go.Proofs.YtagacfcpepoaoaaGreatDoor

namespace Go.Proofs.YtagacfcpepoaoaaGreatDoor
set_option linter.unusedVariables false

/-- []byte(S), and back -/
theorem bytes_back (W : World) (S : ByteArray) (c : Nat) : (convert 82 9 (.slice (some ⟨W.heap.size, 0, none⟩) S.size c)).run Tryz.prog (W.drew.alloc (.cells (bytesRow S c) 5 ((bytesRow S c).size, (bytesRow S c).size + 1))) =
    .ok (.string S) (W.drew.alloc (.cells (bytesRow S c) 5 ((bytesRow S c).size, (bytesRow S c).size + 1))) := by
  have h := run_convert_bytes_back (P := Tryz.prog) (W.drew.alloc (.cells (bytesRow S c) 5 ((bytesRow S c).size, (bytesRow S c).size + 1))) 82 9 5 ⟨W.heap.size, 0, none⟩ c S.data.toList Tryz.underlying82 Tryz.underlying5 Tryz.underlying9 ?_
  · rw [length_of] at h
    exact h
  · intro j hj
    rw [length_of] at hj
    have he : (⟨W.heap.size, 0, none⟩ : Addr).add j = ⟨W.heap.size, j, none⟩ := by
      simp only [Addr.add]
      split
      · rename_i h0; rw [h0]
      · rw [Nat.zero_add]
    rw [he]
    refine (World.cell?_alloc_mark W.drew (bytesRow S c) 5 _ j).trans ?_
    rw [bytesRow_at S c j hj]
    rfl
theorem bytes_there (W : World) (S : ByteArray) (m : Nat) (hm : S.size = m) : ∃ (cap : Nat) (C : Array Value) (fr : Nat × Nat),
    (convert 9 82 (.string S)).run Tryz.prog W = .ok (.slice (some ⟨W.heap.size, 0, none⟩) m cap) (W.alloc (.cells C 5 fr)).drew ∧
    (convert 82 9 (.slice (some ⟨W.heap.size, 0, none⟩) m cap)).run Tryz.prog (W.alloc (.cells C 5 fr)).drew = .ok (.string S) (W.alloc (.cells C 5 fr)).drew := by
  subst hm
  exact ⟨_, _, _, run_bytes_of_string (P := Tryz.prog) W 9 82 5 S Tryz.underlying9 Tryz.underlying82 Tryz.underlying5, bytes_back W S _⟩
end Go.Proofs.YtagacfcpepoaoaaGreatDoor
