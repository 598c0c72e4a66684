/- What a queue is in memory: a box of a channel and of a row of truths; what a call on it may have turned. Of the program only its table of types. -/
import Derived.Test.YtingebjeefncaaaGenList
import Derived.Test.YtingebjeefncaaaGenComm
import Derived.WalkKit
namespace Go.Proofs.Ytingebjeefncaaa
open Go.RowKit Go.Conc
set_option linter.unusedVariables false

/-- of what was there only the blocks g and c may have turned -/
structure Turn (g c : Nat) (w w' : World) : Prop where
  os : w'.os = w.os
  tape : w'.tape = w.tape
  output : w'.output = w.output
  size : w.heap.size ≤ w'.heap.size
  block : ∀ k, k < w.heap.size → k ≠ g → k ≠ c → w'.heap[k]? = w.heap[k]?
theorem Turn.refl (g c : Nat) (w : World) : Turn g c w w := ⟨rfl, rfl, rfl, Nat.le_refl _, fun _ _ _ _ => rfl⟩
theorem Turn.trans {g c : Nat} {w w1 w2 : World} (h : Turn g c w w1) (k : Turn g c w1 w2) : Turn g c w w2 :=
  ⟨k.os.trans h.os, k.tape.trans h.tape, k.output.trans h.output, Nat.le_trans h.size k.size, fun i hi h1 h2 => (k.block i (Nat.lt_of_lt_of_le hi h.size) h1 h2).trans (h.block i hi h1 h2)⟩
theorem Turn.of_below {g c B : Nat} {w w' : World} (h : Below B w w') (hB : w.heap.size ≤ B) : Turn g c w w' :=
  ⟨h.os, h.tape, h.output, h.size, fun k hk _ _ => h.block k (by omega)⟩
theorem Turn.setCell (g c i : Nat) (v : Value) (w : World) : Turn g c w (w.setCell ⟨g, i, none⟩ v) :=
  ⟨rfl, rfl, rfl, by simp [World.setCell], fun k _ hk _ => Below.heap_setCell _ _ _ _ hk⟩
theorem setChan_off (w : World) (c cap : Nat) (buf : Array Value) (cl : Bool) (s r : Nat) (tm : Bool) {k : Nat} (h : k ≠ c) : (w.setChan c cap buf cl s r tm).heap[k]? = w.heap[k]? := by
  simp only [World.setChan]
  rw [Array.getElem?_setIfInBounds_ne (fun e => h e.symm)]
theorem Turn.setChan (g c cap : Nat) (buf : Array Value) (cl : Bool) (s r : Nat) (tm : Bool) (w : World) : Turn g c w (w.setChan c cap buf cl s r tm) :=
  ⟨rfl, rfl, rfl, by simp [World.setChan], fun k _ _ hk => setChan_off _ _ _ _ _ _ _ _ hk⟩
theorem Turn.below {g c B : Nat} {w0 w w' : World} (h : Turn g c w w') (hb : Below B w0 w) (hB : B ≤ w.heap.size) (hg : B ≤ g) (hc : B ≤ c) : Below B w0 w' :=
  hb.trans ⟨h.os, h.tape, h.output, h.size, fun k hk => h.block k (by omega) (by omega) (by omega)⟩
/-- block g holds n truths -/
def Truths (w : World) (g n : Nat) (f : Nat → Bool) : Prop :=
  ∃ cs : Array Value, w.heap[g]? = some (.cells cs 4 (0, 0)) ∧ cs.size = n ∧ ∀ j, j < n → cs[j]? = some (.bool (f j))
theorem Truths.cell {w : World} {g n : Nat} {f : Nat → Bool} (h : Truths w g n f) {j : Nat} (hj : j < n) : w.cell? ⟨g, j, none⟩ = some (.bool (f j)) := by
  obtain ⟨cs, hb, _, hc⟩ := h
  simp [World.cell?, hb, hc j hj]
theorem Truths.frozen {w : World} {g n : Nat} {f : Nat → Bool} (h : Truths w g n f) (j : Nat) : w.frozen? ⟨g, j, none⟩ = false := by
  obtain ⟨cs, hb, _, _⟩ := h
  simp [World.frozen?, hb]
theorem Truths.block {w w' : World} {g n : Nat} {f : Nat → Bool} (h : Truths w g n f) (e : w'.heap[g]? = w.heap[g]?) : Truths w' g n f := by
  obtain ⟨cs, hb, hn, hc⟩ := h
  exact ⟨cs, e.trans hb, hn, hc⟩
theorem Truths.congr {w : World} {g n : Nat} {f f' : Nat → Bool} (h : Truths w g n f) (e : ∀ j, j < n → f j = f' j) : Truths w g n f' := by
  obtain ⟨cs, hb, hn, hc⟩ := h
  exact ⟨cs, hb, hn, fun j hj => by rw [hc j hj, e j hj]⟩
theorem Truths.set {w : World} {g n : Nat} {f : Nat → Bool} (h : Truths w g n f) (i : Nat) (x : Bool) : Truths (w.setCell ⟨g, i, none⟩ (.bool x)) g n (fun j => if j = i then x else f j) := by
  obtain ⟨cs, hb, hn, hc⟩ := h
  refine ⟨cs.setIfInBounds i (.bool x), ?_, by simpa using hn, fun j hj => ?_⟩
  · simp [World.setCell, Array.getElem?_modify, hb]
  · rw [Array.getElem?_setIfInBounds]
    by_cases e : j = i
    · subst e
      simp [show j < cs.size by omega]
    · rw [if_neg (fun h => e h.symm)]
      show cs[j]? = some (.bool (if j = i then x else f j))
      rw [if_neg e]
      exact hc j hj
theorem Truths.lt {w : World} {g n : Nat} {f : Nat → Bool} (h : Truths w g n f) : g < w.heap.size := by
  obtain ⟨cs, hb, _, _⟩ := h
  obtain ⟨hlt, _⟩ := Array.getElem?_eq_some_iff.1 hb
  exact hlt
/-- the numbers as they wait in a channel -/
def bufOf (xs : List Int) : Array Value := (xs.map (Value.int .i64)).toArray
theorem bufOf_size (xs : List Int) : (bufOf xs).size = xs.length := by simp [bufOf]
theorem bufOf_push (xs : List Int) (x : Int) : (bufOf xs).push (.int .i64 x) = bufOf (xs ++ [x]) := by simp [bufOf]
theorem bufOf_head (x : Int) (xs : List Int) : (bufOf (x :: xs)).getD 0 undef = .int .i64 x := by simp [bufOf]
theorem bufOf_tail (x : Int) (xs : List Int) : (bufOf (x :: xs)).extract 1 (bufOf (x :: xs)).size = bufOf xs := by
  apply Array.ext'
  simp [bufOf, List.take_of_length_le]
/-- the box p of the channel c and of the row g of n truths is a queue in which xs wait -/
structure IsQ (w : World) (p g c n : Nat) (xs : List Int) : Prop where
  box : w.heap[p]? = some (.cells #[.chan (some c), .slice (some ⟨g, 0, none⟩) n n] 45 (0, 0))
  row : Truths w g n (fun j => decide ((j : Int) ∈ xs))
  line : ∃ s r, w.heap[c]? = some (.chan n (bufOf xs) false s r false)
  once : xs.Nodup
  fits : ∀ x ∈ xs, 0 ≤ x ∧ x < (n : Int)
  small : n ≤ 65536
  pg : p ≠ g
theorem IsQ.pc {w : World} {p g c n : Nat} {xs : List Int} (h : IsQ w p g c n xs) : p ≠ c := by
  rintro rfl
  obtain ⟨s, r, hl⟩ := h.line
  rw [h.box] at hl
  cases hl
theorem IsQ.gc {w : World} {p g c n : Nat} {xs : List Int} (h : IsQ w p g c n xs) : g ≠ c := by
  rintro rfl
  obtain ⟨s, r, hl⟩ := h.line
  obtain ⟨cs, hb, _⟩ := h.row
  rw [hb] at hl
  cases hl
theorem IsQ.p_lt {w : World} {p g c n : Nat} {xs : List Int} (h : IsQ w p g c n xs) : p < w.heap.size := by
  obtain ⟨hlt, _⟩ := Array.getElem?_eq_some_iff.1 h.box
  exact hlt
theorem IsQ.c_lt {w : World} {p g c n : Nat} {xs : List Int} (h : IsQ w p g c n xs) : c < w.heap.size := by
  obtain ⟨s, r, hl⟩ := h.line
  obtain ⟨hlt, _⟩ := Array.getElem?_eq_some_iff.1 hl
  exact hlt
theorem IsQ.cell0 {w : World} {p g c n : Nat} {xs : List Int} (h : IsQ w p g c n xs) : w.cell? ⟨p, 0, none⟩ = some (.chan (some c)) := by
  simp [World.cell?, h.box]
theorem IsQ.cell1 {w : World} {p g c n : Nat} {xs : List Int} (h : IsQ w p g c n xs) : w.cell? ⟨p, 1, none⟩ = some (.slice (some ⟨g, 0, none⟩) n n) := by
  simp [World.cell?, h.box]
theorem IsQ.block {w w' : World} {p g c n : Nat} {xs : List Int} (h : IsQ w p g c n xs) (hp : w'.heap[p]? = w.heap[p]?) (hg : w'.heap[g]? = w.heap[g]?) (hc : w'.heap[c]? = w.heap[c]?) : IsQ w' p g c n xs :=
  ⟨hp.trans h.box, h.row.block hg, by obtain ⟨s, r, hl⟩ := h.line; exact ⟨s, r, hc.trans hl⟩, h.once, h.fits, h.small, h.pg⟩
theorem IsQ.below {w w' : World} {p g c n B : Nat} {xs : List Int} (h : IsQ w p g c n xs) (hb : Below B w w') (hp : p < B) (hg : g < B) (hc : c < B) : IsQ w' p g c n xs :=
  h.block (hb.block p hp) (hb.block g hg) (hb.block c hc)
theorem IsQ.since {w w' : World} {p g c n : Nat} {xs : List Int} (h : IsQ w p g c n xs) (hb : Below w.heap.size w w') : IsQ w' p g c n xs :=
  h.below hb h.p_lt h.row.lt h.c_lt
theorem length_but (a : Int) : ∀ xs : List Int, xs.Nodup → xs.length ≤ (xs.filter (fun x => decide (x ≠ a))).length + 1
  | [], _ => by simp
  | x :: xs, h => by
    rw [List.nodup_cons] at h
    by_cases e : x = a
    · subst e
      have : xs.filter (fun y => decide (y ≠ x)) = xs := List.filter_eq_self.2 fun y hy => by
        simp only [decide_eq_true_eq]
        rintro rfl
        exact h.1 hy
      rw [List.filter_cons, this]
      simp
    · have := length_but a xs h.2
      simp [e] at this ⊢
      omega
theorem length_below : ∀ (n : Nat) (xs : List Int), xs.Nodup → (∀ x ∈ xs, 0 ≤ x ∧ x < (n : Int)) → xs.length ≤ n
  | 0, [], _, _ => by simp
  | 0, x :: xs, _, h => by have := h x (by simp); omega
  | n + 1, xs, hd, h => by
    have h1 := length_but n xs hd
    have h2 := length_below n (xs.filter (fun x => decide (x ≠ (n : Int)))) (hd.filter _) (fun x hx => by
      rw [List.mem_filter] at hx
      have := h x hx.1
      have h3 := hx.2
      simp only [decide_eq_true_eq] at h3
      omega)
    omega
theorem IsQ.len {w : World} {p g c n : Nat} {xs : List Int} (h : IsQ w p g c n xs) : xs.length ≤ n := length_below n xs h.once h.fits
theorem IsQ.room {w : World} {p g c n : Nat} {xs : List Int} (h : IsQ w p g c n xs) {i : Int} (h0 : 0 ≤ i) (hn : i < (n : Int)) (hi : ¬ i ∈ xs) : xs.length < n :=
  length_below n (i :: xs) (List.nodup_cons.2 ⟨hi, h.once⟩) (fun x hx => by
    rcases List.mem_cons.1 hx with rfl | hx
    · exact ⟨h0, hn⟩
    · exact h.fits x hx)
/-- one more waits -/
theorem IsQ.put {w : World} {p g c n s r : Nat} {xs : List Int} {i : Int} {k : Nat} (h : IsQ w p g c n xs) (h0 : i = (k : Int)) (hn : i < (n : Int)) (hi : ¬ i ∈ xs) :
    IsQ ((w.setCell ⟨g, k, none⟩ (.bool true)).setChan c n ((bufOf xs).push (.int .i64 i)) false s r false) p g c n (xs ++ [i]) := by
  have t := (Turn.setCell g c k (.bool true) w).trans (Turn.setChan g c n ((bufOf xs).push (.int .i64 i)) false s r false _)
  refine ⟨(t.block p h.p_lt h.pg h.pc).trans h.box, ?_, ⟨s, r, ?_⟩, ?_, ?_, h.small, h.pg⟩
  · refine Truths.block (w := w.setCell ⟨g, k, none⟩ (.bool true)) ?_ (setChan_off _ _ _ _ _ _ _ _ h.gc)
    refine (h.row.set k true).congr fun j hj => ?_
    by_cases e : j = k
    · subst e; subst h0; simp
    · have : ¬ (j : Int) = i := by omega
      simp [e, this]
  · rw [heap_setChan _ _ _ _ _ _ _ _ (by simpa [World.setCell] using h.c_lt), bufOf_push]
  · rw [List.nodup_append]
    exact ⟨h.once, by simp, fun a ha b hb => by simp at hb; subst hb; rintro rfl; exact hi ha⟩
  · intro x hx
    rcases List.mem_append.1 hx with hx | hx
    · exact h.fits x hx
    · simp at hx; subst hx; exact ⟨by omega, hn⟩
/-- the first waits no more -/
theorem IsQ.take {w : World} {p g c n s r : Nat} {xs : List Int} {i : Int} {k : Nat} (h : IsQ w p g c n (i :: xs)) (h0 : i = (k : Int)) :
    IsQ ((w.setChan c n ((bufOf (i :: xs)).extract 1 (bufOf (i :: xs)).size) false s r false).setCell ⟨g, k, none⟩ (.bool false)) p g c n xs := by
  have t := (Turn.setChan g c n ((bufOf (i :: xs)).extract 1 (bufOf (i :: xs)).size) false s r false w).trans (Turn.setCell g c k (.bool false) _)
  have hd := List.nodup_cons.1 h.once
  refine ⟨(t.block p h.p_lt h.pg h.pc).trans h.box, ?_, ⟨s, r, ?_⟩, hd.2, fun x hx => h.fits x (List.mem_cons_of_mem _ hx), h.small, h.pg⟩
  · refine (Truths.set (Truths.block (w := w) h.row (setChan_off _ _ _ _ _ _ _ _ h.gc)) k false).congr fun j hj => ?_
    by_cases e : j = k
    · subst e; subst h0
      rw [if_pos rfl]
      exact (decide_eq_false hd.1).symm
    · have : ¬ (j : Int) = i := by omega
      simp [e, this]
  · rw [Below.heap_setCell _ _ _ _ (fun e => h.gc e.symm), heap_setChan _ _ _ _ _ _ _ _ h.c_lt, bufOf_tail]
theorem Turn.then_below {g c B : Nat} {w w1 w2 : World} (t : Turn g c w w1) (hb : Below B w1 w2) (hB : w.heap.size ≤ B) : Turn g c w w2 :=
  ⟨hb.os.trans t.os, hb.tape.trans t.tape, hb.output.trans t.output, Nat.le_trans t.size hb.size, fun k hk h1 h2 => (hb.block k (by omega)).trans (t.block k hk h1 h2)⟩
/-- a list of one's own is none of a queue's blocks -/
theorem Now.turn {B p g c n : Nat} {w w' : World} {v : Value} {xs ys : List Int} (h : Now B w v xs) (hq : IsQ w p g c n ys) (t : Turn g c w w') : Now B w' v xs := by
  refine ⟨h.1, ?_⟩
  rcases h.2 with h1 | ⟨b, cap, cur, h1, h2, h3, r⟩
  · exact .inl h1
  · refine .inr ⟨b, cap, cur, h1, h2, ?_, r⟩
    have hlt : b < w.heap.size := by
      obtain ⟨hlt, _⟩ := Array.getElem?_eq_some_iff.1 h3
      exact hlt
    rw [t.block b hlt ?_ ?_]
    · exact h3
    · rintro rfl
      obtain ⟨cs, hb, _⟩ := hq.row
      rw [hb] at h3
      cases h3
    · rintro rfl
      obtain ⟨s, r, hl⟩ := hq.line
      rw [hl] at h3
      cases h3
/-- neither is a row of ints that can be read -/
theorem Rows'.turn {a : Option Addr} {m p g c n : Nat} {w w' : World} {f : Nat → Int} {ys : List Int} (h : Rows' .i64 w a m f) (hq : IsQ w p g c n ys) (t : Turn g c w w') : Rows' .i64 w' a m f := by
  intro hm
  obtain ⟨b, off, ha, hlt, hc⟩ := h hm
  have hc0 := hc 0 hm
  have hb : w'.heap[b]? = w.heap[b]? := by
    refine t.block b hlt ?_ ?_
    · rintro rfl
      obtain ⟨cs, hb, hs, hcs⟩ := hq.row
      rcases Nat.lt_or_ge off n with ho | ho
      · simp [World.cell?, hb, hcs off ho] at hc0
      · simp [World.cell?, hb, Array.getElem?_eq_none (show cs.size ≤ off by omega)] at hc0
    · rintro rfl
      obtain ⟨s, r, hl⟩ := hq.line
      simp [World.cell?, hl] at hc0
  exact ⟨b, off, ha, Nat.lt_of_lt_of_le hlt t.size, fun j hj => (World.cell?_of_block (a := ⟨b, off + j, none⟩) (w := w) hb).trans (hc j hj)⟩

end Go.Proofs.Ytingebjeefncaaa
