/- What is read of the slice that Tokens tells; the chapter's example. -/
import Derived.Test.YtjmhmoigheomdaaDoorLexTokens
namespace Go.Proofs.YtjmhmoigheomdaaDoor
open Go.RowKit
set_option linter.unusedVariables false

theorem flat_get : ∀ (L : List Tk) (i : Nat) (t : Tk) (j : Nat), L[i]? = some t → j < 4 → (flat L)[i * 4 + j]? = (tkv t)[j]?
  | [], i, t, j, h, _ => by simp at h
  | x :: L, 0, t, j, h, hj => by
    simp at h
    subst h
    show ((tkv x).toList ++ flat L)[0 * 4 + j]? = _
    rw [Nat.zero_mul, Nat.zero_add, List.getElem?_append_left (show j < 4 from hj), Array.getElem?_toList]
  | x :: L, i + 1, t, j, h, hj => by
    simp at h
    show ((tkv x).toList ++ flat L)[(i + 1) * 4 + j]? = _
    rw [List.getElem?_append_right (show 4 ≤ (i + 1) * 4 + j by omega)]
    rw [show (i + 1) * 4 + j - (tkv x).toList.length = i * 4 + j from (show (i + 1) * 4 + j - 4 = i * 4 + j by omega)]
    exact flat_get L i t j h hj
/-- a slice of tokens: its length, its address, its cells -/
structure Row (w : World) (g : Nat) (L : List Tk) : Prop where
  lt : g < w.heap.size
  cells : ∀ i t j, L[i]? = some t → j < 4 → w.cell? ⟨g, i * 4 + j, none⟩ = (tkv t)[j]?
theorem Row.below {w w' : World} {g : Nat} {L : List Tk} (h : Row w g L) (hb : Below w.heap.size w w') : Row w' g L :=
  ⟨Nat.lt_of_lt_of_le h.lt hb.size, fun i t j ht hj => (hb.cell (p := ⟨g, i * 4 + j, none⟩) h.lt).trans (h.cells i t j ht hj)⟩
theorem Row.kind {w : World} {g : Nat} {L : List Tk} (h : Row w g L) {i : Nat} {t : Tk} (ht : L[i]? = some t) : w.cell? ⟨g, i * 4, none⟩ = some (.int .i64 (t.kind : Int)) := h.cells i t 0 ht (by omega)
theorem Row.text {w : World} {g : Nat} {L : List Tk} (h : Row w g L) {i : Nat} {t : Tk} (ht : L[i]? = some t) : w.cell? ⟨g, i * 4 + 1, none⟩ = some (.string ⟨t.text.toArray⟩) := h.cells i t 1 ht (by omega)
theorem Row.num {w : World} {g : Nat} {L : List Tk} (h : Row w g L) {i : Nat} {t : Tk} (ht : L[i]? = some t) : w.cell? ⟨g, i * 4 + 2, none⟩ = some (.int .i64 (t.n : Int)) := h.cells i t 2 ht (by omega)
theorem Row.place {w : World} {g : Nat} {L : List Tk} (h : Row w g L) {i : Nat} {t : Tk} (ht : L[i]? = some t) : w.cell? ⟨g, i * 4 + 3, none⟩ = some (.int .i64 (t.place : Int)) := h.cells i t 3 ht (by omega)
theorem row_of {w0 w : World} {v : Value} {L : List Tk} (h : Vals 30 4 w0 w v L.length (flat L)) (h0 : 0 < L.length) : ∃ g cap, v = .slice (some ⟨g, 0, none⟩) L.length cap ∧ L.length ≤ cap ∧ Row w g L := by
  obtain ⟨a, cap, rfl, hc, h1⟩ := h.shape
  obtain ⟨g, rfl, hg, h2⟩ := h1 h0
  refine ⟨g, cap, rfl, hc, hg, fun i t j ht hj => ?_⟩
  have e := flat_get L i t j ht hj
  have hjs : j < (tkv t).size := hj
  rw [Array.getElem?_eq_getElem hjs] at e ⊢
  exact h2 _ _ e
/-- the chapter's text, and its tokens -/
def exS : ByteArray := ⟨#[97, 60, 61, 49, 50, 43, 37, 98, 32, 35, 32, 99]⟩
def exL : List Tk := [⟨1, [97], 0, 0⟩, ⟨4, [60, 61], 0, 1⟩, ⟨2, [49, 50], 12, 3⟩, ⟨4, [43, 37], 0, 5⟩, ⟨1, [98], 0, 7⟩, ⟨0, [], 0, 12⟩]
theorem ex_T : T exS.data.toList 0 = .ok exL := by kernel_rfl
theorem works_true (w : World) (hT : Tab w) : Calls Tryd.prog 5 #[] w fun e w' => e = .returned (.bool true) ∧ Below w.heap.size w w' := by
  go_enter Tryd.func5, Tryd.ntmps5
  rw [veil 2]
  go_wp2_with fail
  refine (tokens_any exS w hT (by decide)).mono ?_
  rintro e w1 (⟨L, v, hL, rfl, hV⟩ | ⟨x, p, hx, _⟩)
  · have HB := hidden hV.2
    rw [ex_T] at hL
    injection hL with hL
    subst hL
    obtain ⟨g, cap, rfl, hc, hR⟩ := row_of hV (by decide)
    clear hV
    have HT := hidden (hT.below HB.out)
    have HR := hidden hR
    have hc6 : 6 ≤ cap := hc
    rw [show exL.length = 6 from rfl]
    clear hR hc hT
    go_wp2_with fail
    refine wp_veil ?_
    obtain ⟨W, hW⟩ : ∃ W, W = w1.alloc (.cells #[.int .i64 0, .int .i64 0] 26) := ⟨_, rfl⟩
    obtain ⟨f, hf⟩ : ∃ f, f = w1.heap.size := ⟨_, rfl⟩
    have hH : Held W f 26 #[.int .i64 0, .int .i64 0] := by rw [hW, hf]; exact Held.new _ _ _
    have hB1 : Below w1.heap.size w1 W := by rw [hW]; exact (Below.refl _ _).alloc (Nat.le_refl _) _
    have HBW := hidden (below_then HB.out hB1)
    have HTW := hidden (HT.out.below hB1)
    have hR := HR.out.below hB1
    rw [← hW, ← hf]
    have f0 : W.cell? ⟨f, 0, none⟩ = some (.int .i64 0) := hH.at_ rfl
    have f1 : W.cell? ⟨f, 1, none⟩ = some (.int .i64 0) := hH.at_ rfl
    have q1 : W.cell? ⟨g, 5, none⟩ = some (.string ⟨#[60, 61]⟩) := hR.text (i := 1) rfl
    have q2 : W.cell? ⟨g, 10, none⟩ = some (.int .i64 12) := hR.num (i := 2) rfl
    have q3 : W.cell? ⟨g, 12, none⟩ = some (.int .i64 4) := hR.kind (i := 3) rfl
    have r0 : W.cell? ⟨g, 20, none⟩ = some (.int .i64 0) := hR.kind (i := 5) rfl
    have r1 : W.cell? ⟨g, 21, none⟩ = some (.string ⟨#[]⟩) := hR.text (i := 5) rfl
    have r2 : W.cell? ⟨g, 22, none⟩ = some (.int .i64 0) := hR.num (i := 5) rfl
    have r3 : W.cell? ⟨g, 23, none⟩ = some (.int .i64 12) := hR.place (i := 5) rfl
    clear hW hf hH hB1 hR HB HT HR
    go_wp2_with fail
    refine (word_any [110, 105, 108] W HTW.out).mono ?_
    rintro e w2 ⟨rfl, hw2⟩
    rw [hw2, show isKey [110, 105, 108] = true by decide]; clear hw2 w2
    go_wp2_with fail
    go_ret
    exact ⟨rfl, HBW.out⟩
  · rw [ex_T] at hx; cases hx
end Go.Proofs.YtjmhmoigheomdaaDoor
