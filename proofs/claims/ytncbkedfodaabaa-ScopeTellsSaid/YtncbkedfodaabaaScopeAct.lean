/- Lists of what is done, in memory: how they are read, and how they come in. Of the program only its table of types. -/
import Derived.Test.YtncbkedfodaabaaScopeMem
import Derived.Test.YtncbkedfodaabaaGenIn
import Derived.Deep.Slices
import Derived.SizedLaws
import Derived.WalkKit
namespace Go.Proofs.Ytncbkedfodaabaa
open Go.ChangeShapes Go.WideShapes Go.ChangeAt Go.RowKit
set_option linter.unusedVariables false

/-- the cells of one that is done -/
def Ac.cs (x : Ac) : Array Value := #[.int .i64 x.doo, .string x.nm, .int .i64 x.kd]
def Cells3 (w : World) (b o : Nat) (x : Ac) : Prop :=
  w.cell? ⟨b, o, none⟩ = some (.int .i64 x.doo) ∧ w.cell? ⟨b, o + 1, none⟩ = some (.string x.nm) ∧ w.cell? ⟨b, o + 2, none⟩ = some (.int .i64 x.kd)
def ac (l : List Ac) (j : Nat) : Ac := l.getD j default
theorem ac_of {l : List Ac} {i : Nat} (hi : i < l.length) : ac l i = l[i] := by
  unfold ac; rw [List.getD_eq_getElem?_getD, List.getElem?_eq_getElem hi]; rfl
/-- a slice of these -/
def Acts (w : World) (a : Option Addr) (l : List Ac) : Prop :=
  0 < l.length → ∃ b off, a = some ⟨b, off, none⟩ ∧ b < w.heap.size ∧ ∀ j, j < l.length → Cells3 w b (off + j * 3) (ac l j)
theorem Acts.below {w w' : World} {a : Option Addr} {l : List Ac} (h : Acts w a l) (hb : Below w.heap.size w w') : Acts w' a l := by
  intro hn
  obtain ⟨b, off, ha, hlt, hc⟩ := h hn
  refine ⟨b, off, ha, Nat.lt_of_lt_of_le hlt hb.size, fun j hj => ?_⟩
  obtain ⟨h0, h1, h2⟩ := hc j hj
  exact ⟨(hb.cell (p := ⟨b, _, none⟩) hlt).trans h0, (hb.cell (p := ⟨b, _, none⟩) hlt).trans h1, (hb.cell (p := ⟨b, _, none⟩) hlt).trans h2⟩
/-- names are no longer than a text may be -/
def Short (l : List Ac) : Prop := ∀ j, j < l.length → (ac l j).nm.size ≤ maxLen
def IsActs (w : World) (a : Option Addr) (len cap : Nat) (l : List Ac) : Prop := l.length = len ∧ len ≤ cap ∧ Acts w a l ∧ Short l
set_option maxRecDepth 100000 in
theorem fld3 {H : Type} {enc : TypeId × Value → H} {w : World} {base : Nat} {spare : Nat → Bool} {held : Bool} {fuel : Nat} {cs : List Value} {x : DataW H × List MemPlace}
    (h : DataW.trod enc Try.prog w base spare held fuel 32 cs = some x) : ∃ (n : Nat) (y0 y1 y2 : DataW H × List MemPlace) (c0 c1 c2 : Value), cs = [c0, c1, c2] ∧ x.1 = .agg [y0.1, y1.1, y2.1] ∧
      DataW.trod enc Try.prog w base spare held n 3 [c0] = some y0 ∧ DataW.trod enc Try.prog w base spare held n 9 [c1] = some y1 ∧ DataW.trod enc Try.prog w base spare held n 3 [c2] = some y2 := by
  obtain ⟨xs, n, _, hx, hl, hlen, hg⟩ := DataW.trod_struct Try.underlying32 h
  have c36 : Try.prog.cellsOf 32 = 3 := by kernel_rfl
  have k3 : Try.prog.cellsOf 3 = 1 := by kernel_rfl
  have k9 : Try.prog.cellsOf 9 = 1 := by kernel_rfl
  rw [c36] at hl
  match cs, hl with
  | [c0, c1, c2], _ =>
    match xs, hlen with
    | [y0, y1, y2], _ =>
      have g0 := hg 0 _ rfl
      have g1 := hg 1 _ rfl
      have g2 := hg 2 _ rfl
      refine ⟨n, y0, y1, y2, c0, c1, c2, rfl, by rw [hx]; rfl, ?_, ?_, ?_⟩
      · simpa [k3] using g0
      · simpa [k9] using g1
      · simpa [k3] using g2
theorem act_in {H : Type} {enc : TypeId × Value → H} {w : World} {fuel : Nat} {cs : List Value} {x : DataW H × List MemPlace}
    (h : DataW.trod enc Try.prog w 0 (fun _ => true) true fuel 32 cs = some x) : ∃ y : Ac, cs = y.cs.toList ∧ y.nm.size ≤ maxLen := by
  obtain ⟨n, y0, y1, y2, c0, c1, c2, rfl, hx1, h0, h1, h2⟩ := fld3 h
  obtain ⟨n0, e0, _, _⟩ := DataW.trod_int Try.underlying3 h0
  obtain ⟨s, e1, z1, f1⟩ := DataW.trod_string Try.underlying9 h1
  obtain ⟨n2, e2, _, _⟩ := DataW.trod_int Try.underlying3 h2
  simp only [List.cons.injEq, and_true] at e0 e1 e2
  subst e0 e1 e2
  exact ⟨⟨n0, s, n2⟩, rfl, f1⟩
theorem acts_in {H : Type} {enc : TypeId × Value → H} {w : World} {fuel len cap : Nat} {a : Option Addr} {x : DataW H × List MemPlace}
    (h : DataW.trod enc Try.prog w 0 (fun _ => true) true fuel 22 (Value.slice a len cap).cells.toList = some x) : ∃ l, IsActs w a len cap l := by
  have c36 : Try.prog.cellsOf 32 = 3 := by kernel_rfl
  rcases Go.Deep.open_slice Try.underlying22 h with ⟨hcs, _⟩ | ⟨ad, l, cp, m, n, D, Pl, hcs, _, hl, hm, hmm, hxx, hx⟩
  · simp [Value.cells] at hcs
    obtain ⟨rfl, rfl, rfl⟩ := hcs
    exact ⟨[], rfl, Nat.le_refl _, fun h => by simp at h, fun j hj => by simp at hj⟩
  · simp [Value.cells] at hcs
    obtain ⟨rfl, rfl, rfl⟩ := hcs
    rw [if_pos rfl] at hmm
    have hy : ∀ i, ∃ y : Ac, i < len → y.nm.size ≤ maxLen ∧ ∀ j, j < 3 → w.cell? ((ad.add (i * 3)).add j) = y.cs[j]? := by
      intro i
      by_cases hi : i < len
      · obtain ⟨cs', hc, ht⟩ := hx i (by omega)
        obtain ⟨y, rfl, hok⟩ := act_in ht
        rw [c36] at hc
        obtain ⟨_, hcl, hat⟩ := World.cells?_some hc
        exact ⟨y, fun _ => ⟨hok, fun j hj => by rw [hat j hj]; simp⟩⟩
      · exact ⟨default, fun h => absurd h hi⟩
    obtain ⟨f, hf⟩ := Classical.axiomOfChoice hy
    have hlen : ((List.range len).map f).length = len := by simp
    have hnd : ∀ j, j < len → ac ((List.range len).map f) j = f j := by
      intro j hj
      rw [ac_of (by simpa using hj)]
      simp
    refine ⟨(List.range len).map f, hlen, hl, ?_, fun j hj => ?_⟩
    · intro hp
      rw [hlen] at hp
      obtain ⟨b, off, spot⟩ := ad
      have h00 := (hf 0 hp).2 0 (by omega)
      have h01 : w.cell? ((Addr.add ⟨b, off, spot⟩ (0 * 3)).add 0) = some (.int .i64 (f 0).doo) := h00
      have hspot : spot = none := by simpa [Addr.add] using World.cell?_spot h01
      subst hspot
      have hb : b < w.heap.size := by simpa [Addr.add] using cell_lt h01
      refine ⟨b, off, rfl, hb, fun j hj => ?_⟩
      rw [hlen] at hj
      rw [hnd j hj]
      have hc := (hf j hj).2
      have e : ∀ i, ((Addr.add ⟨b, off, none⟩ (j * 3)).add i) = ⟨b, off + j * 3 + i, none⟩ := by
        intro i
        rw [Go.WideShapes.add_plain, Go.WideShapes.add_plain]
      refine ⟨?_, ?_, ?_⟩
      · have := hc 0 (by omega); rw [e] at this; exact this
      · have := hc 1 (by omega); rw [e] at this; exact this
      · have := hc 2 (by omega); rw [e] at this; exact this
    · rw [hlen] at hj
      rw [hnd j hj]
      exact (hf j hj).1
end Go.Proofs.Ytncbkedfodaabaa
