/- What the statements of bits share: the table that the program lays, and slices that come in. -/
import Derived.Test.YtkaaokaiealbmaaDoorRows
import Derived.Test.YtkaaokaiealbmaaDoorBitsLaws
import Derived.ProofKit
import Derived.LaidMore
import Derived.OpenShut
import Derived.ShutString
import Derived.ChangeOld
import Derived.Stop.Joined
namespace Go.Proofs.YtkaaokaiealbmaaDoor
open Go.ChangeShapes Go.WideShapes Go.ChangeAt Go.RowKit Go.WideElems
set_option linter.unusedVariables false

theorem own : ownKnob Tryd.prog.godebug = none := by kernel_rfl
theorem laidOut : laidOutB Tryd.prog = true := by kernel_rfl
def laid1 {H : Type} : List (String × DataW H) := [("math/bits.deBruijn64tab", Rows.laid_math_bits_deBruijn64tab)]
theorem gTab : Tryd.prog.globalNamed "math/bits.deBruijn64tab" = some 0 := by kernel_rfl
theorem tTab : (Tryd.prog.globals[0]?).map (·.type) = some 52 := by kernel_rfl

/-- the door's own heap meets the condition -/
theorem door_met (os : Os) (args : Array Value) : laidMetH Tryd.prog laid1 ((World.doorLaid Tryd.prog 400 os).forCall (fun _ _ => 0) ⟨#[], args, []⟩).memory :=
  laidMetH_of_parts3 (fuel := 8) (laidMet_of_run' 8 (by kernel_rfl) (by kernel_rfl)) (by kernel_rfl) (by kernel_rfl)

theorem of_laid {W : World} (h : laidMetH Tryd.prog laid1 W) : Tab W := by
  rw [MakeChecks.laidMetH_plain _ _ _ (by kernel_rfl)] at h
  obtain ⟨ps, ⟨g0, t0, cs0, f0, p0, q0, hg0, ht0, hv0, hd0, _, _⟩, _, _⟩ := h
  obtain rfl := Option.some.inj (gTab.symm.trans hg0)
  obtain rfl := Option.some.inj (tTab.symm.trans ht0)
  obtain ⟨xs, m1, rfl, hx1, hlen, hn3, hel⟩ := DataW.trod_array Tryd.underlying52 hd0
  have c1 : Tryd.prog.cellsOf 5 = 1 := by kernel_rfl
  have c64 : Tryd.prog.cellsOf 52 = 64 := by kernel_rfl
  intro j hj
  have hj0 := hel j hj
  rw [c1, Nat.mul_one] at hj0
  have hjx : j < xs.length := by omega
  have hxj : xs[j]? = some xs[j] := List.getElem?_eq_getElem hjx
  obtain ⟨k, e1, e2, _⟩ := DataW.trod_int Tryd.underlying5 (hj0.trans hxj)
  have hmap : xs.map (fun x => x.fst) = Lib.deBruijn64tab.map (fun n : Nat => DataW.lit (.int .u8 (n : Int))) := by
    have h1 := congrArg Prod.fst hx1
    have h2 : (Rows.laid_math_bits_deBruijn64tab : DataW Unit) = DataW.agg (Lib.deBruijn64tab.map (fun n : Nat => DataW.lit (.int .u8 (n : Int)))) := rfl
    simp only [h2] at h1
    injection h1 with h3
    exact h3.symm
  have hk : k = ((Lib.deBruijn64tab.getD j 0 : Nat) : Int) := by
    have h1 := congrArg (fun l => l[j]?) hmap
    have hl : j < Lib.deBruijn64tab.length := hj
    simp only [List.getElem?_map, hxj, Option.map_some, e2, List.getElem?_eq_getElem hl] at h1
    rw [List.getD_eq_getElem?_getD, List.getElem?_eq_getElem hl]
    injection h1 with h2
    injection h2 with h3
    injection h3
  have hcell := World.var?_cell hg0 hv0 j
  rw [hcell, ← hk]
  have e3 : cs0.toList[j]? = (List.take 1 (List.drop j cs0.toList))[0]? := by simp
  rw [← Array.getElem?_toList, e3, e1]
  rfl

/-- what is told of a slice of integers that came in -/
def IsRow (k : IntKind) (w : World) (a : Option Addr) (len cap : Nat) (zs : List Int) : Prop :=
  (a = none ∧ len = 0 ∧ cap = 0 ∧ zs = []) ∨
  ∃ x, a = some x ∧ len ≤ cap ∧ cap ≤ maxLen ∧ zs.length = cap ∧ (∀ i, i < zs.length → w.cell? (x.add i) = some (.int k (zs.getD i 0))) ∧ ∀ n ∈ zs, (Lit.int k n).wf = true
theorem IsRow.none {k : IntKind} {w : World} {a : Option Addr} {len cap : Nat} {zs : List Int} (h : IsRow k w a len cap zs) : a = none → len = 0 ∧ cap = 0 := by
  intro ha
  rcases h with ⟨_, h1, h2, _⟩ | ⟨x, h1, _⟩
  · exact ⟨h1, h2⟩
  · rw [ha] at h1; cases h1
theorem IsRow.len {k : IntKind} {w : World} {a : Option Addr} {len cap : Nat} {zs : List Int} (h : IsRow k w a len cap zs) : len ≤ zs.length ∧ len ≤ 9223372036854775807 := by
  rcases h with ⟨_, h1, h2, rfl⟩ | ⟨x, h1, h2, h3, h4, _⟩
  · subst h1; exact ⟨by simp, by omega⟩
  · unfold maxLen at h3; exact ⟨by omega, by omega⟩
theorem cell_lt {w : World} {p : Addr} {v : Value} (h : w.cell? p = some v) : p.block < w.heap.size := by
  apply Nat.lt_of_not_le
  intro hle
  have e : w.heap[p.block]? = none := Array.getElem?_eq_none hle
  simp [World.cell?, e] at h
theorem IsRow.rows {k : IntKind} {w : World} {a : Option Addr} {len cap : Nat} {zs : List Int} (h : IsRow k w a len cap zs) : Rows' k w a len (fun j => zs.getD j 0) := by
  intro hpos
  rcases h with ⟨_, h1, _, _⟩ | ⟨x, rfl, hl, hm, hz, hcell, hwz⟩
  · omega
  · obtain ⟨b, off, rfl, hc⟩ := ints_at hcell (by omega)
    refine ⟨b, off, rfl, ?_, fun j hj => hc j (by omega)⟩
    have := hc 0 (by omega)
    exact cell_lt this
theorem IsRow.fits {k : IntKind} {w : World} {a : Option Addr} {len cap : Nat} {zs : List Int} (h : IsRow k w a len cap zs) (j : Nat) (hj : j < zs.length) : (Lit.int k (zs.getD j 0)).wf = true := by
  rcases h with ⟨_, _, _, rfl⟩ | ⟨x, _, _, _, _, _, hwz⟩
  · simp at hj
  · rw [List.getD_eq_getElem?_getD, List.getElem?_eq_getElem hj]
    exact hwz _ (List.getElem_mem hj)
theorem wf_u64 {n : Int} (h : (Lit.int .u64 n).wf = true) : 0 ≤ n ∧ n < 18446744073709551616 := by
  have h1 : IntKind.u64.min = 0 := by decide
  have h2 : IntKind.u64.max = 18446744073709551615 := by decide
  simp [Lit.wf, h1, h2] at h
  omega
/-- the words that came in -/
def wordsIn (zs : List Int) : Nat → Nat := fun j => (zs.getD j 0).toNat
theorem wordsIn_lt {w : World} {a : Option Addr} {len cap : Nat} {zs : List Int} (h : IsRow .u64 w a len cap zs) (j : Nat) : wordsIn zs j < 18446744073709551616 := by
  unfold wordsIn
  rcases Nat.lt_or_ge j zs.length with hj | hj
  · have := wf_u64 (h.fits j hj); omega
  · rw [List.getD_eq_getElem?_getD, List.getElem?_eq_none hj]; simp
theorem IsRow.words {w : World} {a : Option Addr} {len cap : Nat} {zs : List Int} (h : IsRow .u64 w a len cap zs) : Rows' .u64 w a len (fun j => (wordsIn zs j : Int)) := by
  refine h.rows.congr fun j hj => ?_
  have := wf_u64 (h.fits j (Nat.lt_of_lt_of_le hj h.len.1))
  unfold wordsIn
  omega

end Go.Proofs.YtkaaokaiealbmaaDoor
