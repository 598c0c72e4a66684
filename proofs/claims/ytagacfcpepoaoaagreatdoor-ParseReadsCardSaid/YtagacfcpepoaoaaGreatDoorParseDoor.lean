/- What the statements of parse share: the tables that the program lays. -/
import Derived.Test.YtagacfcpepoaoaaGreatDoorRows
import Derived.Test.YtagacfcpepoaoaaGreatDoorMUse
import Derived.ProofKit
import Derived.LaidMore
import Derived.OpenShut
import Derived.ShutString
import Derived.ChangeOld
import Derived.Stop.Joined
namespace Go.Proofs.YtagacfcpepoaoaaGreatDoor
open Go.ChangeShapes Go.WideShapes Go.ChangeAt Go.RowKit Go.WideElems
set_option linter.unusedVariables false

theorem own : ownKnob Tryz.prog.godebug = none := by kernel_rfl
theorem laidOut : laidOutB Tryz.prog = true := by kernel_rfl
def laid1 {H : Type} : List (String × DataW H) := [("balustrade/lex.keyWords", Rows.laid_balustrade_lex_keyWords), ("balustrade/expr.signs", Rows.laid_balustrade_expr_signs), ("balustrade/expr.strengths", Rows.laid_balustrade_expr_strengths), ("balustrade/expr.fronts", Rows.laid_balustrade_expr_fronts), ("balustrade/parse.kindWords", Rows.laid_balustrade_parse_kindWords)]
/-- the door's own heap meets the condition -/
theorem door_met (os : Os) (args : Array Value) : laidMetH Tryz.prog laid1 ((World.doorLaid Tryz.prog 400 os).forCall (fun _ _ => 0) ⟨#[], args, []⟩).memory :=
  laidMetH_of_parts3 (fuel := 8) (laidMet_of_run' 8 (by kernel_rfl) (by kernel_rfl)) (by kernel_rfl) (by kernel_rfl)

/-- types of plain data, whose parts lie one behind the other -/
def contig (P : Program) : Nat → List Field → Nat → Bool
  | o, [], m => o == m
  | o, f :: r, m => f.offset == o && contig P (o + P.cellsOf f.type) r m
def plainB (P : Program) : Nat → TypeId → Bool
  | 0, _ => false
  | g + 1, t => match P.underlying t with
    | some (.int _) => true
    | some .bool => true
    | some .string => true
    | some (.array n e) => plainB P g e && (P.cellsOf t == n * P.cellsOf e)
    | some (.struct fs) => fs.toList.all (fun x => plainB P g x.type) && contig P 0 fs.toList (P.cellsOf t)
    | _ => false
theorem flats_chunks {H : Type} {c : Nat} : ∀ (n : Nat) (cs : List Value) (xs : List (DataW H × List MemPlace)), cs.length = n * c → xs.length = n →
    (∀ i y, xs[i]? = some y → (cs.drop (i * c)).take c = xflat y.1) → cs = xflats (xs.map (·.1))
  | 0, cs, xs, h1, h2, _ => by
    rw [Nat.zero_mul] at h1
    rw [List.length_eq_zero_iff.1 h1, List.length_eq_zero_iff.1 h2]
    rfl
  | n + 1, cs, [], h1, h2, _ => by simp at h2
  | n + 1, cs, y :: r, h1, h2, h => by
    have h0 := h 0 y rfl
    rw [Nat.zero_mul, List.drop_zero] at h0
    rw [Nat.add_mul, Nat.one_mul] at h1
    have ih := flats_chunks (c := c) n (cs.drop c) r (by rw [List.length_drop]; omega) (by simpa using h2) (fun i z hz => by
      have := h (i + 1) z (by simpa using hz)
      rw [Nat.add_mul, Nat.one_mul, Nat.add_comm] at this
      rw [List.drop_drop]
      exact this)
    show cs = xflat y.1 ++ xflats (r.map (·.1))
    rw [← ih, ← h0, List.take_append_drop]
theorem flats_fields {H : Type} {P : Program} {m : Nat} : ∀ (fs : List Field) (o : Nat) (cs : List Value) (xs : List (DataW H × List MemPlace)), cs.length = m → contig P o fs m = true → xs.length = fs.length →
    (∀ (i : Nat) (f : Field) (y : DataW H × List MemPlace), fs[i]? = some f → xs[i]? = some y → (cs.drop f.offset).take (P.cellsOf f.type) = xflat y.1) → cs.drop o = xflats (xs.map (·.1))
  | [], o, cs, xs, h1, hc, h2, _ => by
    have hx : xs = [] := List.length_eq_zero_iff.1 (by simpa using h2)
    subst hx
    have : o = m := by simpa [contig] using hc
    rw [List.drop_eq_nil_iff.2 (by omega)]
    rfl
  | f :: r, o, cs, [], h1, hc, h2, _ => by simp at h2
  | f :: r, o, cs, y :: q, h1, hc, h2, h => by
    simp only [contig, Bool.and_eq_true, beq_iff_eq] at hc
    obtain ⟨ho, hc⟩ := hc
    have h0 := h 0 f y rfl rfl
    rw [ho] at h0
    have ih := flats_fields r (o + P.cellsOf f.type) cs q h1 hc (by simpa using h2) (fun i g z hg hz => h (i + 1) g z (by simpa using hg) (by simpa using hz))
    show cs.drop o = xflat y.1 ++ xflats (q.map (·.1))
    rw [← ih, ← h0, ← List.drop_drop, List.take_append_drop]
/-- plain data tells its cells -/
theorem flat_of {H : Type} {enc : TypeId × Value → H} {P : Program} {w : World} {base : Nat} {sp : Nat → Bool} {held : Bool} : ∀ (g : Nat) (t : TypeId) (fuel : Nat) (cs : List Value) (x : DataW H × List MemPlace), plainB P g t = true →
    DataW.trod enc P w base sp held fuel t cs = some x → cs = xflat x.1
  | 0, t, fuel, cs, x, hp, h => by simp [plainB] at hp
  | g + 1, t, fuel, cs, x, hp, h => by
    unfold plainB at hp
    split at hp
    · rename_i k hk
      obtain ⟨n, rfl, rfl, _⟩ := DataW.trod_int hk h
      rfl
    · rename_i hk
      obtain ⟨b, rfl, rfl⟩ := DataW.trod_bool hk h
      rfl
    · rename_i hk
      obtain ⟨s, rfl, rfl, _⟩ := DataW.trod_string hk h
      show [Value.string s] = [Value.string ⟨s.data.toList.toArray⟩]
      rw [Array.toArray_toList]
    · rename_i n e hk
      rw [Bool.and_eq_true, beq_iff_eq] at hp
      obtain ⟨xs, m, _, rfl, hl, hlen, hg⟩ := DataW.trod_array hk h
      show cs = xflats _
      refine flats_chunks n cs xs (by rw [hl, hp.2]) hlen (fun i y hy => ?_)
      obtain ⟨hi, _⟩ := List.getElem?_eq_some_iff.1 hy
      have := hg i (by omega)
      rw [hy] at this
      exact flat_of g e m _ y hp.1 this
    · rename_i fs hk
      rw [Bool.and_eq_true] at hp
      obtain ⟨xs, m, _, rfl, hl, hlen, hg⟩ := DataW.trod_struct hk h
      show cs = xflats _
      have := flats_fields (P := P) fs.toList 0 cs xs hl hp.2 (by simpa using hlen) (fun i f y hf hy => by
        have hf' : fs[i]? = some f := by simpa using hf
        have h1 := hg i f hf'
        rw [hy] at h1
        exact flat_of g f.type m _ y (by
          have := List.all_eq_true.1 hp.1 f (List.mem_of_getElem? hf)
          exact this) h1)
      simpa using this
    · cases hp
theorem laid_mem {P : Program} {w : World} {n : String} {d : DataW Unit} : ∀ {l : List (String × DataW Unit)} {ps : List MemPlace}, DataW.LaidVars P w l ps → (n, d) ∈ l →
    ∃ g t cs fuel p, P.globalNamed n = some g ∧ (P.globals[g]?).map (·.type) = some t ∧ w.var? P n = some cs ∧ DataW.trod (fun _ => ()) P w 0 (fun _ => true) false fuel t cs.toList = some (d, p)
  | [], _, _, h => by cases h
  | (m, e) :: r, ps, hl, h => by
    obtain ⟨g, t, cs, fuel, p, q, h1, h2, h3, h4, h5, _⟩ := hl
    rcases List.mem_cons.1 h with h' | h'
    · injection h' with e1 e2
      subst e1 e2
      exact ⟨g, t, cs, fuel, p, h1, h2, h3, h4⟩
    · exact laid_mem h5 h'
theorem tab_of {w : World} {n : String} {d : DataW Unit} {ps : List MemPlace} {g t : Nat} (h : DataW.LaidVars Tryz.prog w laid1 ps) (hm : (n, d) ∈ (laid1 : List (String × DataW Unit))) (hg : Tryz.prog.globalNamed n = some g)
    (ht : (Tryz.prog.globals[g]?).map (·.type) = some t) (hp : plainB Tryz.prog 6 t = true) : ∃ t fr, w.heap[g]? = some (.cells (xflat d).toArray t fr) := by
  obtain ⟨g', t', cs, fuel, p, h1, h2, h3, h4⟩ := laid_mem h hm
  obtain rfl := Option.some.inj (hg.symm.trans h1)
  obtain rfl := Option.some.inj (ht.symm.trans h2)
  have h5 := flat_of 6 t fuel _ _ hp h4
  unfold World.var? at h3
  rw [hg] at h3
  simp only [Option.bind_some] at h3
  split at h3
  · rename_i cs' t' fr hh
    injection h3 with h3
    subst h3
    refine ⟨t', fr, ?_⟩
    rw [hh]
    have h6 : cs' = (xflat d).toArray := by rw [← h5]
    rw [h6]
  · cases h3
theorem of_laid {W : World} (h : laidMetH Tryz.prog laid1 W) : PTabs W := by
  rw [MakeChecks.laidMetH_plain _ _ _ (by kernel_rfl)] at h
  obtain ⟨ps, h, _⟩ := h
  refine ⟨?_, ⟨?_, ?_, ?_⟩, ?_⟩
  · exact tab_of (t := 95) (n := "balustrade/lex.keyWords") (d := Rows.laid_balustrade_lex_keyWords) h (by simp [laid1]) (by kernel_rfl) (by kernel_rfl) (by kernel_rfl)
  · exact tab_of (t := 102) (n := "balustrade/expr.strengths") (d := Rows.laid_balustrade_expr_strengths) h (by simp [laid1]) (by kernel_rfl) (by kernel_rfl) (by kernel_rfl)
  · exact tab_of (t := 103) (n := "balustrade/expr.signs") (d := Rows.laid_balustrade_expr_signs) h (by simp [laid1]) (by kernel_rfl) (by kernel_rfl) (by kernel_rfl)
  · exact tab_of (t := 109) (n := "balustrade/expr.fronts") (d := Rows.laid_balustrade_expr_fronts) h (by simp [laid1]) (by kernel_rfl) (by kernel_rfl) (by kernel_rfl)
  · exact tab_of (t := 98) (n := "balustrade/parse.kindWords") (d := Rows.laid_balustrade_parse_kindWords) h (by simp [laid1]) (by kernel_rfl) (by kernel_rfl) (by kernel_rfl)
theorem wf_u8 {n : Int} (h : (Lit.int .u8 n).wf = true) : ∃ k : Nat, n = (k : Int) ∧ k < 256 := by
  have h1 : IntKind.u8.min = 0 := rfl
  have h2 : IntKind.u8.max = 255 := rfl
  simp [Lit.wf, h1, h2] at h
  exact ⟨n.toNat, by omega, by omega⟩
end Go.Proofs.YtagacfcpepoaoaaGreatDoor
