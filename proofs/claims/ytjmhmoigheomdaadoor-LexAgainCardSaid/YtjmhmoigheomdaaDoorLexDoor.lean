/- What the statements of lex share: the table of key words that the program lays. -/
import Derived.Test.YtjmhmoigheomdaaDoorRows
import Derived.Test.YtjmhmoigheomdaaDoorLexWord
import Derived.ProofKit
import Derived.LaidMore
import Derived.OpenShut
import Derived.ShutString
import Derived.ChangeOld
import Derived.Stop.Joined
namespace Go.Proofs.YtjmhmoigheomdaaDoor
open Go.ChangeShapes Go.WideShapes Go.ChangeAt Go.RowKit Go.WideElems
set_option linter.unusedVariables false

theorem own : ownKnob Tryd.prog.godebug = none := by kernel_rfl
theorem laidOut : laidOutB Tryd.prog = true := by kernel_rfl
def laid1 {H : Type} : List (String × DataW H) := [("balustrade/lex.keyWords", Rows.laid_balustrade_lex_keyWords)]
theorem gTab : Tryd.prog.globalNamed "balustrade/lex.keyWords" = some 0 := by kernel_rfl
theorem tTab : (Tryd.prog.globals[0]?).map (·.type) = some 38 := by kernel_rfl

/-- the door's own heap meets the condition -/
theorem door_met (os : Os) (args : Array Value) : laidMetH Tryd.prog laid1 ((World.doorLaid Tryd.prog 400 os).forCall (fun _ _ => 0) ⟨#[], args, []⟩).memory :=
  laidMetH_of_parts3 (fuel := 8) (laidMet_of_run' 8 (by kernel_rfl) (by kernel_rfl)) (by kernel_rfl) (by kernel_rfl)

theorem of_laid {W : World} (h : laidMetH Tryd.prog laid1 W) : Tab W := by
  rw [MakeChecks.laidMetH_plain _ _ _ (by kernel_rfl)] at h
  obtain ⟨ps, ⟨g0, t0, cs0, f0, p0, q0, hg0, ht0, hv0, hd0, _, _⟩, _, _⟩ := h
  obtain rfl := Option.some.inj (gTab.symm.trans hg0)
  obtain rfl := Option.some.inj (tTab.symm.trans ht0)
  obtain ⟨xs, m1, rfl, hx1, hlen, hn3, hel⟩ := DataW.trod_array Tryd.underlying38 hd0
  have c1 : Tryd.prog.cellsOf 9 = 1 := by kernel_rfl
  have c18 : Tryd.prog.cellsOf 38 = 18 := by kernel_rfl
  rw [c18] at hlen
  have hmap : xs.map (fun x => x.fst) = keys.map (fun b => DataW.lit (.string b)) := by
    have h1 := congrArg Prod.fst hx1
    have h2 : (Rows.laid_balustrade_lex_keyWords : DataW Unit) = DataW.agg (keys.map (fun b => DataW.lit (.string b))) := rfl
    simp only [h2] at h1
    injection h1 with h3
    exact h3.symm
  have hcs : cs0 = keyCells := by
    apply Array.toList_inj.1
    apply List.ext_getElem?
    intro j
    rcases Nat.lt_or_ge j 18 with hj | hj
    · have hj0 := hel j hj
      rw [c1, Nat.mul_one] at hj0
      have hjx : j < xs.length := by omega
      have hxj : xs[j]? = some xs[j] := List.getElem?_eq_getElem hjx
      obtain ⟨s, e1, e2, _⟩ := DataW.trod_string Tryd.underlying9 (hj0.trans hxj)
      have e3 : cs0.toList[j]? = (List.take 1 (List.drop j cs0.toList))[0]? := by simp
      have hk : j < keys.length := hj
      have h1 := congrArg (fun l => l[j]?) hmap
      simp only [List.getElem?_map, hxj, Option.map_some, e2, List.getElem?_eq_getElem hk] at h1
      injection h1 with h2
      injection h2 with h3
      injection h3 with h4
      have hs : s = ⟨keys[j].toArray⟩ := by
        rw [← h4]
      rw [e3, e1, hs]
      show some (Value.string _) = (keys.map txt)[j]?
      rw [List.getElem?_map, List.getElem?_eq_getElem hk]
      rfl
    · rw [List.getElem?_eq_none (by omega), List.getElem?_eq_none (by exact hj)]
  subst hcs
  unfold World.var? at hv0
  rw [hg0] at hv0
  simp only [Option.bind_some] at hv0
  split at hv0
  · rename_i cs t fr hh
    injection hv0 with hv0
    subst hv0
    exact ⟨t, fr, hh⟩
  · cases hv0
end Go.Proofs.YtjmhmoigheomdaaDoor
