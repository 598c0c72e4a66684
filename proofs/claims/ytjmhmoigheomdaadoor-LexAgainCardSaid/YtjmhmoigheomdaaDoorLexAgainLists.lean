/- What LexAgain asks of lists of tokens; long texts. -/
import Derived.Test.YtjmhmoigheomdaaDoorLexWorks
import Derived.Deep.QuietTactic
import Derived.BigQuiet
namespace Go.Proofs.YtjmhmoigheomdaaDoor
open Go.RowKit
set_option linter.unusedVariables false

theorem joined_append : ∀ A B : List Tk, joined (A ++ B) = joined A ++ joined B
  | [], _ => rfl
  | t :: A, B => by
    show t.text ++ 32 :: joined (A ++ B) = (t.text ++ 32 :: joined A) ++ joined B
    rw [joined_append A B, List.append_assoc]
    rfl
theorem joined_next {L : List Tk} {k : Nat} {t : Tk} (h : L[k]? = some t) : joined (L.take (k + 1)) = joined (L.take k) ++ t.text ++ [32] := by
  obtain ⟨hk, e⟩ := List.getElem?_eq_some_iff.1 h
  rw [List.take_succ_eq_append_getElem hk, e, joined_append, List.append_assoc]
  rfl
theorem joined_le (L : List Tk) (k : Nat) : (joined (L.take k)).length ≤ (joined L).length := by
  have e : joined L = joined (L.take k) ++ joined (L.drop k) := by rw [← joined_append, List.take_append_drop]
  rw [e, List.length_append]
  omega
theorem S_place {r : List UInt8} : ∀ {p : Nat} {L : List Tk} {i : Nat} {t : Tk}, S r p = .ok L → L[i]? = some t → t.place ≤ p + r.length := by
  refine left_ind (Q := fun r => ∀ {p : Nat} {L : List Tk} {i : Nat} {t : Tk}, S r p = .ok L → L[i]? = some t → t.place ≤ p + r.length) ?_ ?_ ?_ r
  · intro p L i t h ht
    injection h with h
    subst h
    cases i with
    | zero => simp at ht; subst ht; exact Nat.le_add_right _ _
    | succ i => simp at ht
  · intro r hr hb p L i t h; rw [S_bad p hr hb] at h; cases h
  · intro r hr hb ih p L i t h ht
    rcases S_cases h with ⟨e, _⟩ | ⟨_, _, M, rfl, hM⟩
    · exact absurd e hr
    · cases i with
      | zero => simp at ht; subst ht; exact Nat.le_add_right _ _
      | succ i =>
        simp at ht
        have := ih hM ht
        rw [nxt_length] at this
        have := off_le r
        omega
theorem place_le {l : List UInt8} {n : Nat} {L : List Tk} {i : Nat} {t : Tk} (h : T l 0 = .ok L) (hl : l.length = n) (ht : L[i]? = some t) : t.place ≤ n := by
  unfold T at h
  have := S_place h ht
  rw [List.length_drop] at this
  have := skp_le false l
  omega
theorem wf_u8 {n : Int} (h : (Lit.int .u8 n).wf = true) : ∃ k : Nat, n = (k : Int) ∧ k < 256 := by
  have h1 : IntKind.u8.min = 0 := rfl
  have h2 : IntKind.u8.max = 255 := rfl
  simp [Lit.wf, h1, h2] at h
  exact ⟨n.toNat, by omega, by omega⟩
set_option maxRecDepth 100000 in
theorem again_long (s : ByteArray) (h : Nat) (w : World) (hT : Tab w) (hs : 300 < s.size) :
    Calls Tryd.prog 4 #[.string s, .int .u8 (h : Int)] w fun e w' => e = .returned (.bool true) ∧ Below w.heap.size w w' := by
  have hs' : (300 : Int) < (s.size : Int) := by omega
  go_enter Tryd.func4, Tryd.ntmps4
  go_wp2_with fail
  refine (works_true w hT).mono ?_
  rintro e w1 ⟨rfl, hb⟩
  have HB := hidden hb
  clear hb
  go_wp2_with fail
  go_ret
  exact ⟨rfl, HB.out⟩
end Go.Proofs.YtjmhmoigheomdaaDoor
