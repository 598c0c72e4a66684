/- What lex tells is what the reader wants; Parse of it. -/
import Derived.Test.YtagacfcpepoaoaaGreatDoorRefLex5
import Derived.Test.YtagacfcpepoaoaaGreatDoorMShape
import Derived.Test.YtagacfcpepoaoaaGreatDoorMTree
import Derived.Test.YtagacfcpepoaoaaGreatDoorTreeRef3
import Derived.Test.YtagacfcpepoaoaaGreatDoorTreeSm
namespace Go.Proofs.YtagacfcpepoaoaaGreatDoor
open Go.RowKit
set_option linter.unusedVariables false

theorem k0_one {r : List UInt8} (h : k0 r = 1) : 0 < r.length ∧ isLt (bt r 0) = true := by
  cases r with
  | nil => cases h
  | cons c cs =>
    have h' : (if isLt c.toNat then 1 else if isDg c.toNat then 2 else 4) = 1 := h
    by_cases g : isLt c.toNat = true
    · exact ⟨by simp, g⟩
    · rw [if_neg g] at h'
      split at h' <;> cases h'
theorem lt_dg {n : Nat} (h : isLt n = true) : isDg n = false := by
  cases hd : isDg n with
  | false => rfl
  | true => rw [dg_lt hd] at h; cases h
theorem tk_name {r : List UInt8} {p : Nat} (he : er r = 0) (hk : (tk r p).kind = 1) : nameB (tk r p).text = true := by
  have hk' : kdOf (k0 r) (r.take (ln r)) = 1 := hk
  unfold kdOf at hk'
  split at hk'
  · cases hk'
  · rename_i hkey
    have hnk : isKey (r.take (ln r)) = false := by
      cases h : isKey (r.take (ln r)) with
      | false => rfl
      | true => exact absurd ⟨hk', h⟩ hkey
    obtain ⟨hl, hlt⟩ := k0_one hk'
    have hln := (ln_lt hl hlt).2
    have h0 := er_ln he
    have hle := ln_le r
    have h32 : ln r ≤ 32 := by
      unfold er erOf at he
      rw [if_neg (by omega), hk', if_neg (by decide), hnk, if_neg (fun h => by cases h.2)] at he
      by_cases g : 32 < ln r
      · rw [if_pos ⟨rfl, g⟩] at he; cases he
      · omega
    show nameB (r.take (ln r)) = true
    have hlen : (r.take (ln r)).length = ln r := by rw [List.length_take]; omega
    refine nb_ok (by omega) (by omega) ?_ ?_ hnk
    · rw [bt_take h0]; exact lt_dg hlt
    · intro k hk2
      rw [bt_take (by omega)]
      exact rn_all isWb r k (by omega)
theorem num_small {t : List UInt8} : (num t).getD 0 ≤ 9223372036854775807 := by
  cases h : num t with
  | none => exact Nat.zero_le _
  | some n => exact num_le (l := t) (k := t.length) (by rw [List.take_length]; exact h)
theorem S_isTk {r : List UInt8} : ∀ {p : Nat} {L : List Tk}, S r p = .ok L → IsTk L := by
  refine left_ind (Q := fun r => ∀ {p : Nat} {L : List Tk}, S r p = .ok L → IsTk L) ?_ ?_ ?_ r
  · intro p L h
    injection h with h
    subst h
    refine ⟨fun j t ht hk => ?_, fun t ht hk => ?_, fun t ht => ?_⟩
    · match j, ht with
      | 0, ht => injection ht with ht; subst ht; exact absurd rfl hk
    · rw [List.mem_singleton.1 ht] at hk; cases hk
    · rw [List.mem_singleton.1 ht]; exact Nat.zero_le _
  · intro r hr hb p L h; rw [S_bad p hr hb] at h; cases h
  · intro r hr hb ih p L h
    rcases S_cases h with ⟨e, _⟩ | ⟨_, _, M, rfl, hM⟩
    · exact absurd e hr
    · have hi := ih hM
      refine ⟨fun j t ht hk => ?_, fun t ht hk => ?_, fun t ht => ?_⟩
      · have := S_some hM
        cases j with
        | zero => rw [List.length_cons]; omega
        | succ j => have := hi.fin j t ht hk; rw [List.length_cons]; omega
      · rcases List.mem_cons.1 ht with rfl | ht
        · exact tk_name hb hk
        · exact hi.name t ht hk
      · rcases List.mem_cons.1 ht with rfl | ht
        · show nmOf _ _ ≤ _
          unfold nmOf
          split
          · exact num_small
          · exact Nat.zero_le _
        · exact hi.num t ht
theorem T_isTk {l : List UInt8} {L : List Tk} (h : T l 0 = .ok L) : IsTk L := S_isTk h
theorem T_len {l : List UInt8} {L : List Tk} (h : T l 0 = .ok L) : 0 < L.length ∧ L.length ≤ l.length + 1 := by
  refine ⟨S_some h, ?_⟩
  have := S_length h
  rw [List.length_drop] at this
  omega
theorem T_isL {l : List UInt8} {L : List Tk} (h : T l 0 = .ok L) (hl : l.length ≤ 65536) : IsL L := by
  have := T_len h
  exact ⟨this.1, by omega, (T_isTk h).fin⟩
/-- what was read, by the document's words -/
structure Ans (L : List Tk) (l : List Nd) : Prop where
  right : Rt l
  ex : isEx (nd l (l.length - 1)).kind = true
  stand : ∀ x ∈ l, ∃ t ∈ L, x.at_ = (t.place : Int)
  few : ∀ x ∈ l, x.kids.length ≤ l.length
  nums : ∀ x ∈ l, 0 ≤ x.n ∧ x.n ≤ 9223372036854775807
theorem parsed_ok {L : List Tk} (hL : IsTk L) (h0 : 0 < L.length) {v : Out} (h : Reads (.chain 0) 0 ⟨L, [], []⟩ v) {l : List Nd} (hp : parsed v = .ok l) : Ans L l := by
  have ht := reads_told hL h0 h
  cases v with
  | error f => cases hp
  | ok x =>
    obtain ⟨ps, s'⟩ := x
    have hp' : (if s'.tok.kind = 0 then Except.ok s'.l else Except.error (8, s'.tok.place)) = (Except.ok l : Except Flt (List Nd)) := hp
    split at hp'
    · injection hp' with hp'
      subst hp'
      exact ⟨ht.1, ht.2.1, ht.2.2.1, ht.2.2.2.1, ht.2.2.2.2.2.1⟩
    · cases hp'
theorem parsed_bad {L : List Tk} (hL : IsTk L) (h0 : 0 < L.length) {v : Out} (h : Reads (.chain 0) 0 ⟨L, [], []⟩ v) {x q : Nat} (hp : parsed v = .error (x, q)) : ∃ t ∈ L, q = t.place := by
  have ht := reads_told hL h0 h
  cases v with
  | error f => injection hp with hp; subst hp; exact ht
  | ok y =>
    obtain ⟨ps, s'⟩ := y
    have hp' : (if s'.tok.kind = 0 then Except.ok s'.l else Except.error (8, s'.tok.place)) = (Except.error (x, q) : Except Flt (List Nd)) := hp
    split at hp'
    · cases hp'
    · injection hp' with hp'
      injection hp' with _ h2
      exact ⟨_, ht.2.2.2.2.1, h2.symm⟩
theorem parsed_len {L : List Tk} {o : Out} {r : List Nd} (hr : Reads (.chain 0) 0 ⟨L, [], []⟩ o) (hp : parsed o = .ok r) : r.length ≤ L.length := by
  cases o with
  | error f => cases hp
  | ok y =>
    obtain ⟨ps, s'⟩ := y
    have hsl := hr.slack.1
    have he : r = s'.l := by
      have hp' : (if s'.tok.kind = 0 then Except.ok s'.l else Except.error (8, s'.tok.place)) = (Except.ok r : Except Flt (List Nd)) := hp
      split at hp'
      · injection hp' with hp'; exact hp'.symm
      · cases hp'
    rw [he]
    have e0 : ([] : List Nd).length = 0 := rfl
    simp only [e0] at hsl
    omega
/-- a tree whose lists of kids lie somewhere is Right if it is without these -/
theorem nd_bare (l : List Nd) (i : Nat) : nd (l.map bare) i = bare (nd l i) := by
  unfold nd
  rw [List.getD_eq_getElem?_getD, List.getD_eq_getElem?_getD, List.getElem?_map]
  cases l[i]? with
  | none => rfl
  | some x => rfl
theorem Given.nodes {w w' : World} {v : Value} {l : List Nd} (h : Given w w' v l) (hs : ∀ x ∈ l, x.kids.length ≤ 100000 ∧ 0 ≤ x.n ∧ x.n ≤ 9223372036854775807 ∧ x.s.size ≤ 32) :
    ∃ a c l', v = .slice a l'.length c ∧ Nodes w' a l' ∧ l'.map bare = l := by
  obtain ⟨l', h1, h2, h3⟩ := h
  have hok : ∀ j, j < l'.length → Ok w' (nd l' j) := by
    intro j hj
    have hm : nd l' j ∈ l' := by
      unfold nd
      rw [List.getD_eq_getElem?_getD, List.getElem?_eq_getElem hj]
      exact List.getElem_mem _
    have hb : bare (nd l' j) ∈ l := by rw [← h2]; exact List.mem_map_of_mem hm
    obtain ⟨k1, k2, k3, k4⟩ := hs _ hb
    have hN := h3 _ hm
    have k1' : (nd l' j).kids.length ≤ 100000 := k1
    have k2' : 0 ≤ (nd l' j).n := k2
    have k3' : (nd l' j).n ≤ 9223372036854775807 := k3
    have k4' : (nd l' j).s.size ≤ 32 := k4
    obtain ⟨A, N, C, hA⟩ : ∃ A N C, kidV (nd l' j) = .slice A N C := ⟨_, _, _, rfl⟩
    unfold kidV at hA
    rcases hN.2 with ⟨e1, e2⟩ | ⟨g, cap, cur, e1, e2, e3, e4, e5, e6, e7⟩
    · have ea : (nd l' j).ka = none := by unfold kidV at e1; injection e1
      have ec : (nd l' j).kc = 0 := by unfold kidV at e1; injection e1
      have ek : (nd l' j).kids.length = 0 := by unfold kidV at e1; injection e1
      exact ⟨fun h => by omega, by omega, fun _ => ec, by omega, by omega, by omega, by omega⟩
    · have ea : (nd l' j).ka = some ⟨g, 0, none⟩ := by unfold kidV at e1; injection e1
      have ec : (nd l' j).kc = cap := by unfold kidV at e1; injection e1
      refine ⟨fun hpos => ⟨g, 0, ea, (Array.getElem?_eq_some_iff.1 e3).1, fun k hk => ?_⟩, by rw [ec]; exact e4, (fun h => by rw [ea] at h; cases h), by omega, by omega, by omega, by omega⟩
      have hkk : (nd l' j).kids[k]? = some ((nd l' j).kids.getD k 0) := by
        rw [List.getD_eq_getElem?_getD, List.getElem?_eq_getElem hk]; rfl
      have hc := World.ownsRow.cells hN (g := g) (by unfold kidV; rw [ea]; rfl) k (.int .i64 ((nd l' j).kids.getD k 0)) (by rw [List.getElem?_map, hkk]; rfl)
      rw [add_zero_at] at hc
      rw [Nat.zero_add]
      exact hc
  rcases h1.2 with ⟨rfl, e2⟩ | ⟨g, cap, cur, rfl, e2, e3, r⟩
  · exact ⟨none, 0, l', by rw [e2], ⟨fun h => by omega, hok⟩, h2⟩
  · refine ⟨some ⟨g, 0, none⟩, cap, l', rfl, ⟨fun _ => ⟨g, 0, rfl, (Array.getElem?_eq_some_iff.1 e3).1, fun j hj => ?_⟩, hok⟩, h2⟩
    have hget : ∀ k, k < 5 → ∀ u, (nd l' j).cs.toList[k]? = some u → w'.cell? ⟨g, 0 + j * 5 + k, none⟩ = some u := by
      intro k hk u hu
      rw [Nat.zero_add]
      have hc := World.ownsRow.cells h1 (g := g) rfl (j * 5 + k) u ((ndCells_get l' j k hj hk).trans hu)
      rw [add_zero_at] at hc
      exact hc
    exact ⟨hget 0 (by omega) _ rfl, hget 1 (by omega) _ rfl, hget 2 (by omega) _ rfl, hget 3 (by omega) _ rfl, hget 4 (by omega) _ rfl⟩
/-- what Parse tells of tokens -/
def PTold (L : List Tk) (w : World) (e : Ending) (w' : World) : Prop :=
  Below w.heap.size w w' ∧ ∃ v, Reads (.chain 0) 0 ⟨L, [], []⟩ v ∧
    ((∃ l l' a c, parsed v = .ok l ∧ e = .returned (.tuple #[.slice a l'.length c, .agg #[.int .i64 0, .int .i64 0]]) ∧ Nodes w' a l' ∧ l'.map bare = l) ∨
     (∃ x q : Nat, parsed v = .error (x, q) ∧ x ≠ 0 ∧ e = .returned (.tuple #[.slice none 0 0, .agg #[.int .i64 (x : Int), .int .i64 (q : Int)]])))
theorem s_small {l : List Nd} (h : Rt l) : ∀ x ∈ l, x.s.size ≤ 32 := by
  intro x hx
  obtain ⟨i, hi, e⟩ := List.getElem_of_mem hx
  have hf := h.2.1 i hi
  have en : nd l i = x := by unfold nd; rw [List.getD_eq_getElem?_getD, List.getElem?_eq_getElem hi, e]; rfl
  rw [en] at hf
  unfold fitB at hf
  have ho : ownB x = true := by
    cases g : ownB x with
    | true => rfl
    | false => rw [g] at hf; cases hf
  unfold ownB at ho
  simp only [Bool.and_eq_true] at ho
  have hz := ho.1.2
  have hsz : x.s.size = x.t.length := (length_of x.s).symm
  split at hz
  · unfold nameB at hz
    simp only [Bool.and_eq_true, decide_eq_true_eq] at hz
    omega
  · have : x.t = [] := of_decide_eq_true hz
    rw [hsz, this]
    exact Nat.zero_le _
end Go.Proofs.YtagacfcpepoaoaaGreatDoor
