/- ParseKid, ParseOne, in one text. -/
import Derived.Test.YtagacfcpepoaoaaGreatDoorMAny
namespace Go.Proofs.YtagacfcpepoaoaaGreatDoor
set_option linter.unusedVariables false

variable {o : Except Flt PS} {d : Nat} {v u : Out} {b : List UInt8} {s : PS}
def kindO : Except Flt PS → Except Flt PS
  | .ok s => if kindAt s.tok = 0 then .error (8, s.tok.place) else .ok s.next
  | .error f => .error f
def kdO : Except Flt PS → Nat
  | .ok s => kindAt s.tok
  | .error f => 0
theorem kindO_no (h : kindAt s.tok = 0) : kindO (.ok s) = .error (8, s.tok.place) := if_pos h
theorem kindO_yes (h : kindAt s.tok ≠ 0) : kindO (.ok s) = .ok s.next := if_neg h
theorem sees_other {t : Tk} {a : List UInt8} (h : sees t a = true) (hne : a ≠ b) : sees t b = false := by
  unfold sees at h ⊢
  simp only [Bool.and_eq_true, beq_iff_eq] at h
  rw [h.2]
  simp [hne]
theorem kindAt_kind {t : Tk} (h : kindAt t ≠ 0) : t.kind ≠ 0 := by
  unfold kindAt at h
  split at h
  · rename_i g; exact sees_nz g
  · split at h
    · rename_i g; exact sees_nz g
    · split at h
      · rename_i g; exact sees_nz g
      · exact absurd rfl h
theorem Does.kind {G : Nat → PS → Nat → Option Out} (h : Does (kindO o) (G (kdO o)) v) : Does o (fun s n => needKind s (fun k s1 => G k s1 n)) v := by
  cases o with
  | error f => exact h
  | ok s =>
    by_cases hb : kindAt s.tok = 0
    · rw [kindO_no hb] at h; rw [show v = _ from h]; exact Ev.kind_no (f := fun n k s1 => G k s1 n) hb
    · rw [kindO_yes hb] at h; exact Ev.kind (f := fun n k s1 => G k s1 n) hb h
theorem Lim.kind {n m : Nat} (h : Lim o (n + 1) (m + 1)) : Lim (kindO o) n m := by
  cases o with
  | error f => exact Lim.err
  | ok s =>
    by_cases hb : kindAt s.tok = 0
    · rw [kindO_no hb]; exact Lim.err
    · rw [kindO_yes hb]
      intro s' e
      injection e with e
      subst e
      have h1 := h s rfl
      have h2 := kind_some (kindAt_kind hb)
      have h3 : s.next.l = s.l := rfl
      rw [h3]
      exact ⟨by omega, by omega⟩
theorem Lim.kind_le {n m : Nat} (h : Lim o n m) : Lim (kindO o) n m := by
  cases o with
  | error f => exact Lim.err
  | ok s =>
    by_cases hb : kindAt s.tok = 0
    · rw [kindO_no hb]; exact Lim.err
    · have h1 := h s rfl
      have h2 := kind_some (kindAt_kind hb)
      exact ((Lim.kind (n := n - 1) (m := m - 1) (h.mono (by omega) (by omega))).mono (by omega) (by omega))
theorem Lim.next {n m : Nat} (h : Lim (.ok s) (n + 1) (m + 1)) (hb : s.is b = true) : Lim (.ok s.next) n m := by
  have := Lim.need (b := b) h
  rw [needO_yes hb] at this
  exact this
theorem Lim.next_le {n m : Nat} (h : Lim (.ok s) n m) (hb : s.is b = true) : Lim (.ok s.next) (n - 1) (m - 1) := by
  have h1 := h s rfl
  have h2 := is_some hb
  exact Lim.next (h.mono (by omega) (by omega)) hb
theorem Does.ite_yes {X Y : PS → Nat → Option Out} (hs : o = .ok s) (hb : s.is b = true) (h : Does (.ok s.next) X u) : Does o (fun s n => if s.is b then X s.next n else Y s n) u := by
  subst hs
  exact Ev.ite_pos (F := fun n => X s.next n) (G := fun n => Y s n) hb h
theorem Does.ite_at {X Y : PS → Nat → Option Out} (hs : o = .ok s) (hb : s.is b = true) (h : Does (.ok s) X u) : Does o (fun s n => if s.is b then X s n else Y s n) u := by
  subst hs
  exact Ev.ite_pos (F := fun n => X s n) (G := fun n => Y s n) hb h
theorem Does.ite_no {X Y : PS → Nat → Option Out} (hb : ∀ s, o = .ok s → s.is b = false) (h : Does o Y u) : Does o (fun s n => if s.is b then X s n else Y s n) u := by
  cases o with
  | error f => exact h
  | ok s => exact Ev.ite_neg (F := fun n => X s n) (G := fun n => Y s n) (by rw [hb s rfl]; decide) h
/-- reading a block or a statement -/
theorem Does.left {m : Pm} (hm : ∀ acc, m ≠ .prog acc) (h : Does o (fun s n => prd n m d s) u) (n k : Nat) (hl : Lim o n k) : Lim (toO u) n k := by
  cases o with
  | error f => rw [show u = _ from h]; exact Lim.err
  | ok s =>
    match u, h with
    | .error f, _ => exact Lim.err
    | .ok (p, s1), h =>
      intro s' e
      injection e with e
      subst e
      obtain ⟨n0, hn⟩ := h
      have h1 := PReads.left hm ⟨n0, hn n0 (Nat.le_refl _)⟩
      have h2 := hl s rfl
      have h3 := h1.all
      have h4 := h1.toks
      exact ⟨by omega, by omega⟩
theorem Does.to_preads {m : Pm} (h : Does (.ok s) (fun s n => prd n m d s) u) : PReads m d s u := by
  obtain ⟨n, hn⟩ := h
  exact ⟨n, hn n (Nat.le_refl _)⟩
/-- which statement begins -/
theorem st_var {t : Tk} (h : sees t wVar = true) : stAt t = 1 := if_pos h
theorem st_for {t : Tk} (h : sees t wFor = true) : stAt t = 2 := by unfold stAt; rw [sees_other h (show _ ≠ wVar by decide), h]; rfl
theorem st_break {t : Tk} (h : sees t wBreak = true) : stAt t = 3 := by unfold stAt; rw [sees_other h (show _ ≠ wVar by decide), sees_other h (show _ ≠ wFor by decide), h]; rfl
theorem st_cont {t : Tk} (h : sees t wCont = true) : stAt t = 4 := by unfold stAt; rw [sees_other h (show _ ≠ wVar by decide), sees_other h (show _ ≠ wFor by decide), sees_other h (show _ ≠ wBreak by decide), h]; rfl
theorem st_ret {t : Tk} (h : sees t wRet = true) : stAt t = 5 := by unfold stAt; rw [sees_other h (show _ ≠ wVar by decide), sees_other h (show _ ≠ wFor by decide), sees_other h (show _ ≠ wBreak by decide), sees_other h (show _ ≠ wCont by decide), h]; rfl
theorem st_print {t : Tk} (h : sees t wPrint = true) : stAt t = 6 := by unfold stAt; rw [sees_other h (show _ ≠ wVar by decide), sees_other h (show _ ≠ wFor by decide), sees_other h (show _ ≠ wBreak by decide), sees_other h (show _ ≠ wCont by decide), sees_other h (show _ ≠ wRet by decide), h]; rfl
theorem st_while {t : Tk} (h : sees t wWhile = true) : stAt t = 7 := by unfold stAt; rw [sees_other h (show _ ≠ wVar by decide), sees_other h (show _ ≠ wFor by decide), sees_other h (show _ ≠ wBreak by decide), sees_other h (show _ ≠ wCont by decide), sees_other h (show _ ≠ wRet by decide), sees_other h (show _ ≠ wPrint by decide), h]; rfl
theorem st_if {t : Tk} (h : sees t wIf = true) : stAt t = 8 := by unfold stAt; rw [sees_other h (show _ ≠ wVar by decide), sees_other h (show _ ≠ wFor by decide), sees_other h (show _ ≠ wBreak by decide), sees_other h (show _ ≠ wCont by decide), sees_other h (show _ ≠ wRet by decide), sees_other h (show _ ≠ wPrint by decide), sees_other h (show _ ≠ wWhile by decide), h]; rfl
/-- the words in the table's order -/
def tWord (i : Nat) : List UInt8 := [wVar, wIf, wWhile, wFor, wBreak, wCont, wRet, wPrint].getD i []
theorem st_none (h : ∀ j, j < 8 → s.is (tWord j) = false) : stAt s.tok = 0 := by
  have h0 : sees s.tok wVar = false := h 0 (by decide)
  have h1 : sees s.tok wIf = false := h 1 (by decide)
  have h2 : sees s.tok wWhile = false := h 2 (by decide)
  have h3 : sees s.tok wFor = false := h 3 (by decide)
  have h4 : sees s.tok wBreak = false := h 4 (by decide)
  have h5 : sees s.tok wCont = false := h 5 (by decide)
  have h6 : sees s.tok wRet = false := h 6 (by decide)
  have h7 : sees s.tok wPrint = false := h 7 (by decide)
  unfold stAt
  rw [h0, h1, h2, h3, h4, h5, h6, h7]
  rfl
def kWord (i : Nat) : List UInt8 := [[], wInt, wBool, wArr].getD i []
theorem kd_none (h : ∀ j, 1 ≤ j → j < 4 → s.is (kWord j) = false) : kindAt s.tok = 0 := by
  have h1 : sees s.tok wInt = false := h 1 (by decide) (by decide)
  have h2 : sees s.tok wBool = false := h 2 (by decide) (by decide)
  have h3 : sees s.tok wArr = false := h 3 (by decide) (by decide)
  unfold kindAt
  rw [h1, h2, h3]
  rfl
theorem kd_of {i : Nat} (h1 : 1 ≤ i) (h4 : i < 4) (h : s.is (kWord i) = true) : kindAt s.tok = i := by
  have hh : sees s.tok (kWord i) = true := h
  unfold kindAt
  match i, h1, h4, hh with
  | 1, _, _, hh => rw [show sees s.tok wInt = true from hh]; rfl
  | 2, _, _, hh => rw [sees_other hh (show _ ≠ wInt by decide), show sees s.tok wBool = true from hh]; rfl
  | 3, _, _, hh => rw [sees_other hh (show _ ≠ wInt by decide), sees_other hh (show _ ≠ wBool by decide), show sees s.tok wArr = true from hh]; rfl
theorem upto_next {X : Nat → Bool} {l i : Nat} (h : ∀ j, l ≤ j → j < i → X j = false) (hi : X i = false) : ∀ j, l ≤ j → j < i + 1 → X j = false := by
  intro j h1 h2
  rcases Nat.lt_or_ge j i with h3 | h3
  · exact h j h1 h3
  · have : j = i := by omega
    rw [this]; exact hi
/-- a statement that was read has a number -/
def KidOk (v : Out) : Prop := ∀ l s', v = .ok (l, s') → 0 ≤ hd1 l
theorem kid_err {e : Flt} : KidOk (.error e) := fun l s' h => by cases h
theorem kid_lay {x : Nd} (h : some (lay x s) = some v) : KidOk v := by
  injection h with h
  subst h
  unfold lay
  split
  · exact kid_err
  · intro l s' e
    injection e with e
    injection e with e1 e2
    subst e1
    show (0 : Int) ≤ ((s.l.length : Nat) : Int)
    omega
theorem kid_need {f : PS → Option Out} (h : need b s f = some v) (g : ∀ s1, f s1 = some v → KidOk v) : KidOk v := by
  unfold need at h
  split at h
  · exact g _ h
  · injection h with h; subst h; exact kid_err
theorem kid_name {f : ByteArray → Nat → PS → Option Out} (h : needName s f = some v) (g : ∀ x y s1, f x y s1 = some v → KidOk v) : KidOk v := by
  unfold needName at h
  split at h
  · exact g _ _ _ h
  · injection h with h; subst h; exact kid_err
theorem kid_go {F : Option Out} {f : List Int → PS → Option Out} (h : Out.go F f = some v) (g : ∀ p s1, f p s1 = some v → KidOk v) : KidOk v := by
  rcases go_ok h with ⟨e, h1, rfl⟩ | ⟨p, s1, h1, h2⟩
  · exact kid_err
  · exact g _ _ h2
theorem kid_ex {n : Nat} {f : Int → PS → Option Out} (h : needEx n d s f = some v) (g : ∀ a s1, f a s1 = some v → KidOk v) : KidOk v := kid_go h (fun p s1 h => g _ _ h)
theorem stmt_kid {n : Nat} (h : prd n .stmt d s = some v) : KidOk v := by
  cases n with
  | zero => cases h
  | succ n =>
    rw [prd] at h
    split at h
    · exact kid_name h fun _ _ _ h => kid_need h fun _ h => kid_ex h fun _ _ h => kid_need h fun _ h => kid_lay h
    · exact kid_name h fun _ _ _ h => kid_need h fun _ h => kid_ex h fun _ _ h => kid_need h fun _ h => kid_ex h fun _ _ h => kid_go h fun _ _ h => kid_lay h
    · exact kid_need h fun _ h => kid_lay h
    · exact kid_need h fun _ h => kid_lay h
    · exact kid_ex h fun _ _ h => kid_need h fun _ h => kid_lay h
    · exact kid_ex h fun _ _ h => kid_need h fun _ h => kid_lay h
    · exact kid_ex h fun _ _ h => kid_go h fun _ _ h => kid_lay h
    · refine kid_ex h fun _ _ h => kid_go h fun _ _ h => ?_
      split at h
      · exact kid_go h fun _ _ h => kid_lay h
      · exact kid_lay h
    · refine kid_name h fun _ _ _ h => ?_
      split at h
      · exact kid_go h fun _ _ h => kid_need h fun _ h => kid_lay h
      · split at h
        · exact kid_go h fun _ _ h => kid_need h fun _ h => kid_ex h fun _ _ h => kid_need h fun _ h => kid_lay h
        · exact kid_need h fun _ h => kid_ex h fun _ _ h => kid_need h fun _ h => kid_lay h
theorem Does.kid_ok (h : Does o (fun s n => prd n .stmt d s) u) : KidOk u := by
  cases o with
  | error f => rw [show u = _ from h]; exact kid_err
  | ok s => obtain ⟨n, hn⟩ := h; exact stmt_kid (hn n (Nat.le_refl _))
theorem Does.st {F : PS → Nat → Option Out} (hE : ∀ s, o = .ok s → ∀ v, Ev (F s) v → PReads .stmt d s v) (h : Does o F u) : Does o (fun s n => prd n .stmt d s) u := by
  cases o with
  | error f => exact h
  | ok s => exact (hE s rfl u h).ev
end Go.Proofs.YtagacfcpepoaoaaGreatDoor

namespace Go.Proofs.YtagacfcpepoaoaaGreatDoor
set_option linter.unusedVariables false

variable {o : Except Flt PS} {d : Nat} {v u : Out} {b : List UInt8} {s : PS}
def OneOk (v : Out) : Prop := ∀ l s', v = .ok (l, s') → l = [hd1 l]
theorem one_err {e : Flt} : OneOk (.error e) := fun l s' h => by cases h
theorem one_lay {x : Nd} (h : some (lay x s) = some v) : OneOk v := by
  injection h with h
  subst h
  unfold lay
  split
  · exact one_err
  · intro l s' e
    injection e with e
    injection e with e1 e2
    subst e1
    rfl
theorem one_need {f : PS → Option Out} (h : need b s f = some v) (g : ∀ s1, f s1 = some v → OneOk v) : OneOk v := by
  unfold need at h
  split at h
  · exact g _ h
  · injection h with h; subst h; exact one_err
theorem one_name {f : ByteArray → Nat → PS → Option Out} (h : needName s f = some v) (g : ∀ x y s1, f x y s1 = some v → OneOk v) : OneOk v := by
  unfold needName at h
  split at h
  · exact g _ _ _ h
  · injection h with h; subst h; exact one_err
theorem one_go {F : Option Out} {f : List Int → PS → Option Out} (h : Out.go F f = some v) (g : ∀ p s1, f p s1 = some v → OneOk v) : OneOk v := by
  rcases go_ok h with ⟨e, h1, rfl⟩ | ⟨p, s1, h1, h2⟩
  · exact one_err
  · exact g _ _ h2
theorem one_ex {n : Nat} {f : Int → PS → Option Out} (h : needEx n d s f = some v) (g : ∀ a s1, f a s1 = some v → OneOk v) : OneOk v := one_go h (fun p s1 h => g _ _ h)
theorem stmt_single {n : Nat} (h : prd n .stmt d s = some v) : OneOk v := by
  cases n with
  | zero => cases h
  | succ n =>
    rw [prd] at h
    split at h
    · exact one_name h fun _ _ _ h => one_need h fun _ h => one_ex h fun _ _ h => one_need h fun _ h => one_lay h
    · exact one_name h fun _ _ _ h => one_need h fun _ h => one_ex h fun _ _ h => one_need h fun _ h => one_ex h fun _ _ h => one_go h fun _ _ h => one_lay h
    · exact one_need h fun _ h => one_lay h
    · exact one_need h fun _ h => one_lay h
    · exact one_ex h fun _ _ h => one_need h fun _ h => one_lay h
    · exact one_ex h fun _ _ h => one_need h fun _ h => one_lay h
    · exact one_ex h fun _ _ h => one_go h fun _ _ h => one_lay h
    · refine one_ex h fun _ _ h => one_go h fun _ _ h => ?_
      split at h
      · exact one_go h fun _ _ h => one_lay h
      · exact one_lay h
    · refine one_name h fun _ _ _ h => ?_
      split at h
      · exact one_go h fun _ _ h => one_need h fun _ h => one_lay h
      · split at h
        · exact one_go h fun _ _ h => one_need h fun _ h => one_ex h fun _ _ h => one_need h fun _ h => one_lay h
        · exact one_need h fun _ h => one_ex h fun _ _ h => one_need h fun _ h => one_lay h
end Go.Proofs.YtagacfcpepoaoaaGreatDoor
