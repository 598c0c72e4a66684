/- RefRules, RefOne, RefInner, in one text. -/
import Derived.Test.YtagacfcpepoaoaaGreatDoorQAny
import Derived.StillTailTactics
namespace Go.Proofs.YtagacfcpepoaoaaGreatDoor
set_option linter.unusedVariables false

variable {o o1 : Except Flt PS} {d lv : Nat} {u v : Out} {s : PS} {p : Int}
theorem Ev.succ {F : Nat → Option Out} (h : Ev (fun n => F (n + 1)) v) : Ev F v := by
  obtain ⟨n0, h⟩ := h
  refine ⟨n0 + 1, fun n hn => ?_⟩
  obtain ⟨m, rfl⟩ : ∃ m, n = m + 1 := ⟨n - 1, by omega⟩
  exact h m (by omega)
/-- one step of the reader's -/
theorem Does.rd {m : Md} {F : PS → Nat → Option Out} (e : ∀ s, o = .ok s → ∀ n, Go.Proofs.YtagacfcpepoaoaaGreatDoor.rd (n + 1) m d s = F s n) (h : Does o F u) : Does o (fun s n => Go.Proofs.YtagacfcpepoaoaaGreatDoor.rd n m d s) u := by
  cases o with
  | error f => exact h
  | ok s => exact Ev.succ (F := fun n => Go.Proofs.YtagacfcpepoaoaaGreatDoor.rd n m d s) (Ev.congr (e s rfl) h)
theorem Does.prd {m : Pm} {F : PS → Nat → Option Out} (e : ∀ s, o = .ok s → ∀ n, Go.Proofs.YtagacfcpepoaoaaGreatDoor.prd (n + 1) m d s = F s n) (h : Does o F u) : Does o (fun s n => Go.Proofs.YtagacfcpepoaoaaGreatDoor.prd n m d s) u := by
  cases o with
  | error f => exact h
  | ok s => exact Ev.succ (F := fun n => Go.Proofs.YtagacfcpepoaoaaGreatDoor.prd n m d s) (Ev.congr (e s rfl) h)
theorem Does.const {x : Out} : Does (.ok s) (fun _ _ => some x) x := Ev.const
theorem Does.const' {F : PS → Nat → Option Out} {x : Out} (h : ∀ n, F s n = some x) : Does (.ok s) F x := Ev.const.congr h
/-- a number, and what is left -/
def endO (p : Int) : Except Flt PS → Out
  | .ok s => .ok ([p], s)
  | .error f => .error f
theorem toO_end (p : Int) (o : Except Flt PS) : toO (endO p o) = o := by cases o <;> rfl
theorem kidO_end {p : Int} {o : Except Flt PS} (h : ∀ f, o = .error f → p = -1) : kidO (endO p o) = p := by
  cases o with
  | ok s => rfl
  | error f => exact (h f rfl).symm
theorem Does.end_ {F : PS → Nat → Option Out} (h : ∀ s, o = .ok s → ∀ n, F s n = some (.ok ([p], s))) : Does o F (endO p o) := by
  cases o with
  | error f => rfl
  | ok s => exact Ev.const.congr (h s rfl)
/-- an expression that was read has one number -/
def OneOut (v : Option Out) : Prop := ∀ l s', v = some (.ok (l, s')) → l = [hd1 l]
theorem oneo_err {e : Flt} : OneOut (some (.error e)) := fun l s' h => by injection h with h; cases h
theorem oneo_ok {s : PS} : OneOut (some (.ok ([p], s))) := fun l s' h => by injection h with h; injection h with h; injection h with h1 h2; subst h1; rfl
theorem oneo_lay {x : Nd} : OneOut (some (lay x s)) := by
  unfold lay
  split
  · exact oneo_err
  · exact oneo_ok
theorem oneo_go {F : Option Out} {f : List Int → PS → Option Out} (g : ∀ p s1, F = some (.ok (p, s1)) → OneOut (f p s1)) : OneOut (Out.go F f) := by
  cases F with
  | none => intro l s' h; cases h
  | some v =>
    match v with
    | .error e => exact oneo_err
    | .ok (p, s1) => exact g p s1 rfl
theorem rd_one : ∀ (n : Nat) (m : Md) (d : Nat) (s : PS), (∀ acc, m ≠ .args acc) → OneOut (Go.Proofs.YtagacfcpepoaoaaGreatDoor.rd n m d s)
  | 0, _, _, _, _ => fun l s' h => by cases h
  | n + 1, .chain lv, d, s, _ => by
    have ih := rd_one n
    rw [Go.Proofs.YtagacfcpepoaoaaGreatDoor.rd]
    split
    · exact ih _ _ _ (fun _ e => by cases e)
    · exact oneo_go fun p s1 _ => ih _ _ _ (fun _ e => by cases e)
  | n + 1, .loop lv p, d, s, _ => by
    have ih := rd_one n
    rw [Go.Proofs.YtagacfcpepoaoaaGreatDoor.rd]
    cases opAt lv s.tok with
    | none => exact oneo_ok
    | some op =>
      refine oneo_go fun q s1 _ => oneo_go fun k s2 h => ?_
      split
      · have := oneo_lay (x := En 5 [p, hd1 q] op ⟨#[]⟩ s.tok.place) (s := s1) k s2 h
        intro l s' e
        injection e with e
        injection e with e
        injection e with e1 e2
        subst e1
        exact this
      · exact ih _ _ _ (fun _ e => by cases e)
  | n + 1, .front, d, s, _ => by
    have ih := rd_one n
    rw [Go.Proofs.YtagacfcpepoaoaaGreatDoor.rd]
    split
    · split
      · exact oneo_err
      · exact oneo_go fun q s1 _ => oneo_lay
    · exact ih _ _ _ (fun _ e => by cases e)
  | n + 1, .idx, d, s, _ => by
    have ih := rd_one n
    rw [Go.Proofs.YtagacfcpepoaoaaGreatDoor.rd]
    exact oneo_go fun p s1 _ => ih _ _ _ (fun _ e => by cases e)
  | n + 1, .more p, d, s, _ => by
    have ih := rd_one n
    rw [Go.Proofs.YtagacfcpepoaoaaGreatDoor.rd]
    split
    · exact oneo_go fun q s1 _ => oneo_go fun k s2 _ => ih _ _ _ (fun _ e => by cases e)
    · exact oneo_ok
  | n + 1, .inner a b, d, s, _ => by
    have ih := rd_one n
    rw [Go.Proofs.YtagacfcpepoaoaaGreatDoor.rd]
    split
    · split
      · exact oneo_err
      · refine oneo_go fun q s1 h => ?_
        split
        · have := ih _ _ _ (fun _ e => by cases e) q s1 h
          intro l s' e
          injection e with e
          injection e with e
          injection e with e1 e2
          subst e1
          exact this
        · exact oneo_err
    · exact oneo_err
  | n + 1, .call nm a, d, s, _ => by
    rw [Go.Proofs.YtagacfcpepoaoaaGreatDoor.rd]
    split
    · split
      · exact oneo_err
      · refine oneo_go fun q s1 h => ?_
        split
        · exact oneo_lay
        · exact oneo_err
    · exact oneo_err
  | n + 1, .args acc, d, s, h => absurd rfl (h acc)
  | n + 1, .single, d, s, _ => by
    have ih := rd_one n
    rw [rd_single]
    split
    · exact ih _ _ _ (fun _ e => by cases e)
    · exact oneo_lay
    · exact oneo_lay
    · exact oneo_lay
    · exact oneo_go fun q s1 _ => oneo_lay
    · exact oneo_go fun q s1 _ => oneo_lay
    · exact oneo_lay
    · split
      · exact ih _ _ _ (fun _ e => by cases e)
      · exact oneo_lay
    · exact oneo_err
theorem Does.one_rd {m : Md} (hm : ∀ acc, m ≠ .args acc) (h : Does o (fun s n => Go.Proofs.YtagacfcpepoaoaaGreatDoor.rd n m d s) v) : v = endO (kidO v) (toO v) := by
  cases o with
  | error f => rw [show v = _ from h]; rfl
  | ok s =>
    match v, h with
    | .error f, _ => rfl
    | .ok (l, s1), h =>
      obtain ⟨n, hn⟩ := h
      have h1 := rd_one n m d s hm l s1 (hn n (Nat.le_refl _))
      show Except.ok (l, s1) = .ok ([hd1 l], s1)
      rw [← h1]
/-- the parts -/
theorem Does.front_none (h1 : ∀ s, o = .ok s → s.is minus = false) (h2 : ∀ s, o = .ok s → s.is bang = false) (h : Does o (fun s n => Go.Proofs.YtagacfcpepoaoaaGreatDoor.rd n .idx d s) u) : Does o (fun s n => Go.Proofs.YtagacfcpepoaoaaGreatDoor.rd n .front d s) u :=
  Does.rd (F := fun s n => Go.Proofs.YtagacfcpepoaoaaGreatDoor.rd n .idx d s) (fun s hs n => by rw [Go.Proofs.YtagacfcpepoaoaaGreatDoor.rd, h1 s hs, h2 s hs]; rfl) h
theorem Does.front_deep (h : s.is minus = true ∨ s.is bang = true) (hd : 200 ≤ d) : Does (.ok s) (fun s n => Go.Proofs.YtagacfcpepoaoaaGreatDoor.rd n .front d s) (.error (4, s.tok.place)) := Does.of_reads (Reads.front_deep h hd)
theorem Does.front_sign (h : s.is minus = true ∨ s.is bang = true) (hd : ¬ 200 ≤ d) {v : Out} (h1 : Does (.ok s.next) (fun s n => Go.Proofs.YtagacfcpepoaoaaGreatDoor.rd n .front (d + 1) s) v) (h2 : Does (toO v) (fun s1 _ => some (lay (En (if s.is minus then 6 else 7) [kidO v] 0 ⟨#[]⟩ s.tok.place) s1)) u) : Does (.ok s) (fun s n => Go.Proofs.YtagacfcpepoaoaaGreatDoor.rd n .front d s) u := by
  refine Does.rd (F := fun s' n => Out.go (Go.Proofs.YtagacfcpepoaoaaGreatDoor.rd n .front (d + 1) s'.next) fun q s1 => some (lay (En (if s.is minus then 6 else 7) [hd1 q] 0 ⟨#[]⟩ s.tok.place) s1)) (fun s' hs n => ?_) ?_
  · injection hs with hs
    subst hs
    rw [Go.Proofs.YtagacfcpepoaoaaGreatDoor.rd, if_pos (by simpa using h), if_neg hd]
  · exact Does.go (o := .ok s.next) (F := fun s n => Go.Proofs.YtagacfcpepoaoaaGreatDoor.rd n .front (d + 1) s) (G := fun k s1 _ => some (lay (En (if s.is minus then 6 else 7) [k] 0 ⟨#[]⟩ s.tok.place) s1)) h1 h2
theorem Does.idx {v : Out} (h1 : Does o (fun s n => Go.Proofs.YtagacfcpepoaoaaGreatDoor.rd n .single d s) v) (h2 : Does (toO v) (fun s n => Go.Proofs.YtagacfcpepoaoaaGreatDoor.rd n (.more (kidO v)) d s) u) : Does o (fun s n => Go.Proofs.YtagacfcpepoaoaaGreatDoor.rd n .idx d s) u :=
  Does.rd (F := fun s n => Out.go (Go.Proofs.YtagacfcpepoaoaaGreatDoor.rd n .single d s) fun p s1 => Go.Proofs.YtagacfcpepoaoaaGreatDoor.rd n (.more (hd1 p)) d s1) (fun s _ n => by rw [Go.Proofs.YtagacfcpepoaoaaGreatDoor.rd]) (Does.go (G := fun k s1 n => Go.Proofs.YtagacfcpepoaoaaGreatDoor.rd n (.more k) d s1) h1 h2)
theorem Does.more_end (h : ∀ s, o = .ok s → s.is lb = false) : Does o (fun s n => Go.Proofs.YtagacfcpepoaoaaGreatDoor.rd n (.more p) d s) (endO p o) :=
  Does.rd (F := fun s n => some (.ok ([p], s))) (fun s hs n => by rw [Go.Proofs.YtagacfcpepoaoaaGreatDoor.rd, h s hs]; rfl) (Does.end_ fun _ _ _ => rfl)
theorem Does.more_next (h : s.is lb = true) {v1 v2 : Out} (h1 : Does (.ok s) (fun s n => Go.Proofs.YtagacfcpepoaoaaGreatDoor.rd n (.inner lb rb) d s) v1) (h2 : Does (toO v1) (fun s1 _ => some (lay (En 8 [p, kidO v1] 0 ⟨#[]⟩ s.tok.place) s1)) v2) (h3 : Does (toO v2) (fun s n => Go.Proofs.YtagacfcpepoaoaaGreatDoor.rd n (.more (kidO v2)) d s) u) : Does (.ok s) (fun s n => Go.Proofs.YtagacfcpepoaoaaGreatDoor.rd n (.more p) d s) u := by
  refine Does.rd (F := fun s' n => Out.go (Go.Proofs.YtagacfcpepoaoaaGreatDoor.rd n (.inner lb rb) d s') fun q s1 => Out.go (some (lay (En 8 [p, hd1 q] 0 ⟨#[]⟩ s.tok.place) s1)) fun k s2 => Go.Proofs.YtagacfcpepoaoaaGreatDoor.rd n (.more (hd1 k)) d s2) (fun s' hs n => ?_) ?_
  · injection hs with hs
    subst hs
    rw [Go.Proofs.YtagacfcpepoaoaaGreatDoor.rd, if_pos h]
  · exact Does.go (G := fun q s1 n => Out.go (some (lay (En 8 [p, q] 0 ⟨#[]⟩ s.tok.place) s1)) fun k s2 => Go.Proofs.YtagacfcpepoaoaaGreatDoor.rd n (.more (hd1 k)) d s2) h1 (Does.go (F := fun s1 _ => some (lay (En 8 [p, kidO v1] 0 ⟨#[]⟩ s.tok.place) s1)) (G := fun k s2 n => Go.Proofs.YtagacfcpepoaoaaGreatDoor.rd n (.more k) d s2) h2 h3)
theorem Does.chain (hlv : lv ≠ 5) {v : Out} (h1 : Does o (fun s n => Go.Proofs.YtagacfcpepoaoaaGreatDoor.rd n (.chain (lv + 1)) d s) v) (h2 : Does (toO v) (fun s n => Go.Proofs.YtagacfcpepoaoaaGreatDoor.rd n (.loop lv (kidO v)) d s) u) : Does o (fun s n => Go.Proofs.YtagacfcpepoaoaaGreatDoor.rd n (.chain lv) d s) u :=
  Does.rd (F := fun s n => Out.go (Go.Proofs.YtagacfcpepoaoaaGreatDoor.rd n (.chain (lv + 1)) d s) fun p s1 => Go.Proofs.YtagacfcpepoaoaaGreatDoor.rd n (.loop lv (hd1 p)) d s1) (fun s _ n => by rw [Go.Proofs.YtagacfcpepoaoaaGreatDoor.rd, if_neg hlv]) (Does.go (G := fun k s1 n => Go.Proofs.YtagacfcpepoaoaaGreatDoor.rd n (.loop lv k) d s1) h1 h2)
theorem Does.chain5 (h : Does o (fun s n => Go.Proofs.YtagacfcpepoaoaaGreatDoor.rd n .front d s) u) : Does o (fun s n => Go.Proofs.YtagacfcpepoaoaaGreatDoor.rd n (.chain 5) d s) u :=
  Does.rd (F := fun s n => Go.Proofs.YtagacfcpepoaoaaGreatDoor.rd n .front d s) (fun s _ n => by rw [Go.Proofs.YtagacfcpepoaoaaGreatDoor.rd, if_pos rfl]) h
theorem Does.loop_end (h : ∀ s, o = .ok s → opAt lv s.tok = none) : Does o (fun s n => Go.Proofs.YtagacfcpepoaoaaGreatDoor.rd n (.loop lv p) d s) (endO p o) :=
  Does.rd (F := fun s n => some (.ok ([p], s))) (fun s hs n => by rw [Go.Proofs.YtagacfcpepoaoaaGreatDoor.rd, h s hs]) (Does.end_ fun _ _ _ => rfl)
theorem Does.loop_next {op : Nat} (h : opAt lv s.tok = some op) (h2' : lv ≠ 2) {v1 v2 : Out} (h1 : Does (.ok s.next) (fun s n => Go.Proofs.YtagacfcpepoaoaaGreatDoor.rd n (.chain (lv + 1)) d s) v1) (h2 : Does (toO v1) (fun s1 _ => some (lay (En 5 [p, kidO v1] op ⟨#[]⟩ s.tok.place) s1)) v2) (h3 : Does (toO v2) (fun s n => Go.Proofs.YtagacfcpepoaoaaGreatDoor.rd n (.loop lv (kidO v2)) d s) u) : Does (.ok s) (fun s n => Go.Proofs.YtagacfcpepoaoaaGreatDoor.rd n (.loop lv p) d s) u := by
  refine Does.rd (F := fun s' n => Out.go (Go.Proofs.YtagacfcpepoaoaaGreatDoor.rd n (.chain (lv + 1)) d s'.next) fun q s1 => Out.go (some (lay (En 5 [p, hd1 q] op ⟨#[]⟩ s.tok.place) s1)) fun k s2 => Go.Proofs.YtagacfcpepoaoaaGreatDoor.rd n (.loop lv (hd1 k)) d s2) (fun s' hs n => ?_) ?_
  · injection hs with hs
    subst hs
    rw [Go.Proofs.YtagacfcpepoaoaaGreatDoor.rd, h]
    simp only [if_neg h2']
  · exact Does.go (o := .ok s.next) (F := fun s n => Go.Proofs.YtagacfcpepoaoaaGreatDoor.rd n (.chain (lv + 1)) d s) (G := fun q s1 n => Out.go (some (lay (En 5 [p, q] op ⟨#[]⟩ s.tok.place) s1)) fun k s2 => Go.Proofs.YtagacfcpepoaoaaGreatDoor.rd n (.loop lv (hd1 k)) d s2) h1 (Does.go (F := fun s1 _ => some (lay (En 5 [p, kidO v1] op ⟨#[]⟩ s.tok.place) s1)) (G := fun k s2 n => Go.Proofs.YtagacfcpepoaoaaGreatDoor.rd n (.loop lv k) d s2) h2 h3)
theorem Ev.const_inj {x u : Out} (h : Ev (fun _ => some x) u) : u = x := by
  obtain ⟨n, hn⟩ := h
  exact (Option.some.inj (hn n (Nat.le_refl _))).symm
theorem lay_end {x : Nd} (h : Does o (fun s _ => some (lay x s)) v) : v = endO (kidO v) (toO v) := by
  cases o with
  | error f => rw [show v = _ from h]; rfl
  | ok s =>
    have h1 := Ev.const_inj h
    match v, h1 with
    | .error f, _ => rfl
    | .ok (l, s1), h1 =>
      have h2 := oneo_lay (x := x) (s := s) l s1 (by rw [← h1])
      show Except.ok (l, s1) = .ok ([hd1 l], s1)
      rw [← h2]
theorem Does.loop_once {op : Nat} (h : opAt lv s.tok = some op) (h2' : lv = 2) {v1 v2 : Out} (h1 : Does (.ok s.next) (fun s n => Go.Proofs.YtagacfcpepoaoaaGreatDoor.rd n (.chain (lv + 1)) d s) v1) (h2 : Does (toO v1) (fun s1 _ => some (lay (En 5 [p, kidO v1] op ⟨#[]⟩ s.tok.place) s1)) v2) : Does (.ok s) (fun s n => Go.Proofs.YtagacfcpepoaoaaGreatDoor.rd n (.loop lv p) d s) (endO (kidO v2) (toO v2)) := by
  rw [← lay_end h2]
  refine Does.rd (F := fun s' n => Out.go (Go.Proofs.YtagacfcpepoaoaaGreatDoor.rd n (.chain (lv + 1)) d s'.next) fun q s1 => some (lay (En 5 [p, hd1 q] op ⟨#[]⟩ s.tok.place) s1)) (fun s' hs n => ?_) ?_
  · injection hs with hs
    subst hs
    rw [Go.Proofs.YtagacfcpepoaoaaGreatDoor.rd, h]
    simp only [if_pos h2']
    congr 1
    funext q s1
    cases lay (En 5 [p, hd1 q] op ⟨#[]⟩ s.tok.place) s1 with
    | error f => rfl
    | ok x => rfl
  · exact Does.go (o := .ok s.next) (F := fun s n => Go.Proofs.YtagacfcpepoaoaaGreatDoor.rd n (.chain (lv + 1)) d s) (G := fun q s1 n => some (lay (En 5 [p, q] op ⟨#[]⟩ s.tok.place) s1)) h1 h2
/-- something in brackets -/
theorem Does.inner_bad {a b : List UInt8} {t : Nat} {f : Flt} (ht : ∀ s, o = .ok s → t = s.tok.place) (h : openO d t (needO a o) = .error f) : Does o (fun s n => Go.Proofs.YtagacfcpepoaoaaGreatDoor.rd n (.inner a b) d s) (.error f) := by
  cases o with
  | error f' => injection h with h; subst h; rfl
  | ok s =>
    have ht := ht s rfl
    subst ht
    cases ha : s.is a with
    | false => rw [needO_no ha] at h; injection h with h; subst h; exact Does.of_reads (Reads.inner_no ha)
    | true =>
      rw [needO_yes ha] at h
      by_cases hd : 200 ≤ d
      · rw [openO_no hd] at h; injection h with h; subst h; exact Does.of_reads (Reads.inner_deep ha hd)
      · rw [openO_yes hd] at h; cases h
theorem qopen_ok {d t : Nat} {o : Except Flt PS} {s2 : PS} (h : openO d t o = .ok s2) : o = .ok s2 ∧ ¬ 200 ≤ d := by
  cases o with
  | error f => cases h
  | ok s =>
    by_cases hd : 200 ≤ d
    · rw [openO_no hd] at h; cases h
    · rw [openO_yes hd] at h; exact ⟨h, hd⟩
theorem qneed_ok {a : List UInt8} {s1 : PS} (h : needO a o = .ok s1) : ∃ s, o = .ok s ∧ s.is a = true ∧ s1 = s.next := by
  cases o with
  | error f => cases h
  | ok s =>
    cases ha : s.is a with
    | false => rw [needO_no ha] at h; cases h
    | true => rw [needO_yes ha] at h; injection h with h; exact ⟨s, rfl, ha, h.symm⟩
theorem Does.inner_ok {a b : List UInt8} (ha : s.is a = true) (hd : ¬ 200 ≤ d) {v1 : Out} (h1 : Does (.ok s.next) (fun s n => Go.Proofs.YtagacfcpepoaoaaGreatDoor.rd n (.chain 0) (d + 1) s) v1) : Does (.ok s) (fun s n => Go.Proofs.YtagacfcpepoaoaaGreatDoor.rd n (.inner a b) d s) (endO (kidO v1) (needO b (toO v1))) := by
  have h3 := h1.one_rd (fun _ e => by cases e)
  refine Does.rd (F := fun s' n => Out.go (Go.Proofs.YtagacfcpepoaoaaGreatDoor.rd n (.chain 0) (d + 1) s'.next) fun p s1 => if s1.is b then some (.ok (p, s1.next)) else some (.error (8, s1.tok.place))) (fun s' hs n => ?_) ?_
  · injection hs with hs
    subst hs
    rw [Go.Proofs.YtagacfcpepoaoaaGreatDoor.rd, if_pos ha, if_neg hd]
  · match v1, h1, h3 with
    | .error f, h1, _ => exact Ev.go_err (f := fun n p s1 => if s1.is b then some (.ok (p, s1.next)) else some (.error (8, s1.tok.place))) h1
    | .ok (l, s1), h1, h3 =>
      have h4 : l = [hd1 l] := by injection h3 with h3; injection h3
      refine Ev.go (f := fun n p s1 => if s1.is b then some (.ok (p, s1.next)) else some (.error (8, s1.tok.place))) h1 ?_
      show Ev _ (endO (hd1 l) (needO b (.ok s1)))
      cases hb : s1.is b with
      | true => rw [needO_yes hb]; exact Ev.const.congr fun n => by rw [show endO (hd1 l) (Except.ok s1.next) = .ok (l, s1.next) by rw [h4]; rfl]; rfl
      | false => rw [needO_no hb]; exact Ev.const.congr fun n => rfl
/-- arguments, and the brackets around them -/
def listF (d : Nat) : PS → Nat → Option Out := fun s n => Go.Proofs.YtagacfcpepoaoaaGreatDoor.need lp s fun s1 => if 200 ≤ d then some (.error (4, s.tok.place)) else Out.go (if s1.is rp then some (.ok ([], s1)) else Go.Proofs.YtagacfcpepoaoaaGreatDoor.rd n (.args []) (d + 1) s1) fun l s2 => Go.Proofs.YtagacfcpepoaoaaGreatDoor.need rp s2 fun s3 => some (.ok (l, s3))
def afterF (d : Nat) (acc : List Int) : PS → Nat → Option Out := fun s n => if s.is comma then Go.Proofs.YtagacfcpepoaoaaGreatDoor.rd n (.args acc) d s.next else some (.ok (acc, s))
theorem Does.call {nm : ByteArray} {a : Nat} {v : Out} {acc : List Int} (h1 : Does o (listF d) v) (hq : ∀ p s, v = .ok (p, s) → acc = p) (h2 : Does (toO v) (fun s _ => some (lay (En 11 acc 0 nm a) s)) u) : Does o (fun s n => Go.Proofs.YtagacfcpepoaoaaGreatDoor.rd n (.call nm a) d s) u := by
  refine Does.rd (F := fun s n => Out.go (listF d s n) fun l s3 => some (lay (En 11 l 0 nm a) s3)) (fun s _ n => ?_) (Does.go' (G := fun l s3 _ => some (lay (En 11 l 0 nm a) s3)) h1 hq h2)
  rw [Go.Proofs.YtagacfcpepoaoaaGreatDoor.rd]
  unfold listF Go.Proofs.YtagacfcpepoaoaaGreatDoor.need
  split
  · split
    · rfl
    · dsimp only
      generalize (if s.next.is rp = true then some (Except.ok ([], s.next)) else Go.Proofs.YtagacfcpepoaoaaGreatDoor.rd n (.args []) (d + 1) s.next : Option Out) = F
      cases F with
      | none => rfl
      | some v =>
        match v with
        | .error f => rfl
        | .ok (l, s2) =>
          show (if s2.is rp = true then _ else _) = Out.go (if s2.is rp = true then _ else _) _
          split
          · rfl
          · rfl
  · rfl
/-- behind the first bracket -/
theorem Does.list_bad {t : Nat} {f : Flt} (ht : ∀ s, o = .ok s → t = s.tok.place) (h : openO d t (needO lp o) = .error f) : Does o (listF d) (.error f) := by
  cases o with
  | error f' => injection h with h; subst h; rfl
  | ok s =>
    have ht := ht s rfl
    subst ht
    refine Does.need (o := .ok s) (b := lp) (G := fun s1 n => if 200 ≤ d then some (.error (4, s.tok.place)) else Out.go (if s1.is rp then some (.ok ([], s1)) else Go.Proofs.YtagacfcpepoaoaaGreatDoor.rd n (.args []) (d + 1) s1) fun l s2 => Go.Proofs.YtagacfcpepoaoaaGreatDoor.need rp s2 fun s3 => some (.ok (l, s3))) ?_
    cases hn : needO lp (.ok s) with
    | error f' => rw [hn] at h; injection h with h; subst h; rfl
    | ok s1 =>
      rw [hn] at h
      by_cases hd : 200 ≤ d
      · rw [openO_no hd] at h; injection h with h; subst h; exact Ev.ite_pos hd Ev.const
      · rw [openO_yes hd] at h; cases h
theorem Does.list_ok (ha : s.is lp = true) (hd : ¬ 200 ≤ d) {v1 : Out} (h1 : Does (.ok s.next) (fun s1 n => if s1.is rp then some (.ok ([], s1)) else Go.Proofs.YtagacfcpepoaoaaGreatDoor.rd n (.args []) (d + 1) s1) v1) {acc : List Int} (hq : ∀ p s, v1 = .ok (p, s) → acc = p) (h : Does (toO v1) (fun s2 _ => Go.Proofs.YtagacfcpepoaoaaGreatDoor.need rp s2 fun s3 => some (.ok (acc, s3))) u) : Does (.ok s) (listF d) u := by
  refine Does.need (o := .ok s) (b := lp) (G := fun s1 n => if 200 ≤ d then some (.error (4, s.tok.place)) else Out.go (if s1.is rp then some (.ok ([], s1)) else Go.Proofs.YtagacfcpepoaoaaGreatDoor.rd n (.args []) (d + 1) s1) fun l s2 => Go.Proofs.YtagacfcpepoaoaaGreatDoor.need rp s2 fun s3 => some (.ok (l, s3))) ?_
  rw [needO_yes ha]
  exact Ev.ite_neg hd (Does.go' (o := .ok s.next) (F := fun s1 n => if s1.is rp then some (.ok ([], s1)) else Go.Proofs.YtagacfcpepoaoaaGreatDoor.rd n (.args []) (d + 1) s1) (G := fun l s2 _ => Go.Proofs.YtagacfcpepoaoaaGreatDoor.need rp s2 fun s3 => some (.ok (l, s3))) h1 hq h)
theorem Does.args_first (hr : s.is rp = false) {v1 : Out} (h1 : Does (.ok s) (fun s n => Go.Proofs.YtagacfcpepoaoaaGreatDoor.rd n (.chain 0) d s) v1) (h : Does (toO v1) (afterF d [kidO v1]) u) : Does (.ok s) (fun s1 n => if s1.is rp then some (.ok ([], s1)) else Go.Proofs.YtagacfcpepoaoaaGreatDoor.rd n (.args []) d s1) u := by
  refine Ev.ite_neg (F := fun n => some (.ok ([], s))) (by rw [hr]; decide) ?_
  refine Does.rd (o := .ok s) (F := fun s n => Out.go (Go.Proofs.YtagacfcpepoaoaaGreatDoor.rd n (.chain 0) d s) fun p s1 => afterF d [hd1 p] s1 n) (fun s' _ n => ?_) (Does.go (G := fun k s1 n => afterF d [k] s1 n) h1 h)
  rw [Go.Proofs.YtagacfcpepoaoaaGreatDoor.rd]
  rfl
theorem Does.after_end {acc : List Int} (h : ∀ s, o = .ok s → s.is comma = false) : ∃ v, Does o (afterF d acc) v ∧ toO v = o ∧ ∀ p s, v = .ok (p, s) → acc = p := by
  cases o with
  | error f => exact ⟨.error f, rfl, rfl, fun p s e => by cases e⟩
  | ok s => exact ⟨.ok (acc, s), Ev.const.congr fun n => if_neg (by rw [h s rfl]; decide), rfl, fun p s' e => by injection e with e; injection e⟩
theorem Does.after_long {acc : List Int} (hc : s.is comma = true) (h8 : acc.length = 8) : Does (.ok s) (afterF d acc) (.error (3, s.next.tok.place)) := by
  refine Ev.congr (F := fun n => Go.Proofs.YtagacfcpepoaoaaGreatDoor.rd n (.args acc) d s.next) (fun n => if_pos hc) ?_
  exact (Reads.args_long h8).ev
theorem Does.after_next {acc : List Int} (hc : s.is comma = true) (h8 : acc.length ≠ 8) {v1 : Out} (h1 : Does (.ok s.next) (fun s n => Go.Proofs.YtagacfcpepoaoaaGreatDoor.rd n (.chain 0) d s) v1) (h : Does (toO v1) (afterF d (acc ++ [kidO v1])) u) : Does (.ok s) (afterF d acc) u := by
  refine Ev.congr (F := fun n => Go.Proofs.YtagacfcpepoaoaaGreatDoor.rd n (.args acc) d s.next) (fun n => if_pos hc) ?_
  refine Does.rd (o := .ok s.next) (F := fun s n => Out.go (Go.Proofs.YtagacfcpepoaoaaGreatDoor.rd n (.chain 0) d s) fun p s1 => afterF d (acc ++ [hd1 p]) s1 n) (fun s' _ n => ?_) (Does.go (G := fun k s1 n => afterF d (acc ++ [k]) s1 n) h1 h)
  rw [Go.Proofs.YtagacfcpepoaoaaGreatDoor.rd, if_neg h8]
  rfl
end Go.Proofs.YtagacfcpepoaoaaGreatDoor

namespace Go.Proofs.YtagacfcpepoaoaaGreatDoor
open Go.RowKit
set_option linter.unusedVariables false

variable {B g : Nat} {L : List Tk} {w w' : World} {R R' : Bx} {d : Nat} {o : Except Flt PS}
/-- a slice of strings -/
def strsOf (l : List (List UInt8)) : Array Value := (l.map fun x => Value.string ⟨x.toArray⟩).toArray
theorem strsOf_at {l : List (List UInt8)} {b : Nat} (H : Held w b 9 (strsOf l)) {i : Nat} (hi : i < l.length) : w.cell? ⟨b, i, none⟩ = some (.string ⟨(l.getD i []).toArray⟩) := by
  refine H.at_ ?_
  unfold strsOf
  simp [List.getElem?_eq_getElem hi, List.getD]
/-- which one it is -/
def OneAt (l : List (List UInt8)) (o : Except Flt PS) (k : Int) : Prop :=
  (k = -1 ∧ ∀ s, o = .ok s → ∀ j, j < l.length → s.is (l.getD j []) = false) ∨
  ∃ i : Nat, i < l.length ∧ k = (i : Int) ∧ ∃ s, o = .ok s ∧ s.is (l.getD i []) = true ∧ ∀ j, j < i → s.is (l.getD j []) = false
set_option maxRecDepth 100000 in
theorem q_one (l : List (List UInt8)) (b n : Nat) (hn : n = l.length) (hs : Held w b 9 (strsOf l)) (hl : l.length ≤ 100) (H : QAny B g L w R d o) :
    Calls Tryz.prog 102 #[.pointer (some ⟨g, 0, none⟩), .slice (some ⟨b, 0, none⟩) n n] w fun en w' => ∃ k : Int, en = .returned (.int .i64 k) ∧ Below w.heap.size w w' ∧ OneAt l o k := by
  have HH := hidden H
  have HS := hidden hs
  have hn2 : n ≤ 100 := by omega
  have HN := hidden hn
  clear H hs hn hl
  go_enter Tryz.func102, Tryz.ntmps102
  go_wp2_with fail
  go_loopw [5] (fun t5 wr => ∃ i : Nat, i ≤ n ∧ t5 = .int .i64 (i : Int) ∧ Hid (Below w.heap.size w wr) ∧ Hid (∀ s, o = .ok s → ∀ j, j < i → s.is (l.getD j []) = false)) (fun t5 _ => n - (intOf t5).toNat)
  case atStart => exact ⟨0, by omega, rfl, Below.refl _ _, fun s hs j hj => absurd hj (by omega)⟩
  case round =>
    obtain ⟨i, hi, rfl, HB, HNO⟩ := hrel
    by_cases hlt : i < n
    · have hlti : (i : Int) < (n : Int) := by omega
      have HSr := hidden (HS.out.since HB.out)
      have c0 := strsOf_at HSr.out (i := i) (by have := HN.out; omega)
      obtain ⟨c, hc⟩ : ∃ c, c = l.getD i [] := ⟨_, rfl⟩
      rw [← hc] at c0
      have HC := hidden hc
      clear hc
      go_wp2_with fail
      refine (q_sees c (HH.out.below HB.out)).mono ?_
      rintro en w1 ⟨x, rfl, hb, hc⟩
      have HB1 := hidden (below_then HB.out hb)
      have HX := hidden hc
      clear hb hc
      cases x with
      | true =>
        go_wp2_with fail
        go_ret
        refine ⟨(i : Int), rfl, HB1.out, .inr ⟨i, by have := HN.out; omega, rfl, ?_⟩⟩
        rcases HX.out with ⟨_, s, hs, hb⟩ | ⟨h, _⟩
        · exact ⟨s, hs, by rw [← HC.out]; exact hb, HNO.out s hs⟩
        · cases h
      | false =>
        go_wp2_with fail
        go_roundw
        case rel =>
          refine ⟨i + 1, by omega, by go_num, HB1, fun s hs j hj => ?_⟩
          rcases Nat.lt_or_ge j i with h1 | h1
          · exact HNO.out s hs j h1
          · rcases HX.out with ⟨h, _⟩ | ⟨_, h⟩
            · cases h
            · rw [show j = i by omega, ← HC.out]; exact h s hs
        case measure => simp [intOf]; omega
    · have hlti : ¬ (i : Int) < (n : Int) := by omega
      go_wp2_with fail
      go_ret
      exact ⟨-1, rfl, HB.out, .inl ⟨rfl, fun s hs j hj => HNO.out s hs j (by have := HN.out; omega)⟩⟩
/-- the signs of a strength, and their operators -/
def sgnsOf (lv : Nat) : List (List UInt8) := (List.range (opLast lv + 1 - opFirst lv)).map fun j => tSigns.getD (opFirst lv + j) []
def opsOf (lv : Nat) : Array Value := ((List.range (opLast lv + 1 - opFirst lv)).map fun j => Value.int .i64 ((opFirst lv + j : Nat) : Int)).toArray
theorem sgns_length (lv : Nat) : (sgnsOf lv).length = opLast lv + 1 - opFirst lv := by simp [sgnsOf]
theorem sgns_at {lv j : Nat} (hj : j < opLast lv + 1 - opFirst lv) : (sgnsOf lv).getD j [] = tSigns.getD (opFirst lv + j) [] := by
  simp [sgnsOf, List.getD, hj]
theorem ops_at {lv j b : Nat} (H : Held w b 3 (opsOf lv)) (hj : j < opLast lv + 1 - opFirst lv) : w.cell? ⟨b, j, none⟩ = some (.int .i64 ((opFirst lv + j : Nat) : Int)) := by
  refine H.at_ ?_
  simp [opsOf, hj]
/-- which operator it is -/
theorem OneAt.op {lv : Nat} {k : Int} (h : OneAt (sgnsOf lv) o k) : (k = -1 ∧ ∀ s, o = .ok s → opAt lv s.tok = none) ∨ ∃ i : Nat, i < opLast lv + 1 - opFirst lv ∧ k = (i : Int) ∧ ∃ s, o = .ok s ∧ opAt lv s.tok = some (opFirst lv + i) ∧ s.is (tSigns.getD (opFirst lv + i) []) = true := by
  rcases h with ⟨h1, h2⟩ | ⟨i, h1, h2, s, h3, h4, h5⟩
  · refine .inl ⟨h1, fun s hs => opFrom_none _ _ fun j h3 h4 => ?_⟩
    have h6 := h2 s hs (j - opFirst lv) (by rw [sgns_length]; omega)
    rw [sgns_at (by omega), show opFirst lv + (j - opFirst lv) = j by omega] at h6
    exact h6
  · rw [sgns_length] at h1
    rw [sgns_at h1] at h4
    refine .inr ⟨i, h1, h2, s, h3, opFrom_hit _ _ _ (by omega) (by omega) (fun j h6 h7 => ?_) h4, h4⟩
    have h8 := h5 (j - opFirst lv) (by omega)
    rw [sgns_at (by omega), show opFirst lv + (j - opFirst lv) = j by omega] at h8
    exact h8
theorem held_two (w : World) (o : Obj) (t : TypeId) (cs : Array Value) : Held ((w.alloc o).alloc (.cells cs t)) (w.heap.size + 1) t cs := by
  have h := Held.new (w.alloc o) t cs
  rw [show (w.alloc o).heap.size = w.heap.size + 1 by simp] at h
  exact h
set_option maxRecDepth 100000 in
theorem q_signs {lv n : Nat} (hlv : lv < 5) (hn : n = opLast lv + 1 - opFirst lv) (S : Int) (hS : S = (lv : Int) + 1) :
    Calls Tryz.prog 101 #[.int .i64 S] w fun en w' => ∃ b1 b2 : Nat, en = .returned (.tuple #[.slice (some ⟨b1, 0, none⟩) n n, .slice (some ⟨b2, 0, none⟩) n n]) ∧ Held w' b1 9 (strsOf (sgnsOf lv)) ∧ Held w' b2 3 (opsOf lv) ∧ w.heap.size ≤ b1 ∧ w.heap.size ≤ b2 ∧ Below w.heap.size w w' := by
  match lv, hlv with
  | 0, _ | 1, _ | 2, _ | 3, _ | 4, _ =>
    obtain rfl := hS
    obtain rfl := hn
    go_enter Tryz.func101, Tryz.ntmps101
    go_wp2_with fail
    go_ret2
    refine ⟨w.heap.size, w.heap.size + 1, by simp [opLast, opFirst], (Held.new w _ _).since ((Below.refl _ _).alloc (Nat.le_refl _) _), ?_, Nat.le_refl _, by omega, ((Below.refl _ _).alloc (Nat.le_refl _) _).alloc (by simp) _⟩
    exact held_two w _ _ _
end Go.Proofs.YtagacfcpepoaoaaGreatDoor

namespace Go.Proofs.YtagacfcpepoaoaaGreatDoor
open Go.RowKit
set_option linter.unusedVariables false

variable {B g : Nat} {L : List Tk} {w w' : World} {R R' : Bx} {d : Nat} {o o1 : Except Flt PS}
/-- the next token, also behind a fault -/
theorem q_now' (H : QAny B g L w R d o) : ∃ (tk tn ta : Nat) (tx : ByteArray), (∀ s, o = .ok s → tk = s.tok.kind ∧ tn = s.tok.n ∧ ta = s.tok.place ∧ tx = ⟨s.tok.text.toArray⟩) ∧
    Calls Tryz.prog 16 #[.pointer (some ⟨g, 0, none⟩)] w fun en w' => en = .returned (.agg #[.int .i64 (tk : Int), .string tx, .int .i64 (tn : Int), .int .i64 (ta : Int)]) ∧ Below w.heap.size w w' := by
  obtain ⟨t, h1, h2⟩ := q_now H
  exact ⟨t.kind, t.n, t.place, ⟨t.text.toArray⟩, fun s hs => (by rw [h1 s hs]; exact ⟨rfl, rfl, rfl, rfl⟩), h2⟩
theorem QTell.end_ {p : Int} (hk : KidIn o1 p) (hg : Grow o o1) : QTell o (endO p o1) := by
  refine ⟨fun s' e => ?_, fun s' e => ?_⟩
  · rw [toO_end] at e; subst e; exact hk s' rfl
  · rw [toO_end] at e; exact hg s' e
theorem Lim.next_lt {s : PS} {n m : Nat} {a : List UInt8} (h : Lim (.ok s) n m) (hb : s.is a = true) : 1 ≤ m ∧ 1 ≤ n ∧ Lim (.ok s.next) (n - 1) (m - 1) := by
  have h1 := h s rfl
  have h2 := is_some hb
  exact ⟨by omega, by omega, h.next_le hb⟩
/-- what Expr, and what is in brackets, is read as, while few tokens are left -/
def QExprC (B g : Nat) (L : List Tk) (M : Nat) : Prop := ∀ w R d o, QAny B g L w R d o → (∀ s, o = .ok s → d ≤ 200) → Lim o L.length M → Calls Tryz.prog 82 #[.pointer (some ⟨g, 0, none⟩)] w (QDone B g L w R d o (fun s n => rd n (.chain 0) d s))
set_option maxRecDepth 100000 in
theorem qround_of {M : Nat} (hE : ∀ m, m < M → QExprC B g L m) (H : QAny B g L w R d o) (hd : ∀ s, o = .ok s → d ≤ 200) (hl : Lim o L.length M) : Calls Tryz.prog 111 #[.pointer (some ⟨g, 0, none⟩)] w (QDone B g L w R d o (fun s n => rd n (.inner lp rp) d s)) := by
  have HS := hidden (QRun.start H)
  have HE := hidden hE
  have HDD := hidden hd
  have HL := hidden hl
  have hfd := field_at
  obtain ⟨tk, tn, ta, tx, hta, hcall⟩ := q_now' H
  have HTA := hidden hta
  have HC := hidden hcall
  clear H hE hd hl hta hcall
  go_enter Tryz.func111, Tryz.ntmps111
  rw [veil 9]
  go_wp2_with fail
  refine HC.out.mono ?_
  rintro en w1 ⟨rfl, hb⟩
  replace HS := hidden (HS.out.below hb)
  clear hb HC
  go_wp2_with fail
  refine (q_must lp HS.out.any).mono ?_
  rintro en w2 ⟨⟨x2, rfl⟩, ha, hf⟩
  replace HS := hidden (HS.out.step ha hf (fun _ h => h))
  clear ha hf
  go_wp2_with fail
  refine (q_opens ta HS.out.any (fun s hs => by cases o with | error f => cases hs | ok s0 => have := HDD.out s0 rfl; omega)).mono ?_
  rintro en w3 ⟨⟨x3, rfl⟩, ha, hf⟩
  replace HS := hidden (HS.out.step ha hf (fun _ h => h))
  clear ha hf
  obtain ⟨o2, ho2⟩ : ∃ o2, o2 = openO d ta (needO lp o) := ⟨_, rfl⟩
  rw [← ho2] at HS
  have HO2 := hidden ho2
  clear ho2
  cases o2 with
  | error f =>
    obtain ⟨e, c5, he⟩ := q_err5 HS.out.any
    have hen : (e != 0) = true := by simpa using he
    clear he
    go_wp2_with fail
    go_ret
    exact ⟨.error f, _, Does.inner_bad (fun s hs => (HTA.out s hs).2.2.1) HO2.out.symm, ⟨⟨HS.out.any, HS.out.fr, HS.out.z⟩, rfl, QTell.err⟩⟩
  | ok s2 =>
    have c5 := q_ok5 HS.out.any
    obtain ⟨hn, hd2⟩ := qopen_ok HO2.out.symm
    obtain ⟨s, rfl, ha, rfl⟩ := qneed_ok hn
    obtain ⟨hM, hN, hl1⟩ := HL.out.next_lt ha
    have HA := hidden ha
    have HD2 := hidden hd2
    have HL1 := hidden hl1
    have HM := hidden hM
    clear hn ha hd2 hl1 hM hN
    go_wp2_with fail
    refine (HE.out (M - 1) (by have := HM.out; omega) _ _ _ _ HS.out.any (fun _ _ => by have := HD2.out; omega) (HL1.out.mono (by omega) (Nat.le_refl _))).mono ?_
    rintro en w4 ⟨v, R4, hdo, hgot⟩
    obtain rfl := hgot.en
    replace HS := hidden (HS.out.then_ hgot.run)
    have HDO := hidden hdo
    have HT := hidden hgot.tell
    obtain ⟨k, hk⟩ : ∃ k, k = kidO v := ⟨_, rfl⟩
    rw [← hk]
    have HK := hidden hk
    clear hdo hgot hk c5
    go_wp2_with fail
    refine (q_must rp HS.out.any).mono ?_
    rintro en w5 ⟨⟨x5, rfl⟩, ha, hf⟩
    replace HS := hidden (HS.out.step ha hf (fun _ h => h))
    clear ha hf
    obtain ⟨o5, ho5⟩ : ∃ o5, o5 = needO rp (toO v) := ⟨_, rfl⟩
    rw [← ho5] at HS
    have HO5 := hidden ho5
    clear ho5
    obtain ⟨dd, V, c2, f2, hV, ha, hf⟩ := QAny.close HS.out.any (by have := HD2.out; omega)
    obtain ⟨W, hW⟩ : ∃ W, W = w5.setCell ⟨g, 2, none⟩ (.int .i64 V) := ⟨_, rfl⟩
    rw [← hW] at ha hf
    replace HS := hidden (HS.out.step ha hf (fun _ h => h))
    clear ha hf
    go_wp2_with fail
    rw [← hV, ← hW]
    clear hV hW c2 f2
    refine wp_veil ?_
    have HG : Hid (Grow (.ok s) o5) := by rw [HO5.out]; exact (Grow.next.trans HT.out.grow).trans (Grow.need _)
    have HKI : Hid (KidIn o5 (kidO v)) := by rw [HO5.out]; exact HT.out.kidIn.grow (Grow.need _)
    have HDZ : Hid (Does (.ok s) (fun s n => rd n (.inner lp rp) d s) (endO (kidO v) o5)) := by rw [HO5.out]; exact Does.inner_ok HA.out HD2.out HDO.out
    cases o5 with
    | error f =>
      obtain ⟨e, c5, he⟩ := q_err5 HS.out.any
      have hen : (e != 0) = true := by simpa using he
      clear he
      go_wp2_with fail
      go_ret
      exact ⟨.error f, _, HDZ.out, ⟨⟨HS.out.any, HS.out.fr, HS.out.z⟩, rfl, QTell.err⟩⟩
    | ok s5 =>
      have c5 := q_ok5 HS.out.any
      go_wp2_with fail
      go_ret
      exact ⟨endO (kidO v) (.ok s5), _, HDZ.out, ⟨⟨HS.out.any, HS.out.fr, HS.out.z⟩, by rw [HK.out]; rfl, QTell.end_ HKI.out HG.out⟩⟩
set_option maxRecDepth 100000 in
theorem qsquare_of {M : Nat} (hE : ∀ m, m < M → QExprC B g L m) (H : QAny B g L w R d o) (hd : ∀ s, o = .ok s → d ≤ 200) (hl : Lim o L.length M) : Calls Tryz.prog 81 #[.pointer (some ⟨g, 0, none⟩)] w (QDone B g L w R d o (fun s n => rd n (.inner lb rb) d s)) := by
  have HS := hidden (QRun.start H)
  have HE := hidden hE
  have HDD := hidden hd
  have HL := hidden hl
  have hfd := field_at
  obtain ⟨tk, tn, ta, tx, hta, hcall⟩ := q_now' H
  have HTA := hidden hta
  have HC := hidden hcall
  clear H hE hd hl hta hcall
  go_enter Tryz.func81, Tryz.ntmps81
  rw [veil 9]
  go_wp2_with fail
  refine HC.out.mono ?_
  rintro en w1 ⟨rfl, hb⟩
  replace HS := hidden (HS.out.below hb)
  clear hb HC
  go_wp2_with fail
  refine (q_must lb HS.out.any).mono ?_
  rintro en w2 ⟨⟨x2, rfl⟩, ha, hf⟩
  replace HS := hidden (HS.out.step ha hf (fun _ h => h))
  clear ha hf
  go_wp2_with fail
  refine (q_opens ta HS.out.any (fun s hs => by cases o with | error f => cases hs | ok s0 => have := HDD.out s0 rfl; omega)).mono ?_
  rintro en w3 ⟨⟨x3, rfl⟩, ha, hf⟩
  replace HS := hidden (HS.out.step ha hf (fun _ h => h))
  clear ha hf
  obtain ⟨o2, ho2⟩ : ∃ o2, o2 = openO d ta (needO lb o) := ⟨_, rfl⟩
  rw [← ho2] at HS
  have HO2 := hidden ho2
  clear ho2
  cases o2 with
  | error f =>
    obtain ⟨e, c5, he⟩ := q_err5 HS.out.any
    have hen : (e != 0) = true := by simpa using he
    clear he
    go_wp2_with fail
    go_ret
    exact ⟨.error f, _, Does.inner_bad (fun s hs => (HTA.out s hs).2.2.1) HO2.out.symm, ⟨⟨HS.out.any, HS.out.fr, HS.out.z⟩, rfl, QTell.err⟩⟩
  | ok s2 =>
    have c5 := q_ok5 HS.out.any
    obtain ⟨hn, hd2⟩ := qopen_ok HO2.out.symm
    obtain ⟨s, rfl, ha, rfl⟩ := qneed_ok hn
    obtain ⟨hM, hN, hl1⟩ := HL.out.next_lt ha
    have HA := hidden ha
    have HD2 := hidden hd2
    have HL1 := hidden hl1
    have HM := hidden hM
    clear hn ha hd2 hl1 hM hN
    go_wp2_with fail
    refine (HE.out (M - 1) (by have := HM.out; omega) _ _ _ _ HS.out.any (fun _ _ => by have := HD2.out; omega) (HL1.out.mono (by omega) (Nat.le_refl _))).mono ?_
    rintro en w4 ⟨v, R4, hdo, hgot⟩
    obtain rfl := hgot.en
    replace HS := hidden (HS.out.then_ hgot.run)
    have HDO := hidden hdo
    have HT := hidden hgot.tell
    obtain ⟨k, hk⟩ : ∃ k, k = kidO v := ⟨_, rfl⟩
    rw [← hk]
    have HK := hidden hk
    clear hdo hgot hk c5
    go_wp2_with fail
    refine (q_must rb HS.out.any).mono ?_
    rintro en w5 ⟨⟨x5, rfl⟩, ha, hf⟩
    replace HS := hidden (HS.out.step ha hf (fun _ h => h))
    clear ha hf
    obtain ⟨o5, ho5⟩ : ∃ o5, o5 = needO rb (toO v) := ⟨_, rfl⟩
    rw [← ho5] at HS
    have HO5 := hidden ho5
    clear ho5
    obtain ⟨dd, V, c2, f2, hV, ha, hf⟩ := QAny.close HS.out.any (by have := HD2.out; omega)
    obtain ⟨W, hW⟩ : ∃ W, W = w5.setCell ⟨g, 2, none⟩ (.int .i64 V) := ⟨_, rfl⟩
    rw [← hW] at ha hf
    replace HS := hidden (HS.out.step ha hf (fun _ h => h))
    clear ha hf
    go_wp2_with fail
    rw [← hV, ← hW]
    clear hV hW c2 f2
    refine wp_veil ?_
    have HG : Hid (Grow (.ok s) o5) := by rw [HO5.out]; exact (Grow.next.trans HT.out.grow).trans (Grow.need _)
    have HKI : Hid (KidIn o5 (kidO v)) := by rw [HO5.out]; exact HT.out.kidIn.grow (Grow.need _)
    have HDZ : Hid (Does (.ok s) (fun s n => rd n (.inner lb rb) d s) (endO (kidO v) o5)) := by rw [HO5.out]; exact Does.inner_ok HA.out HD2.out HDO.out
    cases o5 with
    | error f =>
      obtain ⟨e, c5, he⟩ := q_err5 HS.out.any
      have hen : (e != 0) = true := by simpa using he
      clear he
      go_wp2_with fail
      go_ret
      exact ⟨.error f, _, HDZ.out, ⟨⟨HS.out.any, HS.out.fr, HS.out.z⟩, rfl, QTell.err⟩⟩
    | ok s5 =>
      have c5 := q_ok5 HS.out.any
      go_wp2_with fail
      go_ret
      exact ⟨endO (kidO v) (.ok s5), _, HDZ.out, ⟨⟨HS.out.any, HS.out.fr, HS.out.z⟩, by rw [HK.out]; rfl, QTell.end_ HKI.out HG.out⟩⟩
end Go.Proofs.YtagacfcpepoaoaaGreatDoor
