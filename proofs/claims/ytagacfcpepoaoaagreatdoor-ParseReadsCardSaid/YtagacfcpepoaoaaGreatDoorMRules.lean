/- ParseSpec, ParseRules, in one text. -/
import Derived.Test.YtagacfcpepoaoaaGreatDoorMSpec
import Derived.Test.YtagacfcpepoaoaaGreatDoorExprRules
namespace Go.Proofs.YtagacfcpepoaoaaGreatDoor
set_option linter.unusedVariables false

def lc : List UInt8 := [123]
def rc : List UInt8 := [125]
def semi : List UInt8 := [59]
def eqs : List UInt8 := [61]
def wFn : List UInt8 := [102, 110]
def wVar : List UInt8 := [118, 97, 114]
def wIf : List UInt8 := [105, 102]
def wElse : List UInt8 := [101, 108, 115, 101]
def wWhile : List UInt8 := [119, 104, 105, 108, 101]
def wFor : List UInt8 := [102, 111, 114]
def wBreak : List UInt8 := [98, 114, 101, 97, 107]
def wCont : List UInt8 := [99, 111, 110, 116, 105, 110, 117, 101]
def wRet : List UInt8 := [114, 101, 116, 117, 114, 110]
def wPrint : List UInt8 := [112, 114, 105, 110, 116]
def wInt : List UInt8 := [105, 110, 116]
def wBool : List UInt8 := [98, 111, 111, 108]
def wArr : List UInt8 := [97, 114, 114]
/-- a token that must be there -/
def need (b : List UInt8) (s : PS) (f : PS → Option Out) : Option Out := if s.is b then f s.next else some (.error (8, s.tok.place))
/-- a name -/
def needName (s : PS) (f : ByteArray → Nat → PS → Option Out) : Option Out := if s.tok.kind = 1 then f ⟨s.tok.text.toArray⟩ s.tok.place s.next else some (.error (8, s.tok.place))
/-- a kind -/
def kindAt (t : Tk) : Nat := if sees t wInt then 1 else if sees t wBool then 2 else if sees t wArr then 3 else 0
def needKind (s : PS) (f : Nat → PS → Option Out) : Option Out := if kindAt s.tok = 0 then some (.error (8, s.tok.place)) else f (kindAt s.tok) s.next
/-- an expression -/
def needEx (n d : Nat) (s : PS) (f : Int → PS → Option Out) : Option Out := Out.go (rd n (.chain 0) d s) fun p s1 => f (hd1 p) s1
/-- which statement a token begins -/
def stAt (t : Tk) : Nat :=
  if sees t wVar then 1 else if sees t wFor then 2 else if sees t wBreak then 3 else if sees t wCont then 4 else if sees t wRet then 5 else if sees t wPrint then 6 else if sees t wWhile then 7 else if sees t wIf then 8 else 0
/-- what is to be read -/
inductive Pm where
  | block
  | stmts (acc : List Int) (at_ : Nat)
  | stmt
  | params (acc : List Int)
  | func
  | prog (acc : List Int)
/-- the reader, with fuel; none: too little of it -/
def prd : Nat → Pm → Nat → PS → Option Out
  | 0, _, _, _ => none
  | n + 1, .block, d, s => need lc s fun s1 => if 200 ≤ d then some (.error (4, s.tok.place)) else prd n (.stmts [] s.tok.place) (d + 1) s1
  | n + 1, .stmts acc at_, d, s => if s.is rc then some (lay (En 23 acc 0 ⟨#[]⟩ at_) s.next) else Out.go (prd n .stmt d s) fun k s1 => prd n (.stmts (acc ++ [hd1 k]) at_) d s1
  | n + 1, .stmt, d, s => match stAt s.tok with
    | 1 => needName s.next fun nm at_ s1 => need eqs s1 fun s2 => needEx n d s2 fun a s3 => need semi s3 fun s4 => some (lay (En 12 [a] 0 nm at_) s4)
    | 2 => needName s.next fun nm at_ s1 => need eqs s1 fun s2 => needEx n d s2 fun a s3 => need comma s3 fun s4 => needEx n d s4 fun b s5 => Out.go (prd n .block d s5) fun c s6 => some (lay (En 17 [a, b, hd1 c] 0 nm at_) s6)
    | 3 => need semi s.next fun s1 => some (lay (En 18 [] 0 ⟨#[]⟩ s.tok.place) s1)
    | 4 => need semi s.next fun s1 => some (lay (En 19 [] 0 ⟨#[]⟩ s.tok.place) s1)
    | 5 => needEx n d s.next fun a s1 => need semi s1 fun s2 => some (lay (En 20 [a] 0 ⟨#[]⟩ s.tok.place) s2)
    | 6 => needEx n d s.next fun a s1 => need semi s1 fun s2 => some (lay (En 21 [a] 0 ⟨#[]⟩ s.tok.place) s2)
    | 7 => needEx n d s.next fun a s1 => Out.go (prd n .block d s1) fun b s2 => some (lay (En 16 [a, hd1 b] 0 ⟨#[]⟩ s.tok.place) s2)
    | 8 => needEx n d s.next fun a s1 => Out.go (prd n .block d s1) fun b s2 =>
      if s2.is wElse then Out.go (prd n .block d s2.next) fun c s3 => some (lay (En 15 [a, hd1 b, hd1 c] 0 ⟨#[]⟩ s.tok.place) s3)
      else some (lay (En 15 [a, hd1 b] 0 ⟨#[]⟩ s.tok.place) s2)
    | _ => needName s fun nm at_ s1 =>
      if s1.is lp then Out.go (rd n (.call nm at_) d s1) fun k s2 => need semi s2 fun s3 => some (lay (En 22 [hd1 k] 0 ⟨#[]⟩ at_) s3)
      else if s1.is lb then Out.go (rd n (.inner lb rb) d s1) fun a s2 => need eqs s2 fun s3 => needEx n d s3 fun b s4 => need semi s4 fun s5 => some (lay (En 14 [hd1 a, b] 0 nm s1.tok.place) s5)
      else need eqs s1 fun s2 => needEx n d s2 fun a s3 => need semi s3 fun s4 => some (lay (En 13 [a] 0 nm at_) s4)
  | n + 1, .params acc, d, s => needName s fun nm at_ s1 =>
    if 8 ≤ acc.length then some (.error (3, at_))
    else needKind s1 fun k s2 => Out.go (some (lay (En 24 [] k nm at_) s2)) fun q s3 => if s3.is comma then prd n (.params (acc ++ [hd1 q])) d s3.next else need rp s3 fun s4 => some (.ok (acc ++ [hd1 q], s4))
  | n + 1, .func, d, s => needName s fun nm at_ s1 => need lp s1 fun s2 => Out.go (if s2.is rp then some (.ok ([], s2.next)) else prd n (.params []) d s2) fun ps s3 => needKind s3 fun k s4 =>
    Out.go (prd n .block d s4) fun b s5 => some (lay (En 25 (ps ++ [hd1 b]) k nm at_) s5)
  | n + 1, .prog acc, d, s =>
    if s.tok.kind = 0 then some (lay (En 26 acc 0 ⟨#[]⟩ 0) s)
    else need wFn s fun s1 => if 200 ≤ acc.length then some (.error (3, s.tok.place)) else Out.go (prd n .func d s1) fun q s2 => prd n (.prog (acc ++ [hd1 q])) d s2
/-- more fuel changes nothing -/
theorem need_mono {b : List UInt8} {s : PS} {f f' : PS → Option Out} {v : Out} (h : need b s f = some v) (hf : ∀ u w, f u = some w → f' u = some w) : need b s f' = some v := by
  unfold need at h ⊢
  split at h
  · rename_i g; rw [if_pos g]; exact hf _ _ h
  · rename_i g; rw [if_neg g]; exact h
theorem needName_mono {s : PS} {f f' : ByteArray → Nat → PS → Option Out} {v : Out} (h : needName s f = some v) (hf : ∀ a b u w, f a b u = some w → f' a b u = some w) : needName s f' = some v := by
  unfold needName at h ⊢
  split at h
  · rename_i g; rw [if_pos g]; exact hf _ _ _ _ h
  · rename_i g; rw [if_neg g]; exact h
theorem needKind_mono {s : PS} {f f' : Nat → PS → Option Out} {v : Out} (h : needKind s f = some v) (hf : ∀ a u w, f a u = some w → f' a u = some w) : needKind s f' = some v := by
  unfold needKind at h ⊢
  split at h
  · rename_i g; rw [if_pos g]; exact h
  · rename_i g; rw [if_neg g]; exact hf _ _ _ h
theorem needEx_mono {n m d : Nat} {s : PS} {f f' : Int → PS → Option Out} {v : Out} (hm : n ≤ m) (h : needEx n d s f = some v) (hf : ∀ a u w, f a u = some w → f' a u = some w) : needEx m d s f' = some v :=
  go_mono h (fun u hu => rd_more hu hm) (fun p s u => hf _ _ _)
theorem prd_mono : ∀ (n : Nat) (m : Pm) (d : Nat) (s : PS) (v : Out), prd n m d s = some v → prd (n + 1) m d s = some v
  | 0, _, _, _, _, h => by cases h
  | n + 1, .block, d, s, v, h => by
    rw [prd] at h ⊢
    refine need_mono h fun u w hu => ?_
    split at hu
    · rename_i g; rw [if_pos g]; exact hu
    · rename_i g; rw [if_neg g]; exact prd_mono n _ _ _ _ hu
  | n + 1, .stmts acc at_, d, s, v, h => by
    rw [prd] at h ⊢
    split at h
    · rename_i g; rw [if_pos g]; exact h
    · rename_i g; rw [if_neg g]; exact go_mono h (fun u => prd_mono n _ _ _ u) (fun p s u => prd_mono n _ _ _ u)
  | n + 1, .stmt, d, s, v, h => by
    have ih := prd_mono n
    have le : n ≤ n + 1 := Nat.le_succ n
    rw [prd] at h ⊢
    split at h
    · exact needName_mono h fun a b u w hu => need_mono hu fun u w hu => needEx_mono le hu fun a u w hu => need_mono hu fun u w hu => hu
    · exact needName_mono h fun a b u w hu => need_mono hu fun u w hu => needEx_mono le hu fun a u w hu => need_mono hu fun u w hu => needEx_mono le hu fun a u w hu => go_mono hu (fun x => ih _ _ _ x) (fun _ _ _ e => e)
    · exact h
    · exact h
    · exact needEx_mono le h fun a u w hu => hu
    · exact needEx_mono le h fun a u w hu => hu
    · exact needEx_mono le h fun a u w hu => go_mono hu (fun x => ih _ _ _ x) (fun _ _ _ e => e)
    · refine needEx_mono le h fun a u w hu => go_mono hu (fun x => ih _ _ _ x) (fun p s u hu => ?_)
      split at hu
      · rename_i g; rw [if_pos g]; exact go_mono hu (fun x => ih _ _ _ x) (fun _ _ _ e => e)
      · rename_i g; rw [if_neg g]; exact hu
    · refine needName_mono h fun a b u w hu => ?_
      split at hu
      · rename_i g; rw [if_pos g]; exact go_mono hu (fun x hx => rd_more hx le) (fun _ _ _ e => e)
      · rename_i g
        rw [if_neg g]
        split at hu
        · rename_i g2; rw [if_pos g2]; exact go_mono hu (fun x hx => rd_more hx le) (fun p s u hu => need_mono hu fun u w hu => needEx_mono le hu fun a u w hu => hu)
        · rename_i g2; rw [if_neg g2]; exact need_mono hu fun u w hu => needEx_mono le hu fun a u w hu => hu
  | n + 1, .params acc, d, s, v, h => by
    rw [prd] at h ⊢
    refine needName_mono h fun a b u w hu => ?_
    split at hu
    · rename_i g; rw [if_pos g]; exact hu
    · rename_i g
      rw [if_neg g]
      refine needKind_mono hu fun a u w hu => go_mono hu (fun _ e => e) (fun p s u hu => ?_)
      split at hu
      · rename_i g2; rw [if_pos g2]; exact prd_mono n _ _ _ _ hu
      · rename_i g2; rw [if_neg g2]; exact hu
  | n + 1, .func, d, s, v, h => by
    rw [prd] at h ⊢
    refine needName_mono h fun a b u w hu => need_mono hu fun u w hu => go_mono hu (fun x hx => ?_) (fun p s u hu => needKind_mono hu fun a u w hu => go_mono hu (fun x => prd_mono n _ _ _ x) (fun _ _ _ e => e))
    split at hx
    · rename_i g; rw [if_pos g]; exact hx
    · rename_i g; rw [if_neg g]; exact prd_mono n _ _ _ _ hx
  | n + 1, .prog acc, d, s, v, h => by
    rw [prd] at h ⊢
    split at h
    · rename_i g; rw [if_pos g]; exact h
    · rename_i g
      rw [if_neg g]
      refine need_mono h fun u w hu => ?_
      split at hu
      · rename_i g2; rw [if_pos g2]; exact hu
      · rename_i g2; rw [if_neg g2]; exact go_mono hu (fun x => prd_mono n _ _ _ x) (fun p s u => prd_mono n _ _ _ u)
theorem prd_more {n m : Nat} {k : Pm} {d : Nat} {s : PS} {v : Out} (h : prd n k d s = some v) (hm : n ≤ m) : prd m k d s = some v := by
  induction hm with
  | refl => exact h
  | step _ ih => exact prd_mono _ _ _ _ _ ih
/-- what is read -/
def PReads (k : Pm) (d : Nat) (s : PS) (v : Out) : Prop := ∃ n, prd n k d s = some v
theorem PReads.one {k : Pm} {d : Nat} {s : PS} {v u : Out} (h : PReads k d s v) (g : PReads k d s u) : v = u := by
  obtain ⟨n, hn⟩ := h
  obtain ⟨m, hm⟩ := g
  have h1 := prd_more hn (Nat.le_max_left n m)
  have h2 := prd_more hm (Nat.le_max_right n m)
  rw [h1] at h2
  exact Option.some.inj h2
/-- what Parse makes of what is read: the tree, or what is wrong -/
def pparsed (v : Out) : Except Flt (List Nd) := match v with
  | .error f => .error f
  | .ok (_, s) => .ok s.l
end Go.Proofs.YtagacfcpepoaoaaGreatDoor

namespace Go.Proofs.YtagacfcpepoaoaaGreatDoor
set_option linter.unusedVariables false

/-- with enough fuel -/
def Ev (F : Nat → Option Out) (v : Out) : Prop := ∃ n0, ∀ n, n0 ≤ n → F n = some v
variable {d : Nat} {s s1 : PS} {v : Out} {a : Int} {e : Flt} {b : List UInt8}
theorem Ev.const : Ev (fun _ => some v) v := ⟨0, fun _ _ => rfl⟩
theorem Reads.ev {m : Md} (h : Reads m d s v) : Ev (fun n => rd n m d s) v := by
  obtain ⟨n, hn⟩ := h
  exact ⟨n, fun k hk => rd_more hn hk⟩
theorem PReads.ev {m : Pm} (h : PReads m d s v) : Ev (fun n => prd n m d s) v := by
  obtain ⟨n, hn⟩ := h
  exact ⟨n, fun k hk => prd_more hn hk⟩
theorem PReads.of_ev {m : Pm} (h : Ev (fun n => prd (n + 1) m d s) v) : PReads m d s v := by
  obtain ⟨n, hn⟩ := h
  exact ⟨n + 1, hn n (Nat.le_refl _)⟩
theorem Ev.need {f : Nat → PS → Option Out} (h : s.is b = true) (g : Ev (fun n => f n s.next) v) : Ev (fun n => need b s (f n)) v := by
  obtain ⟨n, hn⟩ := g
  refine ⟨n, fun k hk => ?_⟩
  exact (if_pos h).trans (hn k hk)
theorem Ev.need_no {f : Nat → PS → Option Out} (h : s.is b = false) : Ev (fun n => Go.Proofs.YtagacfcpepoaoaaGreatDoor.need b s (f n)) (.error (8, s.tok.place)) := by
  refine ⟨0, fun k _ => ?_⟩
  exact if_neg (by rw [h]; decide)
theorem Ev.name {f : Nat → ByteArray → Nat → PS → Option Out} (h : s.tok.kind = 1) (g : Ev (fun n => f n ⟨s.tok.text.toArray⟩ s.tok.place s.next) v) : Ev (fun n => needName s (f n)) v := by
  obtain ⟨n, hn⟩ := g
  refine ⟨n, fun k hk => ?_⟩
  exact (if_pos h).trans (hn k hk)
theorem Ev.name_no {f : Nat → ByteArray → Nat → PS → Option Out} (h : s.tok.kind ≠ 1) : Ev (fun n => needName s (f n)) (.error (8, s.tok.place)) := by
  refine ⟨0, fun k _ => ?_⟩
  exact if_neg h
theorem Ev.kind {f : Nat → Nat → PS → Option Out} (h : kindAt s.tok ≠ 0) (g : Ev (fun n => f n (kindAt s.tok) s.next) v) : Ev (fun n => needKind s (f n)) v := by
  obtain ⟨n, hn⟩ := g
  refine ⟨n, fun k hk => ?_⟩
  exact (if_neg h).trans (hn k hk)
theorem Ev.kind_no {f : Nat → Nat → PS → Option Out} (h : kindAt s.tok = 0) : Ev (fun n => needKind s (f n)) (.error (8, s.tok.place)) := by
  refine ⟨0, fun k _ => ?_⟩
  exact if_pos h
theorem Ev.go {F : Nat → Option Out} {f : Nat → List Int → PS → Option Out} {p : List Int} (h : Ev F (.ok (p, s1))) (g : Ev (fun n => f n p s1) v) : Ev (fun n => Out.go (F n) (f n)) v := by
  obtain ⟨n, hn⟩ := h
  obtain ⟨m, hm⟩ := g
  refine ⟨max n m, fun k hk => ?_⟩
  show Out.go (F k) (f k) = _
  rw [hn k (by omega)]
  exact hm k (by omega)
theorem Ev.go_err {F : Nat → Option Out} {f : Nat → List Int → PS → Option Out} (h : Ev F (.error e)) : Ev (fun n => Out.go (F n) (f n)) (.error e) := by
  obtain ⟨n, hn⟩ := h
  refine ⟨n, fun k hk => ?_⟩
  show Out.go (F k) (f k) = _
  rw [hn k hk]
  rfl
theorem Ev.ex {f : Nat → Int → PS → Option Out} (h : Reads (.chain 0) d s (.ok ([a], s1))) (g : Ev (fun n => f n a s1) v) : Ev (fun n => needEx n d s (f n)) v := Ev.go h.ev g
theorem Ev.ex_err {f : Nat → Int → PS → Option Out} (h : Reads (.chain 0) d s (.error e)) : Ev (fun n => needEx n d s (f n)) (.error e) := Ev.go_err h.ev
theorem Ev.ite_pos {c : Prop} [Decidable c] {F G : Nat → Option Out} (h : c) (g : Ev F v) : Ev (fun n => if c then F n else G n) v := by
  obtain ⟨n, hn⟩ := g
  exact ⟨n, fun k hk => by show (if c then F k else G k) = _; rw [if_pos h]; exact hn k hk⟩
theorem Ev.ite_neg {c : Prop} [Decidable c] {F G : Nat → Option Out} (h : ¬ c) (g : Ev G v) : Ev (fun n => if c then F n else G n) v := by
  obtain ⟨n, hn⟩ := g
  exact ⟨n, fun k hk => by show (if c then F k else G k) = _; rw [if_neg h]; exact hn k hk⟩
theorem Ev.congr {F G : Nat → Option Out} (h : ∀ n, G n = F n) (g : Ev F v) : Ev G v := by
  obtain ⟨n, hn⟩ := g
  exact ⟨n, fun k hk => by rw [h]; exact hn k hk⟩
/-- what each mode begins with -/
theorem PReads.block (g : Ev (fun n => need lc s fun s1 => if 200 ≤ d then some (.error (4, s.tok.place)) else prd n (.stmts [] s.tok.place) (d + 1) s1) v) : PReads .block d s v := .of_ev (g.congr fun n => by rw [prd])
theorem PReads.stmts_end {acc : List Int} {at_ : Nat} (h : s.is rc = true) : PReads (.stmts acc at_) d s (lay (En 23 acc 0 ⟨#[]⟩ at_) s.next) := .of_ev (Ev.const.congr fun n => by rw [prd, if_pos h])
theorem PReads.stmts_err {acc : List Int} {at_ : Nat} (h : s.is rc = false) (g : PReads .stmt d s (.error e)) : PReads (.stmts acc at_) d s (.error e) :=
  .of_ev ((Ev.go_err (f := fun n k s1 => prd n (.stmts (acc ++ [hd1 k]) at_) d s1) g.ev).congr fun n => by rw [prd, h]; rfl)
theorem PReads.stmts_next {acc : List Int} {at_ : Nat} (h : s.is rc = false) (g : PReads .stmt d s (.ok ([a], s1))) (r : PReads (.stmts (acc ++ [a]) at_) d s1 v) : PReads (.stmts acc at_) d s v :=
  .of_ev ((Ev.go (f := fun n k s1 => prd n (.stmts (acc ++ [hd1 k]) at_) d s1) g.ev r.ev).congr fun n => by rw [prd, h]; rfl)
theorem PReads.let_ (h : stAt s.tok = 1) (g : Ev (fun n => needName s.next fun nm at_ s1 => need eqs s1 fun s2 => needEx n d s2 fun a s3 => need semi s3 fun s4 => some (lay (En 12 [a] 0 nm at_) s4)) v) : PReads .stmt d s v := .of_ev (g.congr fun n => by rw [prd, h]; rfl)
theorem PReads.for_ (h : stAt s.tok = 2) (g : Ev (fun n => needName s.next fun nm at_ s1 => need eqs s1 fun s2 => needEx n d s2 fun a s3 => need comma s3 fun s4 => needEx n d s4 fun b s5 => Out.go (prd n .block d s5) fun c s6 => some (lay (En 17 [a, b, hd1 c] 0 nm at_) s6)) v) : PReads .stmt d s v := .of_ev (g.congr fun n => by rw [prd, h]; rfl)
theorem PReads.break_ (h : stAt s.tok = 3) (g : Ev (fun n => need semi s.next fun s1 => some (lay (En 18 [] 0 ⟨#[]⟩ s.tok.place) s1)) v) : PReads .stmt d s v := .of_ev (g.congr fun n => by rw [prd, h]; rfl)
theorem PReads.cont (h : stAt s.tok = 4) (g : Ev (fun n => need semi s.next fun s1 => some (lay (En 19 [] 0 ⟨#[]⟩ s.tok.place) s1)) v) : PReads .stmt d s v := .of_ev (g.congr fun n => by rw [prd, h]; rfl)
theorem PReads.ret (h : stAt s.tok = 5) (g : Ev (fun n => needEx n d s.next fun a s1 => need semi s1 fun s2 => some (lay (En 20 [a] 0 ⟨#[]⟩ s.tok.place) s2)) v) : PReads .stmt d s v := .of_ev (g.congr fun n => by rw [prd, h]; rfl)
theorem PReads.print (h : stAt s.tok = 6) (g : Ev (fun n => needEx n d s.next fun a s1 => need semi s1 fun s2 => some (lay (En 21 [a] 0 ⟨#[]⟩ s.tok.place) s2)) v) : PReads .stmt d s v := .of_ev (g.congr fun n => by rw [prd, h]; rfl)
theorem PReads.while_ (h : stAt s.tok = 7) (g : Ev (fun n => needEx n d s.next fun a s1 => Out.go (prd n .block d s1) fun b s2 => some (lay (En 16 [a, hd1 b] 0 ⟨#[]⟩ s.tok.place) s2)) v) : PReads .stmt d s v := .of_ev (g.congr fun n => by rw [prd, h]; rfl)
theorem PReads.if_ (h : stAt s.tok = 8) (g : Ev (fun n => needEx n d s.next fun a s1 => Out.go (prd n .block d s1) fun b s2 =>
      if s2.is wElse then Out.go (prd n .block d s2.next) fun c s3 => some (lay (En 15 [a, hd1 b, hd1 c] 0 ⟨#[]⟩ s.tok.place) s3)
      else some (lay (En 15 [a, hd1 b] 0 ⟨#[]⟩ s.tok.place) s2)) v) : PReads .stmt d s v := .of_ev (g.congr fun n => by rw [prd, h]; rfl)
theorem PReads.named (h : stAt s.tok = 0) (g : Ev (fun n => needName s fun nm at_ s1 =>
      if s1.is lp then Out.go (rd n (.call nm at_) d s1) fun k s2 => need semi s2 fun s3 => some (lay (En 22 [hd1 k] 0 ⟨#[]⟩ at_) s3)
      else if s1.is lb then Out.go (rd n (.inner lb rb) d s1) fun a s2 => need eqs s2 fun s3 => needEx n d s3 fun b s4 => need semi s4 fun s5 => some (lay (En 14 [hd1 a, b] 0 nm s1.tok.place) s5)
      else need eqs s1 fun s2 => needEx n d s2 fun a s3 => need semi s3 fun s4 => some (lay (En 13 [a] 0 nm at_) s4)) v) : PReads .stmt d s v := .of_ev (g.congr fun n => by rw [prd, h]; rfl)
theorem PReads.params {acc : List Int} (g : Ev (fun n => needName s fun nm at_ s1 =>
    if 8 ≤ acc.length then some (.error (3, at_))
    else needKind s1 fun k s2 => Out.go (some (lay (En 24 [] k nm at_) s2)) fun q s3 => if s3.is comma then prd n (.params (acc ++ [hd1 q])) d s3.next else need rp s3 fun s4 => some (.ok (acc ++ [hd1 q], s4))) v) : PReads (.params acc) d s v := .of_ev (g.congr fun n => by rw [prd])
theorem PReads.func (g : Ev (fun n => needName s fun nm at_ s1 => need lp s1 fun s2 => Out.go (if s2.is rp then some (.ok ([], s2.next)) else prd n (.params []) d s2) fun ps s3 => needKind s3 fun k s4 =>
    Out.go (prd n .block d s4) fun b s5 => some (lay (En 25 (ps ++ [hd1 b]) k nm at_) s5)) v) : PReads .func d s v := .of_ev (g.congr fun n => by rw [prd])
theorem PReads.prog_end {acc : List Int} (h : s.tok.kind = 0) : PReads (.prog acc) d s (lay (En 26 acc 0 ⟨#[]⟩ 0) s) := .of_ev (Ev.const.congr fun n => by rw [prd, if_pos h])
theorem PReads.prog_no {acc : List Int} (h : s.tok.kind ≠ 0) (g : s.is wFn = false) : PReads (.prog acc) d s (.error (8, s.tok.place)) :=
  .of_ev ((Ev.need_no (f := fun n s1 => if 200 ≤ acc.length then some (.error (3, s.tok.place)) else Out.go (prd n .func d s1) fun q s2 => prd n (.prog (acc ++ [hd1 q])) d s2) g).congr fun n => by rw [prd, if_neg h])
theorem sees_nz {t : Tk} (h : sees t b = true) : t.kind ≠ 0 := fun e => by unfold sees at h; rw [e] at h; cases h
theorem PReads.prog_long {acc : List Int} (g : s.is wFn = true) (hl : 200 ≤ acc.length) : PReads (.prog acc) d s (.error (3, s.tok.place)) :=
  .of_ev ((Ev.need (f := fun n s1 => if 200 ≤ acc.length then some (.error (3, s.tok.place)) else Out.go (prd n .func d s1) fun q s2 => prd n (.prog (acc ++ [hd1 q])) d s2) g (Ev.ite_pos hl Ev.const)).congr fun n => by rw [prd, if_neg (sees_nz g)])
theorem PReads.prog_err {acc : List Int} (g : s.is wFn = true) (hl : acc.length < 200) (h : PReads .func d s.next (.error e)) : PReads (.prog acc) d s (.error e) :=
  .of_ev ((Ev.need (f := fun n s1 => if 200 ≤ acc.length then some (.error (3, s.tok.place)) else Out.go (prd n .func d s1) fun q s2 => prd n (.prog (acc ++ [hd1 q])) d s2) g (Ev.ite_neg (by omega) (Ev.go_err h.ev))).congr fun n => by rw [prd, if_neg (sees_nz g)])
theorem PReads.prog_next {acc : List Int} (g : s.is wFn = true) (hl : acc.length < 200) (h : PReads .func d s.next (.ok ([a], s1))) (r : PReads (.prog (acc ++ [a])) d s1 v) : PReads (.prog acc) d s v :=
  .of_ev ((Ev.need (f := fun n s1 => if 200 ≤ acc.length then some (.error (3, s.tok.place)) else Out.go (prd n .func d s1) fun q s2 => prd n (.prog (acc ++ [hd1 q])) d s2) g (Ev.ite_neg (by omega) (Ev.go h.ev r.ev))).congr fun n => by rw [prd, if_neg (sees_nz g)])
end Go.Proofs.YtagacfcpepoaoaaGreatDoor
