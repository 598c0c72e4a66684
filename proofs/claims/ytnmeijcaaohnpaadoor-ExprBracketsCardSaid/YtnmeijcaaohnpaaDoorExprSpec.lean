/- Expressions from tokens, by the document's words, over lists. No program. -/
import Derived.Test.YtnmeijcaaohnpaaDoorLexSpec
import Derived.Test.YtnmeijcaaohnpaaDoorTreeSpec
namespace Go.Proofs.YtnmeijcaaohnpaaDoor
set_option linter.unusedVariables false

/-- a reader that found nothing wrong: the tokens that are left, the nodes that were laid, and how high each is -/
structure PS where
  r : List Tk
  l : List Nd
  h : List Nat
/-- the next token -/
def PS.tok (s : PS) : Tk := s.r.headD ⟨0, [], 0, 0⟩
/-- .. is this key word or sign -/
def sees (k : Tk) (t : List UInt8) : Bool := (k.kind == 3 || k.kind == 4) && k.text == t
def PS.is (s : PS) (t : List UInt8) : Bool := sees s.tok t
def PS.next (s : PS) : PS := { s with r := s.r.tail }
/-- a node as the document says it: it lies nowhere -/
def En (kind : Int) (kids : List Int) (n : Int) (s : ByteArray) (at_ : Int) : Nd := ⟨kind, none, 0, kids, n, s, at_⟩
abbrev Flt := Nat × Nat
abbrev Out := Except Flt (List Int × PS)
/-- how high a node is over those that were laid -/
def hstep (h : List Nat) (a : Nat) (k : Int) : Nat := if 0 ≤ k ∧ k < (h.length : Int) then max a (h.getD k.toNat 0 + 1) else a
def high (h : List Nat) (ks : List Int) : Nat := ks.foldl (hstep h) 1
/-- a node is laid -/
def lay (x : Nd) (s : PS) : Out :=
  if 200 < high s.h x.kids then .error (4, x.at_.toNat) else .ok ([(s.l.length : Int)], ⟨s.r, s.l ++ [x], s.h ++ [high s.h x.kids]⟩)
/-- what is to be read -/
inductive Md where
  | chain (lv : Nat)
  | loop (lv : Nat) (left : Int)
  | front
  | idx
  | more (p : Int)
  | single
  | inner (a b : List UInt8)
  | call (nm : ByteArray) (at_ : Nat)
  | args (acc : List Int)
/-- operators of a strength, from 0 on: the first and the last one -/
def opFirst (lv : Nat) : Nat := [1, 2, 3, 9, 13].getD lv 0
def opLast (lv : Nat) : Nat := [1, 2, 8, 12, 16].getD lv 0
/-- the operator, from a on, of which there are n more -/
def opFrom (k : Tk) (a : Nat) : Nat → Option Nat
  | 0 => none
  | n + 1 => if sees k (tSigns.getD a []) then some a else opFrom k (a + 1) n
def opAt (lv : Nat) (k : Tk) : Option Nat := opFrom k (opFirst lv) (opLast lv + 1 - opFirst lv)
/-- what goes on with what was read -/
def Out.go (o : Option Out) (f : List Int → PS → Option Out) : Option Out := match o with
  | none => none
  | some (.error e) => some (.error e)
  | some (.ok (p, s)) => f p s
def hd1 (l : List Int) : Int := l.headD 0
def rp : List UInt8 := [41]
def lp : List UInt8 := [40]
def rb : List UInt8 := [93]
def lb : List UInt8 := [91]
def comma : List UInt8 := [44]
def minus : List UInt8 := [45]
def bang : List UInt8 := [33]
def wTrue : List UInt8 := [116, 114, 117, 101]
def wFalse : List UInt8 := [102, 97, 108, 115, 101]
def wNil : List UInt8 := [110, 105, 108]
def wLen : List UInt8 := [108, 101, 110]
def wNew : List UInt8 := [110, 101, 119]
/-- the reader, with fuel; none: too little of it -/
def rd : Nat → Md → Nat → PS → Option Out
  | 0, _, _, _ => none
  | n + 1, .chain lv, d, s => if lv = 5 then rd n .front d s else Out.go (rd n (.chain (lv + 1)) d s) fun p s1 => rd n (.loop lv (hd1 p)) d s1
  | n + 1, .loop lv p, d, s => match opAt lv s.tok with
    | none => some (.ok ([p], s))
    | some op => Out.go (rd n (.chain (lv + 1)) d s.next) fun q s1 => Out.go (some (lay (En 5 [p, hd1 q] op ⟨#[]⟩ s.tok.place) s1)) fun k s2 => if lv = 2 then some (.ok (k, s2)) else rd n (.loop lv (hd1 k)) d s2
  | n + 1, .front, d, s =>
    if s.is minus || s.is bang then
      (if 200 ≤ d then some (.error (4, s.tok.place))
       else Out.go (rd n .front (d + 1) s.next) fun q s1 => some (lay (En (if s.is minus then 6 else 7) [hd1 q] 0 ⟨#[]⟩ s.tok.place) s1))
    else rd n .idx d s
  | n + 1, .idx, d, s => Out.go (rd n .single d s) fun p s1 => rd n (.more (hd1 p)) d s1
  | n + 1, .more p, d, s =>
    if s.is lb then Out.go (rd n (.inner lb rb) d s) fun q s1 => Out.go (some (lay (En 8 [p, hd1 q] 0 ⟨#[]⟩ s.tok.place) s1)) fun k s2 => rd n (.more (hd1 k)) d s2
    else some (.ok ([p], s))
  | n + 1, .inner a b, d, s =>
    if s.is a then
      (if 200 ≤ d then some (.error (4, s.tok.place))
       else Out.go (rd n (.chain 0) (d + 1) s.next) fun p s1 => if s1.is b then some (.ok (p, s1.next)) else some (.error (8, s1.tok.place)))
    else some (.error (8, s.tok.place))
  | n + 1, .call nm at_, d, s =>
    if s.is lp then
      (if 200 ≤ d then some (.error (4, s.tok.place))
       else Out.go (if s.next.is rp then some (.ok ([], s.next)) else rd n (.args []) (d + 1) s.next) fun l s1 => if s1.is rp then some (lay (En 11 l 0 nm at_) s1.next) else some (.error (8, s1.tok.place)))
    else some (.error (8, s.tok.place))
  | n + 1, .args acc, d, s =>
    if acc.length = 8 then some (.error (3, s.tok.place))
    else Out.go (rd n (.chain 0) d s) fun p s1 => if s1.is comma then rd n (.args (acc ++ [hd1 p])) d s1.next else some (.ok (acc ++ [hd1 p], s1))
  | n + 1, .single, d, s =>
    if s.is lp then rd n (.inner lp rp) d s
    else if s.is wTrue then some (lay (En 2 [] 1 ⟨#[]⟩ s.tok.place) s.next)
    else if s.is wFalse then some (lay (En 2 [] 0 ⟨#[]⟩ s.tok.place) s.next)
    else if s.is wNil then some (lay (En 3 [] 0 ⟨#[]⟩ s.tok.place) s.next)
    else if s.is wLen then Out.go (rd n (.inner lp rp) d s.next) fun q s1 => some (lay (En 9 [hd1 q] 0 ⟨#[]⟩ s.tok.place) s1)
    else if s.is wNew then Out.go (rd n (.inner lp rp) d s.next) fun q s1 => some (lay (En 10 [hd1 q] 0 ⟨#[]⟩ s.tok.place) s1)
    else if s.tok.kind = 2 then some (lay (En 1 [] s.tok.n ⟨#[]⟩ s.tok.place) s.next)
    else if s.tok.kind = 1 then
      (if s.next.is lp then rd n (.call ⟨s.tok.text.toArray⟩ s.tok.place) d s.next else some (lay (En 4 [] 0 ⟨s.tok.text.toArray⟩ s.tok.place) s.next))
    else some (.error (8, s.tok.place))
/-- more fuel changes nothing -/
theorem go_mono {o o' : Option Out} {f f' : List Int → PS → Option Out} {v : Out} (h : Out.go o f = some v) (ho : ∀ u, o = some u → o' = some u) (hf : ∀ p s u, f p s = some u → f' p s = some u) : Out.go o' f' = some v := by
  cases o with
  | none => cases h
  | some u =>
    rw [ho u rfl]
    cases u with
    | error e => exact h
    | ok x => exact hf _ _ _ h
theorem rd_mono : ∀ (n : Nat) (m : Md) (d : Nat) (s : PS) (v : Out), rd n m d s = some v → rd (n + 1) m d s = some v
  | 0, _, _, _, _, h => by cases h
  | n + 1, .chain lv, d, s, v, h => by
    have ih := rd_mono n
    rw [rd] at h ⊢
    split at h
    · rename_i g; rw [if_pos g]; exact ih _ _ _ _ h
    · rename_i g; rw [if_neg g]; exact go_mono h (fun u => ih _ _ _ u) (fun p s u => ih _ _ _ u)
  | n + 1, .loop lv p, d, s, v, h => by
    have ih := rd_mono n
    rw [rd] at h ⊢
    cases ho : opAt lv s.tok with
    | none => rw [ho] at h; exact h
    | some op =>
      rw [ho] at h
      refine go_mono h (fun u => ih _ _ _ u) (fun q s1 u hu => go_mono hu (fun _ e => e) (fun k s2 u2 h2 => ?_))
      split at h2
      · rename_i g; rw [if_pos g]; exact h2
      · rename_i g; rw [if_neg g]; exact ih _ _ _ _ h2
  | n + 1, .front, d, s, v, h => by
    have ih := rd_mono n
    rw [rd] at h ⊢
    split at h
    · rename_i g; rw [if_pos g]
      split at h
      · rename_i g2; rw [if_pos g2]; exact h
      · rename_i g2; rw [if_neg g2]; exact go_mono h (fun u => ih _ _ _ u) (fun _ _ _ e => e)
    · rename_i g; rw [if_neg g]; exact ih _ _ _ _ h
  | n + 1, .idx, d, s, v, h => by
    have ih := rd_mono n
    rw [rd] at h ⊢
    exact go_mono h (fun u => ih _ _ _ u) (fun p s u => ih _ _ _ u)
  | n + 1, .more p, d, s, v, h => by
    have ih := rd_mono n
    rw [rd] at h ⊢
    split at h
    · rename_i g; rw [if_pos g]
      exact go_mono h (fun u => ih _ _ _ u) (fun q s1 u hu => go_mono hu (fun _ e => e) (fun k s2 u2 h2 => ih _ _ _ _ h2))
    · rename_i g; rw [if_neg g]; exact h
  | n + 1, .inner a b, d, s, v, h => by
    have ih := rd_mono n
    rw [rd] at h ⊢
    split at h
    · rename_i g; rw [if_pos g]
      split at h
      · rename_i g2; rw [if_pos g2]; exact h
      · rename_i g2; rw [if_neg g2]; exact go_mono h (fun u => ih _ _ _ u) (fun _ _ _ e => e)
    · rename_i g; rw [if_neg g]; exact h
  | n + 1, .call nm a, d, s, v, h => by
    have ih := rd_mono n
    rw [rd] at h ⊢
    split at h
    · rename_i g; rw [if_pos g]
      split at h
      · rename_i g2; rw [if_pos g2]; exact h
      · rename_i g2; rw [if_neg g2]
        refine go_mono h (fun u hu => ?_) (fun _ _ _ e => e)
        split at hu
        · rename_i g3; rw [if_pos g3]; exact hu
        · rename_i g3; rw [if_neg g3]; exact ih _ _ _ _ hu
    · rename_i g; rw [if_neg g]; exact h
  | n + 1, .args acc, d, s, v, h => by
    have ih := rd_mono n
    rw [rd] at h ⊢
    split at h
    · rename_i g; rw [if_pos g]; exact h
    · rename_i g; rw [if_neg g]
      refine go_mono h (fun u => ih _ _ _ u) (fun p s1 u hu => ?_)
      split at hu
      · rename_i g3; rw [if_pos g3]; exact ih _ _ _ _ hu
      · rename_i g3; rw [if_neg g3]; exact hu
  | n + 1, .single, d, s, v, h => by
    have ih := rd_mono n
    rw [rd] at h ⊢
    split at h
    · rename_i g; rw [if_pos g]; exact ih _ _ _ _ h
    rename_i g0; rw [if_neg g0]
    split at h
    · rename_i g; rw [if_pos g]; exact h
    rename_i g1; rw [if_neg g1]
    split at h
    · rename_i g; rw [if_pos g]; exact h
    rename_i g2; rw [if_neg g2]
    split at h
    · rename_i g; rw [if_pos g]; exact h
    rename_i g3; rw [if_neg g3]
    split at h
    · rename_i g; rw [if_pos g]; exact go_mono h (fun u => ih _ _ _ u) (fun _ _ _ e => e)
    rename_i g4; rw [if_neg g4]
    split at h
    · rename_i g; rw [if_pos g]; exact go_mono h (fun u => ih _ _ _ u) (fun _ _ _ e => e)
    rename_i g5; rw [if_neg g5]
    split at h
    · rename_i g; rw [if_pos g]; exact h
    rename_i g6; rw [if_neg g6]
    split at h
    · rename_i g; rw [if_pos g]
      split at h
      · rename_i g8; rw [if_pos g8]; exact ih _ _ _ _ h
      · rename_i g8; rw [if_neg g8]; exact h
    · rename_i g; rw [if_neg g]; exact h
theorem rd_more {n m : Nat} {k : Md} {d : Nat} {s : PS} {v : Out} (h : rd n k d s = some v) (hm : n ≤ m) : rd m k d s = some v := by
  induction hm with
  | refl => exact h
  | step _ ih => exact rd_mono _ _ _ _ _ ih
/-- what is read -/
def Reads (k : Md) (d : Nat) (s : PS) (v : Out) : Prop := ∃ n, rd n k d s = some v
theorem Reads.one {k : Md} {d : Nat} {s : PS} {v u : Out} (h : Reads k d s v) (g : Reads k d s u) : v = u := by
  obtain ⟨n, hn⟩ := h
  obtain ⟨m, hm⟩ := g
  have h1 := rd_more hn (Nat.le_max_left n m)
  have h2 := rd_more hm (Nat.le_max_right n m)
  rw [h1] at h2
  exact Option.some.inj h2
end Go.Proofs.YtnmeijcaaohnpaaDoor
