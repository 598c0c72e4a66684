/- Syntax trees by the document's words, over lists of nodes. No program. -/
import Derived.Test.YtnmeijcaaohnpaaDoorGenText
import Derived.Lib.Join
import Derived.Lib.ItoaLen
import Derived.Lib.Small
namespace Go.Proofs.YtnmeijcaaohnpaaDoor
set_option linter.unusedVariables false

/-- a node as it is read; ka, kc: where its list of kids lies, and its room -/
structure Nd where
  kind : Int
  ka : Option Addr
  kc : Nat
  kids : List Int
  n : Int
  s : ByteArray
  at_ : Int
def Nd.zero : Nd := ⟨0, none, 0, [], 0, ⟨#[]⟩, 0⟩
/-- the node at a place -/
def nd (l : List Nd) (i : Nat) : Nd := l.getD i Nd.zero
/-- its name's bytes -/
def Nd.t (x : Nd) : List UInt8 := x.s.data.toList
/-- all kids are ahead -/
def Ahead (l : List Nd) : Prop := ∀ i, i < l.length → ∀ k ∈ (nd l i).kids, 0 ≤ k ∧ k < (i : Int)
/-- what is told of a node by what is told of its kids -/
def fold {α : Type} (f : Nd → List α → α) (l : List Nd) : Nat → Nat → α
  | 0, i => f (nd l i) []
  | g + 1, i => f (nd l i) ((nd l i).kids.map (fun k => fold f l g k.toNat))
def val {α : Type} (f : Nd → List α → α) (l : List Nd) (i : Nat) : α := fold f l i i
theorem fold_stable {α : Type} {f : Nd → List α → α} {l : List Nd} (hA : Ahead l) : ∀ n i, i < n → i < l.length → ∀ g, i ≤ g → fold f l g i = val f l i := by
  intro n
  induction n with
  | zero => intro i h; omega
  | succ n ih =>
    intro i hn hi g hg
    have hk := hA i hi
    cases i with
    | zero =>
      have h0 : (nd l 0).kids = [] := by
        cases h : (nd l 0).kids with
        | nil => rfl
        | cons a r => have := hk a (by rw [h]; simp); omega
      cases g with
      | zero => rfl
      | succ g => unfold val; simp only [fold, h0, List.map_nil]
    | succ i =>
      cases g with
      | zero => omega
      | succ g =>
        unfold val
        simp only [fold]
        congr 1
        apply List.map_congr_left
        intro k hk'
        have := hk k hk'
        have hl : k.toNat < l.length := by omega
        rw [ih k.toNat (by omega) hl g (by omega), ih k.toNat (by omega) hl i (by omega)]
theorem val_eq {α : Type} {f : Nd → List α → α} {l : List Nd} (hA : Ahead l) {i : Nat} (hi : i < l.length) : val f l i = f (nd l i) ((nd l i).kids.map (fun k => val f l k.toNat)) := by
  rw [← fold_stable hA (i + 1) i (by omega) hi (i + 1) (by omega)]
  simp only [fold]
  congr 1
  apply List.map_congr_left
  intro k hk
  have := hA i hi k hk
  exact fold_stable hA (k.toNat + 1) k.toNat (by omega) (by omega) i (by omega)
/-- how high -/
def hgf (_ : Nd) (hs : List Nat) : Nat := hs.foldl (fun h x => max h (1 + x)) 1
def hgt (l : List Nd) (i : Nat) : Nat := val hgf l i
/-- how many nodes -/
def szf (_ : Nd) (zs : List Nat) : Nat := 1 + zs.sum
def sz (l : List Nd) (i : Nat) : Nat := val szf l i

/-- bytes -/
def tLt (n : Nat) : Bool := (decide (97 ≤ n) && decide (n ≤ 122)) || (decide (65 ≤ n) && decide (n ≤ 90)) || n == 95
def tDg (n : Nat) : Bool := decide (48 ≤ n) && decide (n ≤ 57)
def tKeys : List (List UInt8) := [[102, 110], [118, 97, 114], [105, 102], [101, 108, 115, 101], [119, 104, 105, 108, 101], [102, 111, 114], [98, 114, 101, 97, 107], [99, 111, 110, 116, 105, 110, 117, 101], [114, 101, 116, 117, 114, 110], [112, 114, 105, 110, 116], [108, 101, 110], [110, 101, 119], [116, 114, 117, 101], [102, 97, 108, 115, 101], [110, 105, 108], [105, 110, 116], [98, 111, 111, 108], [97, 114, 114]]
def tKey (t : List UInt8) : Bool := tKeys.any (fun k => t == k)
/-- a name -/
def nameB (t : List UInt8) : Bool := decide (0 < t.length) && decide (t.length ≤ 32) && !tDg (bt t 0) && t.all (fun c => tLt c.toNat || tDg c.toNat) && !tKey t
/-- the words -/
def tWords : List (List UInt8) := [[], [], [], [110, 105, 108], [], [], [110, 101, 103], [110, 111, 116], [97, 116], [108, 101, 110], [110, 101, 119], [99, 97, 108, 108], [118, 97, 114], [115, 101, 116], [112, 117, 116], [105, 102], [119, 104, 105, 108, 101], [102, 111, 114], [98, 114, 101, 97, 107], [99, 111, 110, 116, 105, 110, 117, 101], [114, 101, 116, 117, 114, 110], [112, 114, 105, 110, 116], [100, 111], [98, 108, 111, 99, 107], [], [102, 110], [112, 114, 111, 103]]
def tSigns : List (List UInt8) := [[], [124, 124], [38, 38], [61, 61], [33, 61], [60], [60, 61], [62], [62, 61], [43], [45], [43, 37], [45, 37], [42], [47], [37], [42, 37]]
def tKinds : List (List UInt8) := [[], [105, 110, 116], [98, 111, 111, 108], [97, 114, 114]]
def sgnOf (op : Int) : List UInt8 := if 0 ≤ op ∧ op ≤ 16 then tSigns.getD op.toNat [] else []
def kindW (k : Int) : List UInt8 := if 0 ≤ k ∧ k ≤ 3 then tKinds.getD k.toNat [] else []
def opOf (t : List UInt8) : Nat := if t = [] then 0 else if t ∈ tSigns then tSigns.idxOf t else 0
/-- what kinds have -/
def isEx (k : Int) : Bool := decide (1 ≤ k) && decide (k ≤ 11)
def isSt (k : Int) : Bool := decide (12 ≤ k) && decide (k ≤ 22)
def named (k : Int) : Bool := decide (k ∈ [(4 : Int), 11, 12, 13, 14, 17, 24, 25])
def numB (k n : Int) : Bool :=
  if k = 1 then decide (0 ≤ n) else if k = 2 then decide (n = 0) || decide (n = 1) else if k = 5 then decide (1 ≤ n) && decide (n ≤ 16)
  else if k = 24 ∨ k = 25 then decide (1 ≤ n) && decide (n ≤ 3) else decide (n = 0)
def exprs (ks : List Int) (n : Nat) : Bool := decide (n ≤ ks.length) && (ks.take n).all isEx
def alls (ks : List Int) (k : Int) (m : Nat) : Bool := ks.all (fun x => x == k) && decide (ks.length ≤ m)
def kidsB (k : Int) (ks : List Int) : Bool :=
  if k = 5 ∨ k = 8 ∨ k = 14 then decide (ks.length = 2) && exprs ks 2
  else if k = 6 ∨ k = 7 ∨ k = 9 ∨ k = 10 ∨ k = 12 ∨ k = 13 ∨ k = 20 ∨ k = 21 then decide (ks.length = 1) && exprs ks 1
  else if k = 11 then decide (ks.length ≤ 8) && exprs ks ks.length
  else if k = 15 then exprs ks 1 && decide (2 ≤ ks.length) && alls (ks.drop 1) 23 2
  else if k = 16 then exprs ks 1 && decide (ks.length = 2) && alls (ks.drop 1) 23 1
  else if k = 17 then exprs ks 2 && decide (ks.length = 3) && alls (ks.drop 2) 23 1
  else if k = 22 then decide (ks.length = 1) && decide (ks.getD 0 0 = 11)
  else if k = 23 then ks.all isSt
  else if k = 25 then decide (1 ≤ ks.length) && alls (ks.take (ks.length - 1)) 24 8 && decide (ks.getD (ks.length - 1) 0 = 23)
  else if k = 26 then alls ks 25 200
  else decide (ks.length = 0)
def ownB (x : Nd) : Bool :=
  decide (1 ≤ x.kind) && decide (x.kind ≤ 26) && decide (0 ≤ x.at_) && (if named x.kind then nameB x.t else decide (x.t = [])) && numB x.kind x.n
/-- the kinds of a node's kids -/
def kk (l : List Nd) (x : Nd) : List Int := x.kids.map (fun k => (nd l k.toNat).kind)
def fitB (l : List Nd) (x : Nd) : Bool := ownB x && kidsB x.kind (kk l x)
/-- all kids of the first i nodes -/
def allK (l : List Nd) (i : Nat) : List Int := (l.take i).flatMap (fun x => x.kids)
/-- a tree, as far as kids go -/
def IsT (l : List Nd) : Prop := 0 < l.length ∧ Ahead l ∧ (allK l l.length).Nodup ∧ (allK l l.length).length = l.length - 1
def Fits (l : List Nd) : Prop := ∀ i, i < l.length → fitB l (nd l i) = true
/-- Right -/
def Rt (l : List Nd) : Prop := IsT l ∧ Fits l ∧ hgt l (l.length - 1) ≤ 200
/-- the text -/
def wordOf (x : Nd) : List UInt8 := if x.kind = 1 then Lib.itoa x.n else if x.kind = 2 then Lib.formatBool (x.n == 1) else if x.kind = 5 then sgnOf x.n else tWords.getD x.kind.toNat []
def kwOf (x : Nd) : List UInt8 := if x.kind = 24 ∨ x.kind = 25 then kindW x.n else []
def hd (x : Nd) : List UInt8 := Lib.join ([wordOf x, x.t, kwOf x].filter (fun t => !t.isEmpty)) [32]
def txf (x : Nd) (ts : List (List UInt8)) : List UInt8 := if x.kind ≤ 4 then hd x else [40] ++ hd x ++ ts.flatMap (fun t => 32 :: t) ++ [41]
def tx (l : List Nd) (i : Nat) : List UInt8 := val txf l i
theorem hgt_eq {l : List Nd} (hA : Ahead l) {i : Nat} (hi : i < l.length) : hgt l i = ((nd l i).kids.map (fun k => hgt l k.toNat)).foldl (fun h x => max h (1 + x)) 1 := val_eq hA hi
theorem sz_eq {l : List Nd} (hA : Ahead l) {i : Nat} (hi : i < l.length) : sz l i = 1 + ((nd l i).kids.map (fun k => sz l k.toNat)).sum := val_eq hA hi
theorem tx_eq {l : List Nd} (hA : Ahead l) {i : Nat} (hi : i < l.length) : tx l i = txf (nd l i) ((nd l i).kids.map (fun k => tx l k.toNat)) := val_eq hA hi
end Go.Proofs.YtnmeijcaaohnpaaDoor
