import Derived.Test.YtdncpkkhkbijfaaGreatDoorAg2
import Derived.Lib.LaidTab
import Derived.Lib.Tables
import Derived.Lib.QuietBelow
open Go.Proofs.Tryz
set_option linter.all false
set_option maxHeartbeats 0
set_option maxRecDepth 100000
namespace Go.Proofs.YtdncpkkhkbijfaaGreatDoor
section
open Go.RowKit
mutual
def flat {H:Type}:DataW H->List Value
 | .lit (.int k z)=>[.int k z]
 | .lit (.bool b)=>[.bool b]
 | .lit (.string l)=>[.string ⟨l.toArray⟩]
 | .agg ds=>Qcl ds
 |_=>[]
def Qcl {H:Type}:List (DataW H)->List Value
 | []=>[]
 |d::r=>flat d++Qcl r
end
def Qgv:Array Value:=(flat (H:=Unit) Rows.laid_balustrade_tree_rows).toArray
def Qpi:Array Value:=(flat (H:=Unit) Rows.laid_balustrade_tree_limits).toArray
def Qdt:Array Value:=(flat (H:=Unit) Rows.laid_balustrade_tree_makings).toArray
def Qw6:Array Value:=(flat (H:=Unit) Rows.laid_balustrade_tree_signs).toArray
def Q8h:Array Value:=(flat (H:=Unit) Rows.laid_balustrade_tree_kindWords).toArray
def Q2h:Array Value:=(flat (H:=Unit) Rows.laid_balustrade_tree_keyWords).toArray
def txt (b:List UInt8):Value:=.string ⟨b.toArray⟩
def isL:List Nat:=[0,1,1,1,1,1,1,1,1,1,1,9,2,2,2,2,2,2,2,2,2,2,2,4,16,32,0]
def Wp3:List Nat:=[0,1,2,0,0,3,0,0,0,0,0,0,0,0,0,0,0,0,0,0,0,0,0,0,4,4,0]
def mkL:List Nat:=[0,0,0,0,0,2,1,1,2,1,1,3,1,1,2,4,5,6,0,0,1,1,7,8,0,9,10]
def Q8v:List Bool:=[false,false,false,false,true,false,false,false,false,false,false,true,true,true,true,false,false,true,false,false,false,false,false,false,true,true,false]
def Qc4 (k:Nat):Nat:=isL.getD k 0
def numOf (k:Nat):Nat:=Wp3.getD k 0
def Qft (k:Nat):Nat:=mkL.getD k 0
def Qej (k:Nat):Bool:=Q8v.getD k false
def wrd (k:Nat):List UInt8:=Quo.getD k []
def Wnc:List (Int×Int):=[(0,0),(0,9223372036854775807),(0,1),(1,16),(1,3)]
def lim (j:Nat):Int×Int:=Wnc.getD j (0,0)
structure Pt where
 is:Nat
 lo:Int
 hi:Int
def mkP:List (Pt×Pt):=[(⟨0,0,0⟩,⟨0,0,0⟩),(⟨1,1,1⟩,⟨0,0,0⟩),(⟨1,2,2⟩,⟨0,0,0⟩),(⟨1,0,8⟩,⟨0,0,0⟩),(⟨1,1,1⟩,⟨4,1,2⟩),(⟨1,1,1⟩,⟨4,1,1⟩),(⟨1,2,2⟩,⟨4,1,1⟩),(⟨8,1,1⟩,⟨0,0,0⟩),(⟨2,0,9223372036854775807⟩,⟨0,0,0⟩),(⟨16,0,8⟩,⟨4,1,1⟩),(⟨32,0,200⟩,⟨0,0,0⟩)]
def Jw (j:Nat):Pt×Pt:=mkP.getD j (⟨0,0,0⟩,⟨0,0,0⟩)
theorem Q7p: ∀k,k<27->Qgv[k*5]? =some (txt (wrd k))
 | 0,_=>by kernel_rfl
 | 1,_=>by kernel_rfl
 | 2,_=>by kernel_rfl
 | 3,_=>by kernel_rfl
 | 4,_=>by kernel_rfl
 | 5,_=>by kernel_rfl
 | 6,_=>by kernel_rfl
 | 7,_=>by kernel_rfl
 | 8,_=>by kernel_rfl
 | 9,_=>by kernel_rfl
 | 10,_=>by kernel_rfl
 | 11,_=>by kernel_rfl
 | 12,_=>by kernel_rfl
 | 13,_=>by kernel_rfl
 | 14,_=>by kernel_rfl
 | 15,_=>by kernel_rfl
 | 16,_=>by kernel_rfl
 | 17,_=>by kernel_rfl
 | 18,_=>by kernel_rfl
 | 19,_=>by kernel_rfl
 | 20,_=>by kernel_rfl
 | 21,_=>by kernel_rfl
 | 22,_=>by kernel_rfl
 | 23,_=>by kernel_rfl
 | 24,_=>by kernel_rfl
 | 25,_=>by kernel_rfl
 | 26,_=>by kernel_rfl
 |n+27,h=>by omega
theorem Wm2: ∀k,k<27->Qgv[k*5+1]? =some (.bool (Qej k))
 | 0,_=>by kernel_rfl
 | 1,_=>by kernel_rfl
 | 2,_=>by kernel_rfl
 | 3,_=>by kernel_rfl
 | 4,_=>by kernel_rfl
 | 5,_=>by kernel_rfl
 | 6,_=>by kernel_rfl
 | 7,_=>by kernel_rfl
 | 8,_=>by kernel_rfl
 | 9,_=>by kernel_rfl
 | 10,_=>by kernel_rfl
 | 11,_=>by kernel_rfl
 | 12,_=>by kernel_rfl
 | 13,_=>by kernel_rfl
 | 14,_=>by kernel_rfl
 | 15,_=>by kernel_rfl
 | 16,_=>by kernel_rfl
 | 17,_=>by kernel_rfl
 | 18,_=>by kernel_rfl
 | 19,_=>by kernel_rfl
 | 20,_=>by kernel_rfl
 | 21,_=>by kernel_rfl
 | 22,_=>by kernel_rfl
 | 23,_=>by kernel_rfl
 | 24,_=>by kernel_rfl
 | 25,_=>by kernel_rfl
 | 26,_=>by kernel_rfl
 |n+27,h=>by omega
theorem Qxx: ∀k,k<27->Qgv[k*5+2]? =some (.int .u8 (Qc4 k:Int))
 | 0,_=>by kernel_rfl
 | 1,_=>by kernel_rfl
 | 2,_=>by kernel_rfl
 | 3,_=>by kernel_rfl
 | 4,_=>by kernel_rfl
 | 5,_=>by kernel_rfl
 | 6,_=>by kernel_rfl
 | 7,_=>by kernel_rfl
 | 8,_=>by kernel_rfl
 | 9,_=>by kernel_rfl
 | 10,_=>by kernel_rfl
 | 11,_=>by kernel_rfl
 | 12,_=>by kernel_rfl
 | 13,_=>by kernel_rfl
 | 14,_=>by kernel_rfl
 | 15,_=>by kernel_rfl
 | 16,_=>by kernel_rfl
 | 17,_=>by kernel_rfl
 | 18,_=>by kernel_rfl
 | 19,_=>by kernel_rfl
 | 20,_=>by kernel_rfl
 | 21,_=>by kernel_rfl
 | 22,_=>by kernel_rfl
 | 23,_=>by kernel_rfl
 | 24,_=>by kernel_rfl
 | 25,_=>by kernel_rfl
 | 26,_=>by kernel_rfl
 |n+27,h=>by omega
theorem Q6i: ∀k,k<27->Qgv[k*5+3]? =some (.int .u8 (numOf k:Int))
 | 0,_=>by kernel_rfl
 | 1,_=>by kernel_rfl
 | 2,_=>by kernel_rfl
 | 3,_=>by kernel_rfl
 | 4,_=>by kernel_rfl
 | 5,_=>by kernel_rfl
 | 6,_=>by kernel_rfl
 | 7,_=>by kernel_rfl
 | 8,_=>by kernel_rfl
 | 9,_=>by kernel_rfl
 | 10,_=>by kernel_rfl
 | 11,_=>by kernel_rfl
 | 12,_=>by kernel_rfl
 | 13,_=>by kernel_rfl
 | 14,_=>by kernel_rfl
 | 15,_=>by kernel_rfl
 | 16,_=>by kernel_rfl
 | 17,_=>by kernel_rfl
 | 18,_=>by kernel_rfl
 | 19,_=>by kernel_rfl
 | 20,_=>by kernel_rfl
 | 21,_=>by kernel_rfl
 | 22,_=>by kernel_rfl
 | 23,_=>by kernel_rfl
 | 24,_=>by kernel_rfl
 | 25,_=>by kernel_rfl
 | 26,_=>by kernel_rfl
 |n+27,h=>by omega
theorem Wne: ∀k,k<27->Qgv[k*5+4]? =some (.int .u8 (Qft k:Int))
 | 0,_=>by kernel_rfl
 | 1,_=>by kernel_rfl
 | 2,_=>by kernel_rfl
 | 3,_=>by kernel_rfl
 | 4,_=>by kernel_rfl
 | 5,_=>by kernel_rfl
 | 6,_=>by kernel_rfl
 | 7,_=>by kernel_rfl
 | 8,_=>by kernel_rfl
 | 9,_=>by kernel_rfl
 | 10,_=>by kernel_rfl
 | 11,_=>by kernel_rfl
 | 12,_=>by kernel_rfl
 | 13,_=>by kernel_rfl
 | 14,_=>by kernel_rfl
 | 15,_=>by kernel_rfl
 | 16,_=>by kernel_rfl
 | 17,_=>by kernel_rfl
 | 18,_=>by kernel_rfl
 | 19,_=>by kernel_rfl
 | 20,_=>by kernel_rfl
 | 21,_=>by kernel_rfl
 | 22,_=>by kernel_rfl
 | 23,_=>by kernel_rfl
 | 24,_=>by kernel_rfl
 | 25,_=>by kernel_rfl
 | 26,_=>by kernel_rfl
 |n+27,h=>by omega
theorem Q74: ∀k,k<5->Qpi[k*2]? =some (.int .i64 (lim k).1)
 | 0,_=>by kernel_rfl
 | 1,_=>by kernel_rfl
 | 2,_=>by kernel_rfl
 | 3,_=>by kernel_rfl
 | 4,_=>by kernel_rfl
 |n+5,h=>by omega
theorem Qxj: ∀k,k<5->Qpi[k*2+1]? =some (.int .i64 (lim k).2)
 | 0,_=>by kernel_rfl
 | 1,_=>by kernel_rfl
 | 2,_=>by kernel_rfl
 | 3,_=>by kernel_rfl
 | 4,_=>by kernel_rfl
 |n+5,h=>by omega
theorem Q5p: ∀k,k<11->Qdt[k*6]? =some (.int .u8 ((Jw k).1.is:Int))
 | 0,_=>by kernel_rfl
 | 1,_=>by kernel_rfl
 | 2,_=>by kernel_rfl
 | 3,_=>by kernel_rfl
 | 4,_=>by kernel_rfl
 | 5,_=>by kernel_rfl
 | 6,_=>by kernel_rfl
 | 7,_=>by kernel_rfl
 | 8,_=>by kernel_rfl
 | 9,_=>by kernel_rfl
 | 10,_=>by kernel_rfl
 |n+11,h=>by omega
theorem Q3l: ∀k,k<11->Qdt[k*6+1]? =some (.int .i64 (Jw k).1.lo)
 | 0,_=>by kernel_rfl
 | 1,_=>by kernel_rfl
 | 2,_=>by kernel_rfl
 | 3,_=>by kernel_rfl
 | 4,_=>by kernel_rfl
 | 5,_=>by kernel_rfl
 | 6,_=>by kernel_rfl
 | 7,_=>by kernel_rfl
 | 8,_=>by kernel_rfl
 | 9,_=>by kernel_rfl
 | 10,_=>by kernel_rfl
 |n+11,h=>by omega
theorem Q3q: ∀k,k<11->Qdt[k*6+2]? =some (.int .i64 (Jw k).1.hi)
 | 0,_=>by kernel_rfl
 | 1,_=>by kernel_rfl
 | 2,_=>by kernel_rfl
 | 3,_=>by kernel_rfl
 | 4,_=>by kernel_rfl
 | 5,_=>by kernel_rfl
 | 6,_=>by kernel_rfl
 | 7,_=>by kernel_rfl
 | 8,_=>by kernel_rfl
 | 9,_=>by kernel_rfl
 | 10,_=>by kernel_rfl
 |n+11,h=>by omega
theorem Q4o: ∀k,k<11->Qdt[k*6+3]? =some (.int .u8 ((Jw k).2.is:Int))
 | 0,_=>by kernel_rfl
 | 1,_=>by kernel_rfl
 | 2,_=>by kernel_rfl
 | 3,_=>by kernel_rfl
 | 4,_=>by kernel_rfl
 | 5,_=>by kernel_rfl
 | 6,_=>by kernel_rfl
 | 7,_=>by kernel_rfl
 | 8,_=>by kernel_rfl
 | 9,_=>by kernel_rfl
 | 10,_=>by kernel_rfl
 |n+11,h=>by omega
theorem Q2j: ∀k,k<11->Qdt[k*6+4]? =some (.int .i64 (Jw k).2.lo)
 | 0,_=>by kernel_rfl
 | 1,_=>by kernel_rfl
 | 2,_=>by kernel_rfl
 | 3,_=>by kernel_rfl
 | 4,_=>by kernel_rfl
 | 5,_=>by kernel_rfl
 | 6,_=>by kernel_rfl
 | 7,_=>by kernel_rfl
 | 8,_=>by kernel_rfl
 | 9,_=>by kernel_rfl
 | 10,_=>by kernel_rfl
 |n+11,h=>by omega
theorem Qws: ∀k,k<11->Qdt[k*6+5]? =some (.int .i64 (Jw k).2.hi)
 | 0,_=>by kernel_rfl
 | 1,_=>by kernel_rfl
 | 2,_=>by kernel_rfl
 | 3,_=>by kernel_rfl
 | 4,_=>by kernel_rfl
 | 5,_=>by kernel_rfl
 | 6,_=>by kernel_rfl
 | 7,_=>by kernel_rfl
 | 8,_=>by kernel_rfl
 | 9,_=>by kernel_rfl
 | 10,_=>by kernel_rfl
 |n+11,h=>by omega
theorem Wa6: ∀k,k<17->Qw6[k]? =some (txt (Xu.getD k []))
 | 0,_=>by kernel_rfl
 | 1,_=>by kernel_rfl
 | 2,_=>by kernel_rfl
 | 3,_=>by kernel_rfl
 | 4,_=>by kernel_rfl
 | 5,_=>by kernel_rfl
 | 6,_=>by kernel_rfl
 | 7,_=>by kernel_rfl
 | 8,_=>by kernel_rfl
 | 9,_=>by kernel_rfl
 | 10,_=>by kernel_rfl
 | 11,_=>by kernel_rfl
 | 12,_=>by kernel_rfl
 | 13,_=>by kernel_rfl
 | 14,_=>by kernel_rfl
 | 15,_=>by kernel_rfl
 | 16,_=>by kernel_rfl
 |n+17,h=>by omega
theorem Wly: ∀k,k<4->Q8h[k]? =some (txt (Qhb.getD k []))
 | 0,_=>by kernel_rfl
 | 1,_=>by kernel_rfl
 | 2,_=>by kernel_rfl
 | 3,_=>by kernel_rfl
 |n+4,h=>by omega
theorem Wgj: ∀k,k<27->Qc4 k<256
 | 0,_=>by decide
 | 1,_=>by decide
 | 2,_=>by decide
 | 3,_=>by decide
 | 4,_=>by decide
 | 5,_=>by decide
 | 6,_=>by decide
 | 7,_=>by decide
 | 8,_=>by decide
 | 9,_=>by decide
 | 10,_=>by decide
 | 11,_=>by decide
 | 12,_=>by decide
 | 13,_=>by decide
 | 14,_=>by decide
 | 15,_=>by decide
 | 16,_=>by decide
 | 17,_=>by decide
 | 18,_=>by decide
 | 19,_=>by decide
 | 20,_=>by decide
 | 21,_=>by decide
 | 22,_=>by decide
 | 23,_=>by decide
 | 24,_=>by decide
 | 25,_=>by decide
 | 26,_=>by decide
 |n+27,h=>by omega
theorem Wp2: ∀k,k<27->numOf k<5
 | 0,_=>by decide
 | 1,_=>by decide
 | 2,_=>by decide
 | 3,_=>by decide
 | 4,_=>by decide
 | 5,_=>by decide
 | 6,_=>by decide
 | 7,_=>by decide
 | 8,_=>by decide
 | 9,_=>by decide
 | 10,_=>by decide
 | 11,_=>by decide
 | 12,_=>by decide
 | 13,_=>by decide
 | 14,_=>by decide
 | 15,_=>by decide
 | 16,_=>by decide
 | 17,_=>by decide
 | 18,_=>by decide
 | 19,_=>by decide
 | 20,_=>by decide
 | 21,_=>by decide
 | 22,_=>by decide
 | 23,_=>by decide
 | 24,_=>by decide
 | 25,_=>by decide
 | 26,_=>by decide
 |n+27,h=>by omega
theorem Q51: ∀k,k<27->Qft k<11
 | 0,_=>by decide
 | 1,_=>by decide
 | 2,_=>by decide
 | 3,_=>by decide
 | 4,_=>by decide
 | 5,_=>by decide
 | 6,_=>by decide
 | 7,_=>by decide
 | 8,_=>by decide
 | 9,_=>by decide
 | 10,_=>by decide
 | 11,_=>by decide
 | 12,_=>by decide
 | 13,_=>by decide
 | 14,_=>by decide
 | 15,_=>by decide
 | 16,_=>by decide
 | 17,_=>by decide
 | 18,_=>by decide
 | 19,_=>by decide
 | 20,_=>by decide
 | 21,_=>by decide
 | 22,_=>by decide
 | 23,_=>by decide
 | 24,_=>by decide
 | 25,_=>by decide
 | 26,_=>by decide
 |n+27,h=>by omega
theorem Wjw: ∀(k:Nat),k<27->named (k:Int)=Qej k
 | 0,_=>by decide
 | 1,_=>by decide
 | 2,_=>by decide
 | 3,_=>by decide
 | 4,_=>by decide
 | 5,_=>by decide
 | 6,_=>by decide
 | 7,_=>by decide
 | 8,_=>by decide
 | 9,_=>by decide
 | 10,_=>by decide
 | 11,_=>by decide
 | 12,_=>by decide
 | 13,_=>by decide
 | 14,_=>by decide
 | 15,_=>by decide
 | 16,_=>by decide
 | 17,_=>by decide
 | 18,_=>by decide
 | 19,_=>by decide
 | 20,_=>by decide
 | 21,_=>by decide
 | 22,_=>by decide
 | 23,_=>by decide
 | 24,_=>by decide
 | 25,_=>by decide
 | 26,_=>by decide
 |n+27,h=>by omega
structure Dp (w:World):Prop where
 rows: ∃t fr,w.heap[6]? =some (.cells Qgv t fr)
 limits: ∃t fr,w.heap[7]? =some (.cells Qpi t fr)
 makings: ∃t fr,w.heap[8]? =some (.cells Qdt t fr)
 signs: ∃t fr,w.heap[3]? =some (.cells Qw6 t fr)
 kinds: ∃t fr,w.heap[2]? =some (.cells Q8h t fr)
 keys: ∃t fr,w.heap[11]? =some (.cells Q2h t fr)
 pow: ∃t fr,w.heap[14]? =some (.cells (Lib.pow10Tab.map λz=>Value.int .u64 z).toArray t fr)
theorem Y0 {w w':World} {g:Nat} {cs:Array Value} (h: ∃t fr,w.heap[g]? =some (.cells cs t fr)) (hb:Below w.heap.size w w'): ∃t fr,w'.heap[g]? =some (.cells cs t fr):=by obtain ⟨t,fr,h⟩:=h;obtain ⟨hlt,_⟩:=Array.getElem?_eq_some_iff.1 h;exact ⟨t,fr,by rw [hb.block _ hlt];exact h⟩
theorem Dp.below {w w':World} (h:Dp w) (hb:Below w.heap.size w w'):Dp w':=
 ⟨Y0 h.rows hb,Y0 h.limits hb,Y0 h.makings hb,Y0 h.signs hb,Y0 h.kinds hb,Y0 h.keys hb,Y0 h.pow hb⟩
theorem Dp.tab {w:World} (h:Dp w):Lib.TabIs prog w "internal/strconv.uint64pow10" .u64 Lib.pow10Tab:=by
 obtain ⟨t,fr,h⟩:=h.pow
 have hg:prog.globalNamed "internal/strconv.uint64pow10" =some 14:=by kernel_rfl
 unfold Lib.TabIs World.var?;rw [hg];simp only [Option.bind_some,h]
theorem Zc {w:World} {g j:Nat} {cs:Array Value} {v:Value} (h: ∃t fr,w.heap[g]? =some (.cells cs t fr)) (hv:cs[j]? =some v):w.cell? ⟨g,j,none⟩=some v:=by obtain ⟨t,fr,h⟩:=h;simp [World.cell?,h,hv]
theorem Qqk (n:Nat) (w:World):
  Calls prog 148 #[.int .u8 (n:Int)] w λe w'=>e= .returned (.bool (Cm n))/\w'=w:=by
 go_enter func148,ntmps148;go_wp2
 all_goals go_ret
 all_goals refine ⟨congrArg (λb=>Ending.returned (Value.bool b)) ?_,rfl⟩
 all_goals (rw [Bool.eq_iff_iff];simp [Cm];try omega)
theorem Wmq (n:Nat) (w:World):
  Calls prog 149 #[.int .u8 (n:Int)] w λe w'=>e= .returned (.bool (Hg n))/\w'=w:=by
 go_enter func149,ntmps149;go_wp2
 all_goals go_ret
 all_goals refine ⟨congrArg (λb=>Ending.returned (Value.bool b)) ?_,rfl⟩
 all_goals (rw [Bool.eq_iff_iff];simp [Hg];try omega)
theorem Qqc (n:Nat) (w:World):
  Calls prog 103 #[.int .u8 (n:Int)] w λe w'=>e= .returned (.bool (Cm n))/\w'=w:=by
 go_enter func103,ntmps103;go_wp2
 all_goals go_ret
 all_goals refine ⟨congrArg (λb=>Ending.returned (Value.bool b)) ?_,rfl⟩
 all_goals (rw [Bool.eq_iff_iff];simp [Cm];try omega)
theorem Q5k (n:Nat) (w:World):
  Calls prog 105 #[.int .u8 (n:Int)] w λe w'=>e= .returned (.bool (Hg n))/\w'=w:=by
 go_enter func105,ntmps105;go_wp2
 all_goals go_ret
 all_goals refine ⟨congrArg (λb=>Ending.returned (Value.bool b)) ?_,rfl⟩
 all_goals (rw [Bool.eq_iff_iff];simp [Hg];try omega)
def Am (lo hi n:Int):Bool:=decide (lo<=n)&&decide (n<=hi)
theorem Qna (n lo hi:Int) (w:World):
  Calls prog 137 #[.int .i64 n,.agg #[.int .i64 lo,.int .i64 hi]] w λe w'=>e= .returned (.bool (Am lo hi n))/\Below w.heap.size w w':=by
 go_enter func137,ntmps137;go_wp2
 all_goals go_ret
 all_goals refine ⟨congrArg (λb=>Ending.returned (Value.bool b)) ?_,Qag⟩
 all_goals (rw [Bool.eq_iff_iff];simp [Am];try omega)
theorem Q5x {op:Int} (h:op<0\/17<=op):Qat op=[]:=by unfold Qat;rw [Qd (by omega)]
theorem Q6h {k:Nat} (h:k<17):Qat (k:Int)=Xu.getD k []:=by unfold Qat;rw [Qk (by omega),Ja]
theorem Qrc (op:Int) (w:World) (hT:Dp w):
  Calls prog 82 #[.int .i64 op] w λe w'=>e= .returned (txt (Qat op))/\w'=w:=by
 rcases (show op<0\/0<=op by omega)with h |h
 ·have HS:=Qa (Q5x (.inl h));go_enter func82,ntmps82;go_wp2;go_ret;exact ⟨by rw [HS.out];rfl,rfl⟩
 ·rcases (show op<17\/17<=op by omega)with h2 |h2
  ·obtain ⟨k,rfl⟩: ∃k:Nat,op=k:=⟨op.toNat,by omega⟩;have hk:k<17:=(by omega);have HS:=Qa (Q6h hk);have hc:=Zc hT.signs (Wa6 k hk);unfold txt at hc;clear hT;go_enter func82,ntmps82;go_wp2;go_ret;exact ⟨by rw [HS.out];rfl,rfl⟩
  ·have HS:=Qa (Q5x (.inr h2));clear hT;go_enter func82,ntmps82;go_wp2;go_ret;exact ⟨by rw [HS.out];rfl,rfl⟩
theorem Q0i {op:Int} (h:op<0\/4<=op):Ud op=[]:=by unfold Ud;rw [Qd (by omega)]
theorem Wdk {k:Nat} (h:k<4):Ud (k:Int)=Qhb.getD k []:=by unfold Ud;rw [Qk (by omega),Ja]
theorem Qso (op:Int) (w:World) (hT:Dp w):
  Calls prog 20 #[.int .i64 op] w λe w'=>e= .returned (txt (Ud op))/\w'=w:=by
 rcases (show op<0\/0<=op by omega)with h |h
 ·have HS:=Qa (Q0i (.inl h));go_enter func20,ntmps20;go_wp2;go_ret;exact ⟨by rw [HS.out];rfl,rfl⟩
 ·rcases (show op<4\/4<=op by omega)with h2 |h2
  ·obtain ⟨k,rfl⟩: ∃k:Nat,op=k:=⟨op.toNat,by omega⟩;have hk:k<4:=(by omega);have HS:=Qa (Wdk hk);have hc:=Zc hT.kinds (Wly k hk);unfold txt at hc;clear hT;go_enter func20,ntmps20;go_wp2;go_ret;exact ⟨by rw [HS.out];rfl,rfl⟩
  ·have HS:=Qa (Q0i (.inr h2));clear hT;go_enter func20,ntmps20;go_wp2;go_ret;exact ⟨by rw [HS.out];rfl,rfl⟩
def Sr (l:List Nd) (ks:List Int):Prop:= ∀j,j<ks.length-> ∃q:Nat,ks.getD j 0=(q:Int)/\q<l.length
def kd (l:List Nd) (ks:List Int):List Int:=ks.map (λk=>(nd l k.toNat).kind)
theorem Qcm (l:List Nd) (ks:List Int):(kd l ks).length=ks.length:=Zr _
theorem Q45 {l:List Nd} {ks:List Int} {j q:Nat} (hj:j<ks.length) (h:ks.getD j 0=(q:Int)):(kd l ks).getD j 0=(nd l q).kind:=by unfold kd;rw [Yc,Y3 hj]at h;rw [Yc,Ng,Y3 hj];have h':ks[j]=(q:Int):=h;show (nd l (ks[j]).toNat).kind=_;rw [h',Ja]
theorem Won {w:World} {a ka:Option Addr} {l:List Nd} {ks:List Int} {m j:Nat} (hN:Nodes w a l) (hk:Vd .i64 w ka m (λj=>ks.getD j 0)) (hI:Sr l ks) (hm:m=ks.length) (hj:j<m):
  ∃kb ko lb lo q,ka=some ⟨kb,ko,none⟩/\a=some ⟨lb,lo,none⟩/\w.cell? ⟨kb,ko+j,none⟩=some (.int .i64 ((q:Nat):Int))/\q<l.length/\Qes w lb (lo+q*5) (nd l q)/\(kd l ks).getD j 0=(nd l q).kind/\ks.getD j 0=(q:Int)/\lb<w.heap.size/\kb<w.heap.size:=by
 obtain ⟨q,hq,hlt⟩:=hI j (by omega);obtain ⟨kb,ko,rfl,hkb,hc⟩:=hk (by omega);obtain ⟨lb,lo,rfl,hlb,h5⟩:=hN.at_ hlt;have:=hc j hj;simp only [hq]at this;exact ⟨kb,ko,lb,lo,q,rfl,rfl,this,hlt,h5,Q45 (by omega) hq,hq,hlb,hkb⟩
theorem Wpd {ks:List Int} {n k:Nat} (hk:k<n) (hn:n<=ks.length) (h:Q6 (ks.getD k 0)=false):exprs ks n=false:=by
 have:(ks.take n).all Q6=false:=by
  rw [List.all_eq_false];have hk':k<ks.length:=by omega
  refine ⟨ks[k],List.mem_take_iff_getElem.2 ⟨k,by omega,rfl⟩,?_⟩;rw [Yc,Y3 hk']at h;have h':Q6 ks[k]=false:=h;simp [h']
 simp [exprs,this]
theorem Wcj {ks:List Int} {n:Nat} (hn:n<=ks.length) (h: ∀k,k<n->Q6 (ks.getD k 0)=true):exprs ks n=true:=by
 have:(ks.take n).all Q6=true:=by rw [Ou];intro x hx;obtain ⟨k,hk,rfl⟩:=List.mem_take_iff_getElem.1 hx;have:=h k (by omega);rw [Yc,Y3 (by omega)]at this;exact this
 simp [exprs,this,hn]
theorem Wks {ks:List Int} {n:Nat} (hn:ks.length<n):exprs ks n=false:=by unfold exprs;rw [decide_eq_false (by omega)];rfl
theorem Wo7 {ks:List Int} {K:Int} {m k:Nat} (hk:k<ks.length) (h:ks.getD k 0≠K):Jd ks K m=false:=by
 have:ks.all (λx=>x==K)=false:=by rw [List.all_eq_false];refine ⟨ks[k],F5 hk,?_⟩;rw [Yc,Y3 hk]at h;have h':ks[k]≠K:=h;simp [h']
 simp [Jd,this]
theorem Q5q {ks:List Int} {K:Int} {m:Nat} (h: ∀k,k<ks.length->ks.getD k 0=K):Jd ks K m=decide (ks.length<=m):=by
 have:ks.all (λx=>x==K)=true:=by rw [Ou];intro x hx;obtain ⟨k,hk,rfl⟩:=List.mem_iff_getElem.1 hx;have:=h k hk;rw [Yc,Y3 hk]at this;have h':ks[k]=K:=this;simp [h']
 simp [Jd,this]
theorem Wf5 {w:World} {ka:Option Addr} {m d:Nat} {ks:List Int} (h:Vd .i64 w ka m (λj=>ks.getD j 0)):Vd .i64 w (Option.map (λx=>(⟨x.block,x.off+d,none⟩:Addr)) ka) (m-d) (λj=>(ks.drop d).getD j 0):=by intro hp;obtain ⟨b,off,rfl,hlt,hc⟩:=h (by omega);refine ⟨b,off+d,rfl,hlt,λj hj=> ?_⟩;simp only [Ro,La];exact hc (d+j) (by omega)
theorem Sr.drop {l:List Nd} {ks:List Int} (h:Sr l ks) (d:Nat):Sr l (ks.drop d):=by intro j hj;rw [Vf]at hj;obtain ⟨q,h1,h2⟩:=h (d+j) (by omega);exact ⟨q,by rw [Ro];exact h1,h2⟩
theorem Qgh (l:List Nd) (ks:List Int) (d:Nat):(kd l ks).drop d=kd l (ks.drop d):=by unfold kd;rw [List.map_drop]
theorem Wch {ks:List Int} {k:Nat} (hk:k<ks.length) (h:Jv (ks.getD k 0)=false):ks.all Jv=false:=by rw [List.all_eq_false];refine ⟨ks[k],F5 hk,?_⟩;rw [Yc,Y3 hk]at h;have h':Jv ks[k]=false:=h;simp [h']
theorem Wd1 {ks:List Int} (h: ∀k,k<ks.length->Jv (ks.getD k 0)=true):ks.all Jv=true:=by rw [Ou];intro x hx;obtain ⟨k,hk,rfl⟩:=List.mem_iff_getElem.1 hx;have:=h k hk;rw [Yc,Y3 hk]at this;exact this
theorem Wc2 {l:List UInt8} (h:l.length=0):Xa l=false:=by simp [Xa,h]
theorem Wdz {l:List UInt8} (h:32<l.length):Xa l=false:=by unfold Xa;rw [decide_eq_false (show¬l.length<=32 by omega)];simp
theorem Wo9 {l:List UInt8} (h:Cm (bt l 0)=true):Xa l=false:=by simp [Xa,h]
theorem Wah {l:List UInt8} (h:Tg l=true):Xa l=false:=by simp [Xa,h]
theorem Qyd {l:List UInt8} {k:Nat} (hk:k<l.length):bt l k=l[k].toNat:=by unfold bt;rw [Yc,Y3 hk];rfl
theorem Wjn {l:List UInt8} {k:Nat} (hk:k<l.length) (h1:Hg (bt l k)=false) (h2:Cm (bt l k)=false):Xa l=false:=by
 have:l.all (λc=>Hg c.toNat||Cm c.toNat)=false:=by rw [List.all_eq_false];refine ⟨l[k],F5 hk,?_⟩;rw [<-Qyd hk,h1,h2];simp
 simp [Xa,this]
theorem Qxs {l:List UInt8} (h0:0<l.length) (h1:l.length<=32) (h2:Cm (bt l 0)=false) (h3: ∀k,k<l.length->(Hg (bt l k)||Cm (bt l k))=true) (h4:Tg l=false):Xa l=true:=by
 have:l.all (λc=>Hg c.toNat||Cm c.toNat)=true:=by rw [Ou];intro c hc;obtain ⟨k,hk,rfl⟩:=List.mem_iff_getElem.1 hc;rw [<-Qyd hk];exact h3 k hk
 simp [Xa,this,h0,h1,h2,h4]
theorem Q7r {b:List UInt8} (h: ∀j,j<18->b≠Nl.getD j []):Tg b=false:=by unfold Tg;rw [List.any_eq_false];intro k hk;obtain ⟨j,hj,rfl⟩:=List.mem_iff_getElem.1 hk;have hj':j<18:=hj;have:=h j hj';rw [Yc,Y3 hj]at this;simpa using this
theorem Q27 {b:List UInt8} {j:Nat} (hj:j<18) (h:b=Nl.getD j []):Tg b=true:=by unfold Tg;rw [List.any_eq_true];have hj':j<Nl.length:=hj;refine ⟨Nl[j],F5 hj',?_⟩;rw [Yc,Y3 hj']at h;simpa using h
theorem Wos: ∀(j:Nat),j<18-> ∀(w:World),(Instr.index 132 (.agg Q2h) (.int .i64 (j:Int))).run prog w= .ok (txt (Nl.getD j [])) w
 | 0,_,w=>by kernel_rfl
 | 1,_,w=>by kernel_rfl
 | 2,_,w=>by kernel_rfl
 | 3,_,w=>by kernel_rfl
 | 4,_,w=>by kernel_rfl
 | 5,_,w=>by kernel_rfl
 | 6,_,w=>by kernel_rfl
 | 7,_,w=>by kernel_rfl
 | 8,_,w=>by kernel_rfl
 | 9,_,w=>by kernel_rfl
 | 10,_,w=>by kernel_rfl
 | 11,_,w=>by kernel_rfl
 | 12,_,w=>by kernel_rfl
 | 13,_,w=>by kernel_rfl
 | 14,_,w=>by kernel_rfl
 | 15,_,w=>by kernel_rfl
 | 16,_,w=>by kernel_rfl
 | 17,_,w=>by kernel_rfl
 |n+18,h,_=>by omega
theorem Qoy (s:ByteArray):s.toList=s.data.toList:=ByteArray.toList_eq s
theorem Qsa (b:List UInt8):(⟨b.toArray⟩:ByteArray).toList=b:=by rw [ByteArray.toList_eq]
theorem Q6g (s:ByteArray):Value.string s=txt s.data.toList:=by unfold txt;rw [Array.toArray_toList]
theorem Ad (l:List UInt8):(⟨l.toArray⟩:ByteArray).size=l.length:=rfl
theorem Wnj (s:ByteArray) (w:World) (hT:Dp w) (hs:s.size<=140737488351232):
  Calls prog 136 #[.string s] w λe w'=>e= .returned (.bool (Xa s.data.toList))/\w'=w:=by
 obtain ⟨l,hl⟩:=Qb s.data.toList;have hlen:l.length=s.size:=by rw [hl];exact Au
 have HLEN:=Qa hlen;have htl:s.toList=l:=by rw [Qoy,hl]
 rw [<-hl];have HL:=Qa hl;clear hl;rcases Nat.eq_zero_or_pos s.size with h0 |h0
 ·have hn:l=[]:=List.length_eq_zero_iff.1 (by omega);have he:s.toList.isEmpty=true:=by rw [htl,hn];rfl
  have he2:s.toList=[]:=by rw [htl,hn]
  clear h0 hlen htl;have HN:=Qa hn;clear hn;go_enter func136,ntmps136;go_wp2_with fail;go_ret;exact ⟨by rw [Wc2 (by rw [HN.out];rfl)];rfl,rfl⟩
 have hne:l≠[]:=by intro h;rw [h]at hlen;simp at hlen;omega
 have he:s.toList.isEmpty=false:=by rw [htl,List.isEmpty_eq_false_iff];exact hne
 have he2: ¬s.toList=[]:=by rw [htl];exact hne
 clear hne;by_cases h32:32<s.size
 ·have HB:=Qa (Wdz (l:=l) (by omega));clear hlen htl;go_enter func136,ntmps136;go_wp2_with fail;go_ret;exact ⟨by rw [HB.out];rfl,rfl⟩
 have X9:=Qa htl;clear hlen htl;obtain ⟨tt,fr,hg⟩:=hT.keys;have HG:=Qa hg;clear hg hT;have hb0:=Qa (Hq HL.out h0);cases hd:Cm (bt l 0)with
 |true=>
  have HD:=Qa hd;clear hd;go_enter func136,ntmps136;go_wp2_with fail;refine (Qqk s[0].toNat w).mono ?_;rintro e w1 ⟨rfl,hw1⟩;rw [hw1,<-hb0.out,HD.out];clear hw1 w1;go_wp2_with fail;go_ret;exact ⟨by rw [Wo9 HD.out];rfl,rfl⟩
 |false=>
  have HD:=Qa hd;clear hd;go_enter func136,ntmps136;go_wp2_with fail;refine (Qqk s[0].toNat w).mono ?_;rintro e w1 ⟨rfl,hw1⟩;rw [hw1,<-hb0.out,HD.out];clear hw1 w1;go_wp2_with fail;go_loop [3,20] (λ_ i=> ∃k:Nat,k<=s.size/\i= .int .i64 (k:Int)/\Hid (∀j,j<k->(Hg (bt l j)||Cm (bt l j))=true)) (λ_ i=>s.size-(intOf i).toNat)
  case atStart=>exact ⟨0,by omega,rfl,λj hj=>by omega⟩
  case round=>
   obtain ⟨k,hk,rfl,hK⟩:=hrel;by_cases hlt:k<s.size
   ·have hb:=Qa (Hq HL.out hlt);have hkl:Hid (k<l.length):=(by show k<l.length;rw [HLEN.out];exact hlt);have hnext: ∀{P:Prop},(Hg (bt l k)||Cm (bt l k))=true->((∀j,j<k+1->(Hg (bt l j)||Cm (bt l j))=true)->P)->P:=λh f=>f λj hj=>by
     rcases V7 j k with g |g
     ·exact hK.out j g
     ·obtain rfl:j=k:=(by omega);exact h
    go_wp2_with fail;refine (Wmq s[k].toNat w).mono ?_;rintro e w1 ⟨rfl,hw1⟩;rw [hw1,<-hb.out];clear hw1 w1;cases hp:Hg (bt l k)with
    |true=>
     have HP:=Qa hp;clear hp;go_wp2_with fail;go_round
     case rel=>exact ⟨k+1,by omega,by go_num,hnext (by rw [HP.out];rfl) id⟩
     case measure=>simp [intOf];omega
    |false=>
     have HP:=Qa hp;clear hp;go_wp2_with fail;refine (Qqk s[k].toNat w).mono ?_;rintro e w1 ⟨rfl,hw1⟩;rw [hw1,<-hb.out];clear hw1 w1;cases hp2:Cm (bt l k)with
     |true=>
      have Gl:=Qa hp2;clear hp2;go_wp2_with fail;go_round
      case rel=>exact ⟨k+1,by omega,by go_num,hnext (by rw [Gl.out];simp) id⟩
      case measure=>simp [intOf];omega
     |false=>
      have Gl:=Qa hp2;clear hp2;go_wp2_with fail;go_ret;exact ⟨by rw [Wjn hkl.out HP.out Gl.out];rfl,rfl⟩
   ·have hall:Hid (∀j,j<l.length->(Hg (bt l j)||Cm (bt l j))=true):=λj hj=>hK.out j (by rw [HLEN.out]at hj;omega);clear hK;go_wp2_with (refine wpList_load_row rfl 132 _ rfl 11 rfl tt _ fr _ HG.out underlying132 rfl (by kernel_rfl) ?_);go_loop [5,37] (λ_ i=> ∃k:Nat,k<=18/\i= .int .i64 (k:Int)/\Hid (∀j,j<k->l≠Nl.getD j [])) (λ_ i=>18-(intOf i).toNat)
    case atStart=>exact ⟨0,by omega,rfl,λj hj=>by omega⟩
    case round=>
     obtain ⟨k,hk,rfl,hK⟩:=hrel;by_cases hlt:k<18
     ·have hix:=Wos k hlt;unfold txt at hix;obtain ⟨c,hc⟩:=Qb (Nl.getD k []);rw [<-hc]at hix;have HC:=Qa hc;clear hc;by_cases hE:l=c
      ·have he':(s.toList==c)=true:=(by rw [X9.out];simpa using hE);have HE:=Qa hE;clear hE;go_wp2_with fail;go_ret;exact ⟨by rw [Wah (Q27 hlt (HE.out.trans HC.out))];rfl,rfl⟩
      ·have he':(s.toList==c)=false:=(by rw [X9.out];simpa using hE);have HE:=Qa hE;clear hE;go_wp2_with fail;go_round
       case rel=>exact ⟨k+1,by omega,by go_num,λj hj=>by
        rcases V7 j k with g |g
        ·exact hK.out j g
        ·obtain rfl:j=k:=(by omega);rw [<-HC.out];exact HE.out⟩
       case measure=>simp [intOf];omega
     ·obtain rfl:k=18:=(by omega);go_wp2_with fail;go_ret;exact ⟨by rw [Qxs (by rw [HLEN.out];exact h0) (by rw [HLEN.out];omega) HD.out hall.out (Q7r hK.out)];rfl,rfl⟩
def Qk6:Array Value:=(Nl.map txt).toArray
theorem Wo1 {j:Nat} (hj:j<18):Qk6[j]? =some (txt (Nl.getD j [])):=by unfold Qk6;have hj':j<Nl.length:=hj;rw [List.getElem?_toArray,Ng,Y3 hj',Yc,Y3 hj'];rfl
theorem We5 (w:World):
  Calls prog 132 #[] w λe w'=>e= .returned (.slice (some ⟨w.heap.size,0,none⟩) 18 18)/\w'=w.alloc (.cells Qk6 9):=by
 go_enter func132,ntmps132;go_wp2;go_ret;exact ⟨rfl,rfl⟩
theorem Qz5 (s:ByteArray) (w:World):
  Calls prog 106 #[.string s] w λe w'=>e= .returned (.bool (Tg s.data.toList))/\Below w.heap.size w w':=by
 obtain ⟨l,hl⟩:=Qb s.data.toList;have X9:Hid (s.toList=l):=by show s.toList=l;rw [Qoy,hl]
 rw [<-hl];clear hl;go_enter func106,ntmps106;go_wp2_with fail;refine (We5 w).mono ?_;rintro e w1 ⟨rfl,hw1⟩;have HB:Hid (Below w.heap.size w w1):=by rw [hw1];exact Qag
 have HH:Hid (Held w1 w.heap.size 9 Qk6):=by rw [hw1];exact Held.new w 9 Qk6
 obtain ⟨g,hg⟩:=Qb w.heap.size;rw [<-hg]at HH ⊢;clear hg hw1;go_wp2_with fail;go_loop [4] (λi=> ∃k:Nat,k<=18/\i= .int .i64 (k:Int)/\Hid (∀j,j<k->l≠Nl.getD j [])) (λi=>18-(intOf i).toNat)
 case atStart=>exact ⟨0,by omega,rfl,λj hj=>by omega⟩
 case round=>
  obtain ⟨k,hk,rfl,hK⟩:=hrel;by_cases hlt:k<18
  ·have hc:=HH.out.at_ (Wo1 hlt);unfold txt at hc;obtain ⟨c,hcc⟩:=Qb (Nl.getD k []);rw [<-hcc]at hc;have HC:=Qa hcc;clear hcc;by_cases hE:l=c
   ·have he':(c==s.toList)=true:=(by rw [X9.out];simpa using hE.symm);have HE:=Qa hE;clear hE;go_wp2_with fail;go_ret;exact ⟨by rw [Q27 hlt (HE.out.trans HC.out)];rfl,HB.out⟩
   ·have he':(c==s.toList)=false:=(by rw [X9.out];simpa using λh:c=l=>hE h.symm);have HE:=Qa hE;clear hE;go_wp2_with fail;go_round
    case rel=>exact ⟨k+1,by omega,by go_num,λj hj=>by
     rcases V7 j k with g |g
     ·exact hK.out j g
     ·obtain rfl:j=k:=(by omega);rw [<-HC.out];exact HE.out⟩
    case measure=>simp [intOf];omega
  ·obtain rfl:k=18:=(by omega);go_wp2_with fail;go_ret;exact ⟨by rw [Q7r hK.out];rfl,HB.out⟩
theorem Wng {x:Nd} (h: ¬(1<=x.kind/\x.kind<=26/\0<=x.at_)):ownB x=false:=by
 unfold ownB;by_cases h1:1<=x.kind
 ·by_cases h2:x.kind<=26
  ·rw [decide_eq_false (show¬0<=x.at_ by omega)];simp
  ·rw [decide_eq_false h2];simp
 ·rw [decide_eq_false h1];simp
end
end Go.Proofs.YtdncpkkhkbijfaaGreatDoor
