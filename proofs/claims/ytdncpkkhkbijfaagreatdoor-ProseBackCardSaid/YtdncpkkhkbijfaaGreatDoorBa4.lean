import Derived.Test.YtdncpkkhkbijfaaGreatDoorBa3
import Derived.Lib.LaidTab
import Derived.Lib.Tables
open Go.Proofs.Tryz
set_option linter.all false
set_option maxHeartbeats 0
set_option maxRecDepth 100000
namespace Go.Proofs.YtdncpkkhkbijfaaGreatDoor
section
open Go.RowKit
mutual
def flat {H:Type}:DataW H->List Value
 | .lit (.int k z)=>[.int k z]
 | .lit (.bool b)=>[.bool b]
 | .lit (.string l)=>[.string ⟨l.toArray⟩]
 | .agg ds=>Qcl ds
 |_=>[]
def Qcl {H:Type}:List (DataW H)->List Value
 | []=>[]
 |d::r=>flat d++Qcl r
end
def Qgv:Array Value:=(flat (H:=Unit) Rows.laid_balustrade_tree_rows).toArray
def Qpi:Array Value:=(flat (H:=Unit) Rows.laid_balustrade_tree_limits).toArray
def Qdt:Array Value:=(flat (H:=Unit) Rows.laid_balustrade_tree_makings).toArray
def Qw6:Array Value:=(flat (H:=Unit) Rows.laid_balustrade_tree_signs).toArray
def Q8h:Array Value:=(flat (H:=Unit) Rows.laid_balustrade_tree_kindWords).toArray
def Q2h:Array Value:=(flat (H:=Unit) Rows.laid_balustrade_tree_keyWords).toArray
def txt (b:List UInt8):Value:=.string ⟨b.toArray⟩
def isL:List Nat:=[0,1,1,1,1,1,1,1,1,1,1,9,2,2,2,2,2,2,2,2,2,2,2,4,16,32,0]
def Wp3:List Nat:=[0,1,2,0,0,3,0,0,0,0,0,0,0,0,0,0,0,0,0,0,0,0,0,0,4,4,0]
def mkL:List Nat:=[0,0,0,0,0,2,1,1,2,1,1,3,1,1,2,4,5,6,0,0,1,1,7,8,0,9,10]
def Q8v:List Bool:=[false,false,false,false,true,false,false,false,false,false,false,true,true,true,true,false,false,true,false,false,false,false,false,false,true,true,false]
def Qc4 (k:Nat):Nat:=isL.getD k 0
def numOf (k:Nat):Nat:=Wp3.getD k 0
def Qft (k:Nat):Nat:=mkL.getD k 0
def Qej (k:Nat):Bool:=Q8v.getD k false
def wrd (k:Nat):List UInt8:=Quo.getD k []
def Wnc:List (Int×Int):=[(0,0),(0,9223372036854775807),(0,1),(1,16),(1,3)]
def lim (j:Nat):Int×Int:=Wnc.getD j (0,0)
structure Pt where
 is:Nat
 lo:Int
 hi:Int
def mkP:List (Pt×Pt):=[(⟨0,0,0⟩,⟨0,0,0⟩),(⟨1,1,1⟩,⟨0,0,0⟩),(⟨1,2,2⟩,⟨0,0,0⟩),(⟨1,0,8⟩,⟨0,0,0⟩),(⟨1,1,1⟩,⟨4,1,2⟩),(⟨1,1,1⟩,⟨4,1,1⟩),(⟨1,2,2⟩,⟨4,1,1⟩),(⟨8,1,1⟩,⟨0,0,0⟩),(⟨2,0,9223372036854775807⟩,⟨0,0,0⟩),(⟨16,0,8⟩,⟨4,1,1⟩),(⟨32,0,200⟩,⟨0,0,0⟩)]
def Jw (j:Nat):Pt×Pt:=mkP.getD j (⟨0,0,0⟩,⟨0,0,0⟩)
theorem Q7p: ∀k,k<27->Qgv[k*5]? =some (txt (wrd k))
 | 0,_=>by kernel_rfl
 | 1,_=>by kernel_rfl
 | 2,_=>by kernel_rfl
 | 3,_=>by kernel_rfl
 | 4,_=>by kernel_rfl
 | 5,_=>by kernel_rfl
 | 6,_=>by kernel_rfl
 | 7,_=>by kernel_rfl
 | 8,_=>by kernel_rfl
 | 9,_=>by kernel_rfl
 | 10,_=>by kernel_rfl
 | 11,_=>by kernel_rfl
 | 12,_=>by kernel_rfl
 | 13,_=>by kernel_rfl
 | 14,_=>by kernel_rfl
 | 15,_=>by kernel_rfl
 | 16,_=>by kernel_rfl
 | 17,_=>by kernel_rfl
 | 18,_=>by kernel_rfl
 | 19,_=>by kernel_rfl
 | 20,_=>by kernel_rfl
 | 21,_=>by kernel_rfl
 | 22,_=>by kernel_rfl
 | 23,_=>by kernel_rfl
 | 24,_=>by kernel_rfl
 | 25,_=>by kernel_rfl
 | 26,_=>by kernel_rfl
 |n+27,h=>by omega
theorem Wm2: ∀k,k<27->Qgv[k*5+1]? =some (.bool (Qej k))
 | 0,_=>by kernel_rfl
 | 1,_=>by kernel_rfl
 | 2,_=>by kernel_rfl
 | 3,_=>by kernel_rfl
 | 4,_=>by kernel_rfl
 | 5,_=>by kernel_rfl
 | 6,_=>by kernel_rfl
 | 7,_=>by kernel_rfl
 | 8,_=>by kernel_rfl
 | 9,_=>by kernel_rfl
 | 10,_=>by kernel_rfl
 | 11,_=>by kernel_rfl
 | 12,_=>by kernel_rfl
 | 13,_=>by kernel_rfl
 | 14,_=>by kernel_rfl
 | 15,_=>by kernel_rfl
 | 16,_=>by kernel_rfl
 | 17,_=>by kernel_rfl
 | 18,_=>by kernel_rfl
 | 19,_=>by kernel_rfl
 | 20,_=>by kernel_rfl
 | 21,_=>by kernel_rfl
 | 22,_=>by kernel_rfl
 | 23,_=>by kernel_rfl
 | 24,_=>by kernel_rfl
 | 25,_=>by kernel_rfl
 | 26,_=>by kernel_rfl
 |n+27,h=>by omega
theorem Qxx: ∀k,k<27->Qgv[k*5+2]? =some (.int .u8 (Qc4 k:Int))
 | 0,_=>by kernel_rfl
 | 1,_=>by kernel_rfl
 | 2,_=>by kernel_rfl
 | 3,_=>by kernel_rfl
 | 4,_=>by kernel_rfl
 | 5,_=>by kernel_rfl
 | 6,_=>by kernel_rfl
 | 7,_=>by kernel_rfl
 | 8,_=>by kernel_rfl
 | 9,_=>by kernel_rfl
 | 10,_=>by kernel_rfl
 | 11,_=>by kernel_rfl
 | 12,_=>by kernel_rfl
 | 13,_=>by kernel_rfl
 | 14,_=>by kernel_rfl
 | 15,_=>by kernel_rfl
 | 16,_=>by kernel_rfl
 | 17,_=>by kernel_rfl
 | 18,_=>by kernel_rfl
 | 19,_=>by kernel_rfl
 | 20,_=>by kernel_rfl
 | 21,_=>by kernel_rfl
 | 22,_=>by kernel_rfl
 | 23,_=>by kernel_rfl
 | 24,_=>by kernel_rfl
 | 25,_=>by kernel_rfl
 | 26,_=>by kernel_rfl
 |n+27,h=>by omega
theorem Q6i: ∀k,k<27->Qgv[k*5+3]? =some (.int .u8 (numOf k:Int))
 | 0,_=>by kernel_rfl
 | 1,_=>by kernel_rfl
 | 2,_=>by kernel_rfl
 | 3,_=>by kernel_rfl
 | 4,_=>by kernel_rfl
 | 5,_=>by kernel_rfl
 | 6,_=>by kernel_rfl
 | 7,_=>by kernel_rfl
 | 8,_=>by kernel_rfl
 | 9,_=>by kernel_rfl
 | 10,_=>by kernel_rfl
 | 11,_=>by kernel_rfl
 | 12,_=>by kernel_rfl
 | 13,_=>by kernel_rfl
 | 14,_=>by kernel_rfl
 | 15,_=>by kernel_rfl
 | 16,_=>by kernel_rfl
 | 17,_=>by kernel_rfl
 | 18,_=>by kernel_rfl
 | 19,_=>by kernel_rfl
 | 20,_=>by kernel_rfl
 | 21,_=>by kernel_rfl
 | 22,_=>by kernel_rfl
 | 23,_=>by kernel_rfl
 | 24,_=>by kernel_rfl
 | 25,_=>by kernel_rfl
 | 26,_=>by kernel_rfl
 |n+27,h=>by omega
theorem Wne: ∀k,k<27->Qgv[k*5+4]? =some (.int .u8 (Qft k:Int))
 | 0,_=>by kernel_rfl
 | 1,_=>by kernel_rfl
 | 2,_=>by kernel_rfl
 | 3,_=>by kernel_rfl
 | 4,_=>by kernel_rfl
 | 5,_=>by kernel_rfl
 | 6,_=>by kernel_rfl
 | 7,_=>by kernel_rfl
 | 8,_=>by kernel_rfl
 | 9,_=>by kernel_rfl
 | 10,_=>by kernel_rfl
 | 11,_=>by kernel_rfl
 | 12,_=>by kernel_rfl
 | 13,_=>by kernel_rfl
 | 14,_=>by kernel_rfl
 | 15,_=>by kernel_rfl
 | 16,_=>by kernel_rfl
 | 17,_=>by kernel_rfl
 | 18,_=>by kernel_rfl
 | 19,_=>by kernel_rfl
 | 20,_=>by kernel_rfl
 | 21,_=>by kernel_rfl
 | 22,_=>by kernel_rfl
 | 23,_=>by kernel_rfl
 | 24,_=>by kernel_rfl
 | 25,_=>by kernel_rfl
 | 26,_=>by kernel_rfl
 |n+27,h=>by omega
theorem Q74: ∀k,k<5->Qpi[k*2]? =some (.int .i64 (lim k).1)
 | 0,_=>by kernel_rfl
 | 1,_=>by kernel_rfl
 | 2,_=>by kernel_rfl
 | 3,_=>by kernel_rfl
 | 4,_=>by kernel_rfl
 |n+5,h=>by omega
theorem Qxj: ∀k,k<5->Qpi[k*2+1]? =some (.int .i64 (lim k).2)
 | 0,_=>by kernel_rfl
 | 1,_=>by kernel_rfl
 | 2,_=>by kernel_rfl
 | 3,_=>by kernel_rfl
 | 4,_=>by kernel_rfl
 |n+5,h=>by omega
theorem Q5p: ∀k,k<11->Qdt[k*6]? =some (.int .u8 ((Jw k).1.is:Int))
 | 0,_=>by kernel_rfl
 | 1,_=>by kernel_rfl
 | 2,_=>by kernel_rfl
 | 3,_=>by kernel_rfl
 | 4,_=>by kernel_rfl
 | 5,_=>by kernel_rfl
 | 6,_=>by kernel_rfl
 | 7,_=>by kernel_rfl
 | 8,_=>by kernel_rfl
 | 9,_=>by kernel_rfl
 | 10,_=>by kernel_rfl
 |n+11,h=>by omega
theorem Q3l: ∀k,k<11->Qdt[k*6+1]? =some (.int .i64 (Jw k).1.lo)
 | 0,_=>by kernel_rfl
 | 1,_=>by kernel_rfl
 | 2,_=>by kernel_rfl
 | 3,_=>by kernel_rfl
 | 4,_=>by kernel_rfl
 | 5,_=>by kernel_rfl
 | 6,_=>by kernel_rfl
 | 7,_=>by kernel_rfl
 | 8,_=>by kernel_rfl
 | 9,_=>by kernel_rfl
 | 10,_=>by kernel_rfl
 |n+11,h=>by omega
theorem Q3q: ∀k,k<11->Qdt[k*6+2]? =some (.int .i64 (Jw k).1.hi)
 | 0,_=>by kernel_rfl
 | 1,_=>by kernel_rfl
 | 2,_=>by kernel_rfl
 | 3,_=>by kernel_rfl
 | 4,_=>by kernel_rfl
 | 5,_=>by kernel_rfl
 | 6,_=>by kernel_rfl
 | 7,_=>by kernel_rfl
 | 8,_=>by kernel_rfl
 | 9,_=>by kernel_rfl
 | 10,_=>by kernel_rfl
 |n+11,h=>by omega
theorem Q4o: ∀k,k<11->Qdt[k*6+3]? =some (.int .u8 ((Jw k).2.is:Int))
 | 0,_=>by kernel_rfl
 | 1,_=>by kernel_rfl
 | 2,_=>by kernel_rfl
 | 3,_=>by kernel_rfl
 | 4,_=>by kernel_rfl
 | 5,_=>by kernel_rfl
 | 6,_=>by kernel_rfl
 | 7,_=>by kernel_rfl
 | 8,_=>by kernel_rfl
 | 9,_=>by kernel_rfl
 | 10,_=>by kernel_rfl
 |n+11,h=>by omega
theorem Q2j: ∀k,k<11->Qdt[k*6+4]? =some (.int .i64 (Jw k).2.lo)
 | 0,_=>by kernel_rfl
 | 1,_=>by kernel_rfl
 | 2,_=>by kernel_rfl
 | 3,_=>by kernel_rfl
 | 4,_=>by kernel_rfl
 | 5,_=>by kernel_rfl
 | 6,_=>by kernel_rfl
 | 7,_=>by kernel_rfl
 | 8,_=>by kernel_rfl
 | 9,_=>by kernel_rfl
 | 10,_=>by kernel_rfl
 |n+11,h=>by omega
theorem Qws: ∀k,k<11->Qdt[k*6+5]? =some (.int .i64 (Jw k).2.hi)
 | 0,_=>by kernel_rfl
 | 1,_=>by kernel_rfl
 | 2,_=>by kernel_rfl
 | 3,_=>by kernel_rfl
 | 4,_=>by kernel_rfl
 | 5,_=>by kernel_rfl
 | 6,_=>by kernel_rfl
 | 7,_=>by kernel_rfl
 | 8,_=>by kernel_rfl
 | 9,_=>by kernel_rfl
 | 10,_=>by kernel_rfl
 |n+11,h=>by omega
theorem Wa6: ∀k,k<17->Qw6[k]? =some (txt (Xu.getD k []))
 | 0,_=>by kernel_rfl
 | 1,_=>by kernel_rfl
 | 2,_=>by kernel_rfl
 | 3,_=>by kernel_rfl
 | 4,_=>by kernel_rfl
 | 5,_=>by kernel_rfl
 | 6,_=>by kernel_rfl
 | 7,_=>by kernel_rfl
 | 8,_=>by kernel_rfl
 | 9,_=>by kernel_rfl
 | 10,_=>by kernel_rfl
 | 11,_=>by kernel_rfl
 | 12,_=>by kernel_rfl
 | 13,_=>by kernel_rfl
 | 14,_=>by kernel_rfl
 | 15,_=>by kernel_rfl
 | 16,_=>by kernel_rfl
 |n+17,h=>by omega
theorem Wly: ∀k,k<4->Q8h[k]? =some (txt (Qhb.getD k []))
 | 0,_=>by kernel_rfl
 | 1,_=>by kernel_rfl
 | 2,_=>by kernel_rfl
 | 3,_=>by kernel_rfl
 |n+4,h=>by omega
theorem Wgj: ∀k,k<27->Qc4 k<256
 | 0,_=>by decide
 | 1,_=>by decide
 | 2,_=>by decide
 | 3,_=>by decide
 | 4,_=>by decide
 | 5,_=>by decide
 | 6,_=>by decide
 | 7,_=>by decide
 | 8,_=>by decide
 | 9,_=>by decide
 | 10,_=>by decide
 | 11,_=>by decide
 | 12,_=>by decide
 | 13,_=>by decide
 | 14,_=>by decide
 | 15,_=>by decide
 | 16,_=>by decide
 | 17,_=>by decide
 | 18,_=>by decide
 | 19,_=>by decide
 | 20,_=>by decide
 | 21,_=>by decide
 | 22,_=>by decide
 | 23,_=>by decide
 | 24,_=>by decide
 | 25,_=>by decide
 | 26,_=>by decide
 |n+27,h=>by omega
theorem Wp2: ∀k,k<27->numOf k<5
 | 0,_=>by decide
 | 1,_=>by decide
 | 2,_=>by decide
 | 3,_=>by decide
 | 4,_=>by decide
 | 5,_=>by decide
 | 6,_=>by decide
 | 7,_=>by decide
 | 8,_=>by decide
 | 9,_=>by decide
 | 10,_=>by decide
 | 11,_=>by decide
 | 12,_=>by decide
 | 13,_=>by decide
 | 14,_=>by decide
 | 15,_=>by decide
 | 16,_=>by decide
 | 17,_=>by decide
 | 18,_=>by decide
 | 19,_=>by decide
 | 20,_=>by decide
 | 21,_=>by decide
 | 22,_=>by decide
 | 23,_=>by decide
 | 24,_=>by decide
 | 25,_=>by decide
 | 26,_=>by decide
 |n+27,h=>by omega
theorem Q51: ∀k,k<27->Qft k<11
 | 0,_=>by decide
 | 1,_=>by decide
 | 2,_=>by decide
 | 3,_=>by decide
 | 4,_=>by decide
 | 5,_=>by decide
 | 6,_=>by decide
 | 7,_=>by decide
 | 8,_=>by decide
 | 9,_=>by decide
 | 10,_=>by decide
 | 11,_=>by decide
 | 12,_=>by decide
 | 13,_=>by decide
 | 14,_=>by decide
 | 15,_=>by decide
 | 16,_=>by decide
 | 17,_=>by decide
 | 18,_=>by decide
 | 19,_=>by decide
 | 20,_=>by decide
 | 21,_=>by decide
 | 22,_=>by decide
 | 23,_=>by decide
 | 24,_=>by decide
 | 25,_=>by decide
 | 26,_=>by decide
 |n+27,h=>by omega
theorem Wjw: ∀(k:Nat),k<27->named (k:Int)=Qej k
 | 0,_=>by decide
 | 1,_=>by decide
 | 2,_=>by decide
 | 3,_=>by decide
 | 4,_=>by decide
 | 5,_=>by decide
 | 6,_=>by decide
 | 7,_=>by decide
 | 8,_=>by decide
 | 9,_=>by decide
 | 10,_=>by decide
 | 11,_=>by decide
 | 12,_=>by decide
 | 13,_=>by decide
 | 14,_=>by decide
 | 15,_=>by decide
 | 16,_=>by decide
 | 17,_=>by decide
 | 18,_=>by decide
 | 19,_=>by decide
 | 20,_=>by decide
 | 21,_=>by decide
 | 22,_=>by decide
 | 23,_=>by decide
 | 24,_=>by decide
 | 25,_=>by decide
 | 26,_=>by decide
 |n+27,h=>by omega
structure Dp (w:World):Prop where
 rows: ∃t fr,w.heap[6]? =some (.cells Qgv t fr)
 limits: ∃t fr,w.heap[7]? =some (.cells Qpi t fr)
 makings: ∃t fr,w.heap[8]? =some (.cells Qdt t fr)
 signs: ∃t fr,w.heap[3]? =some (.cells Qw6 t fr)
 kinds: ∃t fr,w.heap[2]? =some (.cells Q8h t fr)
 keys: ∃t fr,w.heap[11]? =some (.cells Q2h t fr)
 pow: ∃t fr,w.heap[14]? =some (.cells (Lib.pow10Tab.map λz=>Value.int .u64 z).toArray t fr)
theorem Y0 {w w':World} {g:Nat} {cs:Array Value} (h: ∃t fr,w.heap[g]? =some (.cells cs t fr)) (hb:Below w.heap.size w w'): ∃t fr,w'.heap[g]? =some (.cells cs t fr):=by obtain ⟨t,fr,h⟩:=h;obtain ⟨hlt,_⟩:=Array.getElem?_eq_some_iff.1 h;exact ⟨t,fr,by rw [hb.block _ hlt];exact h⟩
theorem Dp.below {w w':World} (h:Dp w) (hb:Below w.heap.size w w'):Dp w':=
 ⟨Y0 h.rows hb,Y0 h.limits hb,Y0 h.makings hb,Y0 h.signs hb,Y0 h.kinds hb,Y0 h.keys hb,Y0 h.pow hb⟩
theorem Dp.tab {w:World} (h:Dp w):Lib.TabIs prog w "internal/strconv.uint64pow10" .u64 Lib.pow10Tab:=by
 obtain ⟨t,fr,h⟩:=h.pow
 have hg:prog.globalNamed "internal/strconv.uint64pow10" =some 14:=by kernel_rfl
 unfold Lib.TabIs World.var?;rw [hg];simp only [Option.bind_some,h]
theorem Zc {w:World} {g j:Nat} {cs:Array Value} {v:Value} (h: ∃t fr,w.heap[g]? =some (.cells cs t fr)) (hv:cs[j]? =some v):w.cell? ⟨g,j,none⟩=some v:=by obtain ⟨t,fr,h⟩:=h;simp [World.cell?,h,hv]
theorem Qqk (n:Nat) (w:World):
  Calls prog 148 #[.int .u8 (n:Int)] w λe w'=>e= .returned (.bool (Cm n))/\w'=w:=by
 go_enter func148,ntmps148;go_wp2
 all_goals go_ret
 all_goals refine ⟨congrArg (λb=>Ending.returned (Value.bool b)) ?_,rfl⟩
 all_goals (rw [Bool.eq_iff_iff];simp [Cm];try omega)
theorem Wmq (n:Nat) (w:World):
  Calls prog 149 #[.int .u8 (n:Int)] w λe w'=>e= .returned (.bool (Hg n))/\w'=w:=by
 go_enter func149,ntmps149;go_wp2
 all_goals go_ret
 all_goals refine ⟨congrArg (λb=>Ending.returned (Value.bool b)) ?_,rfl⟩
 all_goals (rw [Bool.eq_iff_iff];simp [Hg];try omega)
theorem Qqc (n:Nat) (w:World):
  Calls prog 103 #[.int .u8 (n:Int)] w λe w'=>e= .returned (.bool (Cm n))/\w'=w:=by
 go_enter func103,ntmps103;go_wp2
 all_goals go_ret
 all_goals refine ⟨congrArg (λb=>Ending.returned (Value.bool b)) ?_,rfl⟩
 all_goals (rw [Bool.eq_iff_iff];simp [Cm];try omega)
theorem Q5k (n:Nat) (w:World):
  Calls prog 105 #[.int .u8 (n:Int)] w λe w'=>e= .returned (.bool (Hg n))/\w'=w:=by
 go_enter func105,ntmps105;go_wp2
 all_goals go_ret
 all_goals refine ⟨congrArg (λb=>Ending.returned (Value.bool b)) ?_,rfl⟩
 all_goals (rw [Bool.eq_iff_iff];simp [Hg];try omega)
theorem Woa (n:Int) (w:World):
  Calls prog 112 #[.int .i64 n] w λe w'=>e= .returned (.bool (Q6 n))/\w'=w:=by
 go_enter func112,ntmps112;go_wp2
 all_goals go_ret
 all_goals refine ⟨congrArg (λb=>Ending.returned (Value.bool b)) ?_,rfl⟩
 all_goals (rw [Bool.eq_iff_iff];simp [Q6];try omega)
theorem Wry (n:Int) (w:World):
  Calls prog 77 #[.int .i64 n] w λe w'=>e= .returned (.bool (Jv n))/\w'=w:=by
 go_enter func77,ntmps77;go_wp2
 all_goals go_ret
 all_goals refine ⟨congrArg (λb=>Ending.returned (Value.bool b)) ?_,rfl⟩
 all_goals (rw [Bool.eq_iff_iff];simp [Jv];try omega)
def Am (lo hi n:Int):Bool:=decide (lo<=n)&&decide (n<=hi)
theorem Qna (n lo hi:Int) (w:World):
  Calls prog 137 #[.int .i64 n,.agg #[.int .i64 lo,.int .i64 hi]] w λe w'=>e= .returned (.bool (Am lo hi n))/\Below w.heap.size w w':=by
 go_enter func137,ntmps137;go_wp2
 all_goals go_ret
 all_goals refine ⟨congrArg (λb=>Ending.returned (Value.bool b)) ?_,Qag⟩
 all_goals (rw [Bool.eq_iff_iff];simp [Am];try omega)
theorem Q5x {op:Int} (h:op<0\/17<=op):Qat op=[]:=by unfold Qat;rw [Qd (by omega)]
theorem Q6h {k:Nat} (h:k<17):Qat (k:Int)=Xu.getD k []:=by unfold Qat;rw [Qk (by omega),Ja]
theorem Qrc (op:Int) (w:World) (hT:Dp w):
  Calls prog 82 #[.int .i64 op] w λe w'=>e= .returned (txt (Qat op))/\w'=w:=by
 rcases (show op<0\/0<=op by omega)with h |h
 ·have HS:=Qa (Q5x (.inl h));go_enter func82,ntmps82;go_wp2;go_ret;exact ⟨by rw [HS.out];rfl,rfl⟩
 ·rcases (show op<17\/17<=op by omega)with h2 |h2
  ·obtain ⟨k,rfl⟩: ∃k:Nat,op=k:=⟨op.toNat,by omega⟩;have hk:k<17:=(by omega);have HS:=Qa (Q6h hk);have hc:=Zc hT.signs (Wa6 k hk);unfold txt at hc;clear hT;go_enter func82,ntmps82;go_wp2;go_ret;exact ⟨by rw [HS.out];rfl,rfl⟩
  ·have HS:=Qa (Q5x (.inr h2));clear hT;go_enter func82,ntmps82;go_wp2;go_ret;exact ⟨by rw [HS.out];rfl,rfl⟩
theorem Q0i {op:Int} (h:op<0\/4<=op):Ud op=[]:=by unfold Ud;rw [Qd (by omega)]
theorem Wdk {k:Nat} (h:k<4):Ud (k:Int)=Qhb.getD k []:=by unfold Ud;rw [Qk (by omega),Ja]
theorem Qso (op:Int) (w:World) (hT:Dp w):
  Calls prog 20 #[.int .i64 op] w λe w'=>e= .returned (txt (Ud op))/\w'=w:=by
 rcases (show op<0\/0<=op by omega)with h |h
 ·have HS:=Qa (Q0i (.inl h));go_enter func20,ntmps20;go_wp2;go_ret;exact ⟨by rw [HS.out];rfl,rfl⟩
 ·rcases (show op<4\/4<=op by omega)with h2 |h2
  ·obtain ⟨k,rfl⟩: ∃k:Nat,op=k:=⟨op.toNat,by omega⟩;have hk:k<4:=(by omega);have HS:=Qa (Wdk hk);have hc:=Zc hT.kinds (Wly k hk);unfold txt at hc;clear hT;go_enter func20,ntmps20;go_wp2;go_ret;exact ⟨by rw [HS.out];rfl,rfl⟩
  ·have HS:=Qa (Q0i (.inr h2));clear hT;go_enter func20,ntmps20;go_wp2;go_ret;exact ⟨by rw [HS.out];rfl,rfl⟩
theorem Qtg (k:Int) (w:World):
  Calls prog 29 #[.int .i64 k] w λe w'=>e= .returned (txt (Ud k))/\Below w.heap.size w w':=by
 rcases (show k<1\/1<=k by omega)with h |h
 ·have HS:Hid (Ud k=[]):=by
   rcases (show k<0\/0<=k by omega)with g |g
   ·exact Q0i (.inl g)
   ·obtain rfl:k=0:=(by omega);rfl
  go_enter func29,ntmps29;go_wp2;go_ret;exact ⟨by rw [HS.out];rfl,Qag⟩
 ·rcases (show 3<k\/k<=3 by omega)with h2 |h2
  ·have HS:=Qa (Q0i (op:=k) (.inr (by omega)));go_enter func29,ntmps29;go_wp2;go_ret;exact ⟨by rw [HS.out];rfl,Qag⟩
  ·rcases (show k=1\/k=2\/k=3 by omega)with rfl |rfl |rfl
   all_goals
    go_enter func29,ntmps29;go_wp2;go_ret;exact ⟨rfl,Qag⟩
theorem Wcs (k:Int) (w:World):
  Calls prog 73 #[.int .i64 k] w λe w'=>e= .returned (.bool (named k))/\Below w.heap.size w w':=by
 go_enter func73,ntmps73;go_wp2_with fail;refine (Qto _ 8 _ [4,11,12,13,14,17,24,25] k _ rfl (by omega) ?_).mono ?_
 ·intro _;refine ⟨w.heap.size,0,rfl,by simp,λj hj=> ?_⟩;have hh:=(Held.new w 3 #[.int .i64 4,.int .i64 11,.int .i64 12,.int .i64 13,.int .i64 14,.int .i64 17,.int .i64 24,.int .i64 25]);rw [Bq];exact hh.at_ (by
   match j,hj with
   | 0,_ | 1,_ | 2,_ | 3,_ | 4,_ | 5,_ | 6,_ | 7,_=>rfl
   |n+8,h=>omega)
 rintro e w1 ⟨he,hw1⟩;have he':e= .returned (.bool (named k)):=he;subst he';clear he;rw [hw1];clear hw1 w1;go_wp2_with fail;go_ret;exact ⟨rfl,Qag⟩
def Sr (l:List Nd) (ks:List Int):Prop:= ∀j,j<ks.length-> ∃q:Nat,ks.getD j 0=(q:Int)/\q<l.length
def kd (l:List Nd) (ks:List Int):List Int:=ks.map (λk=>(nd l k.toNat).kind)
theorem Qcm (l:List Nd) (ks:List Int):(kd l ks).length=ks.length:=Zr _
theorem Q45 {l:List Nd} {ks:List Int} {j q:Nat} (hj:j<ks.length) (h:ks.getD j 0=(q:Int)):(kd l ks).getD j 0=(nd l q).kind:=by unfold kd;rw [Yc,Y3 hj]at h;rw [Yc,Ng,Y3 hj];have h':ks[j]=(q:Int):=h;show (nd l (ks[j]).toNat).kind=_;rw [h',Ja]
theorem Won {w:World} {a ka:Option Addr} {l:List Nd} {ks:List Int} {m j:Nat} (hN:Nodes w a l) (hk:Vd .i64 w ka m (λj=>ks.getD j 0)) (hI:Sr l ks) (hm:m=ks.length) (hj:j<m):
  ∃kb ko lb lo q,ka=some ⟨kb,ko,none⟩/\a=some ⟨lb,lo,none⟩/\w.cell? ⟨kb,ko+j,none⟩=some (.int .i64 ((q:Nat):Int))/\q<l.length/\Qes w lb (lo+q*5) (nd l q)/\(kd l ks).getD j 0=(nd l q).kind/\ks.getD j 0=(q:Int)/\lb<w.heap.size/\kb<w.heap.size:=by
 obtain ⟨q,hq,hlt⟩:=hI j (by omega);obtain ⟨kb,ko,rfl,hkb,hc⟩:=hk (by omega);obtain ⟨lb,lo,rfl,hlb,h5⟩:=hN.at_ hlt;have:=hc j hj;simp only [hq]at this;exact ⟨kb,ko,lb,lo,q,rfl,rfl,this,hlt,h5,Q45 (by omega) hq,hq,hlb,hkb⟩
theorem Wpd {ks:List Int} {n k:Nat} (hk:k<n) (hn:n<=ks.length) (h:Q6 (ks.getD k 0)=false):exprs ks n=false:=by
 have:(ks.take n).all Q6=false:=by
  rw [List.all_eq_false];have hk':k<ks.length:=by omega
  refine ⟨ks[k],List.mem_take_iff_getElem.2 ⟨k,by omega,rfl⟩,?_⟩;rw [Yc,Y3 hk']at h;have h':Q6 ks[k]=false:=h;simp [h']
 simp [exprs,this]
theorem Wcj {ks:List Int} {n:Nat} (hn:n<=ks.length) (h: ∀k,k<n->Q6 (ks.getD k 0)=true):exprs ks n=true:=by
 have:(ks.take n).all Q6=true:=by rw [Ou];intro x hx;obtain ⟨k,hk,rfl⟩:=List.mem_take_iff_getElem.1 hx;have:=h k (by omega);rw [Yc,Y3 (by omega)]at this;exact this
 simp [exprs,this,hn]
theorem Wks {ks:List Int} {n:Nat} (hn:ks.length<n):exprs ks n=false:=by unfold exprs;rw [decide_eq_false (by omega)];rfl
theorem Wdc (a ka:Option Addr) (c kc m n:Nat) (l:List Nd) (ks:List Int) (w:World) (hN:Nodes w a l) (hk:Vd .i64 w ka m (λj=>ks.getD j 0)) (hI:Sr l ks) (hm:m=ks.length) (hml:m<=140737488351232) (hll:l.length<=9223372036854775807) (hn:n<=140737488351232):
  Calls prog 75 #[.slice a l.length c,.slice ka m kc,.int .i64 (n:Int)] w λe w'=>e= .returned (.bool (exprs (kd l ks) n))/\w'=w:=by
 have HM:=Qa hm;have HN:=Qa hN;have HK:=Qa hk;have HI:=Qa hI;clear hm hN hk hI;by_cases hlt:m<n
 ·have HB:Hid (exprs (kd l ks) n=false):=Wks (by rw [Qcm,<-HM.out];exact hlt);go_enter func75,ntmps75;go_wp2_with fail;go_ret;exact ⟨by rw [HB.out];rfl,rfl⟩
 ·have HL:Hid (n<=(kd l ks).length):=by show n<=_;rw [Qcm,<-HM.out];omega
  obtain ⟨B,hB⟩:=Qb (exprs (kd l ks) n);rw [<-hB];have HB:=Qa hB;clear hB;go_enter func75,ntmps75;go_wp2_with fail;go_loop [7] (λi=> ∃k:Nat,k<=n/\i= .int .i64 (k:Int)/\Hid (∀j,j<k->Q6 ((kd l ks).getD j 0)=true)) (λi=>n-(intOf i).toNat)
  case atStart=>exact ⟨0,by omega,rfl,λj hj=>by omega⟩
  case round=>
   obtain ⟨k,hk,rfl,hE⟩:=hrel;by_cases hkn:k<n
   ·obtain ⟨kb,ko,lb,lo,q,rfl,rfl,hc,hq,⟨h5,_⟩,hkd,_⟩:=Won (j:=k) HN.out HK.out HI.out HM.out (by omega);obtain ⟨K,hK⟩:=Qb ((nd l q).kind);rw [<-hK]at h5 hkd;have Vx:=Qa hkd;clear hK hkd;go_wp2_with fail;refine (Woa K w).mono ?_;rintro e w1 ⟨rfl,hw1⟩;rw [hw1];clear hw1 w1;cases he:Q6 K with
    |true=>
     have HE:=Qa he;clear he;go_wp2_with fail;go_round
     case rel=>exact ⟨k+1,by omega,by go_num,λj hj=>by
      rcases V7 j k with h |h
      ·exact hE.out j h
      ·rw [show j=k by omega,Vx.out];exact HE.out⟩
     case measure=>simp [intOf];omega
    |false=>
     have HE:=Qa he;clear he;go_wp2_with fail;go_ret;exact ⟨by rw [HB.out,Wpd hkn HL.out (by rw [Vx.out];exact HE.out)];rfl,rfl⟩
   ·obtain rfl:k=n:=(by omega);go_wp2_with fail;go_ret;exact ⟨by rw [HB.out,Wcj HL.out hE.out];rfl,rfl⟩
theorem Wo7 {ks:List Int} {K:Int} {m k:Nat} (hk:k<ks.length) (h:ks.getD k 0≠K):Jd ks K m=false:=by
 have:ks.all (λx=>x==K)=false:=by rw [List.all_eq_false];refine ⟨ks[k],F5 hk,?_⟩;rw [Yc,Y3 hk]at h;have h':ks[k]≠K:=h;simp [h']
 simp [Jd,this]
theorem Q5q {ks:List Int} {K:Int} {m:Nat} (h: ∀k,k<ks.length->ks.getD k 0=K):Jd ks K m=decide (ks.length<=m):=by
 have:ks.all (λx=>x==K)=true:=by rw [Ou];intro x hx;obtain ⟨k,hk,rfl⟩:=List.mem_iff_getElem.1 hx;have:=h k hk;rw [Yc,Y3 hk]at this;have h':ks[k]=K:=this;simp [h']
 simp [Jd,this]
theorem Q9g (a ka:Option Addr) (c kc m n:Nat) (K:Int) (l:List Nd) (ks:List Int) (w:World) (hN:Nodes w a l) (hk:Vd .i64 w ka m (λj=>ks.getD j 0)) (hI:Sr l ks) (hm:m=ks.length) (hml:m<=140737488351232) (hll:l.length<=9223372036854775807) (hn:n<=140737488351232):
  Calls prog 76 #[.slice a l.length c,.slice ka m kc,.int .i64 K,.int .i64 (n:Int)] w λe w'=>e= .returned (.bool (Jd (kd l ks) K n))/\w'=w:=by
 have HM:=Qa hm;have HN:=Qa hN;have HK:=Qa hk;have HI:=Qa hI;clear hm hN hk hI;have HL:Hid ((kd l ks).length=m):=by show _=m;rw [Qcm,<-HM.out]
 obtain ⟨B,hB⟩:=Qb (Jd (kd l ks) K n);rw [<-hB];have HB:=Qa hB;clear hB;go_enter func76,ntmps76;go_wp2_with fail;go_loop [9] (λi=> ∃k:Nat,k<=m/\i= .int .i64 (k:Int)/\Hid (∀j,j<k->(kd l ks).getD j 0=K)) (λi=>m-(intOf i).toNat)
 case atStart=>exact ⟨0,by omega,rfl,λj hj=>by omega⟩
 case round=>
  obtain ⟨k,hk,rfl,hE⟩:=hrel;by_cases hkn:k<m
  ·obtain ⟨kb,ko,lb,lo,q,rfl,rfl,hc,hq,⟨h5,_⟩,hkd,_⟩:=Won (j:=k) HN.out HK.out HI.out HM.out (by omega);obtain ⟨Z,hZ⟩:=Qb ((nd l q).kind);rw [<-hZ]at h5 hkd;have Vx:=Qa hkd;clear hZ hkd;by_cases he:Z=K
   ·have he':(Z != K)=false:=(by simp [he]);have HE:=Qa he;clear he;go_wp2_with fail;go_round
    case rel=>exact ⟨k+1,by omega,by go_num,λj hj=>by
     rcases V7 j k with h |h
     ·exact hE.out j h
     ·rw [show j=k by omega,Vx.out];exact HE.out⟩
    case measure=>simp [intOf];omega
   ·have he':(Z != K)=true:=(by simp [he]);have HE:=Qa he;clear he;go_wp2_with fail;go_ret;exact ⟨by rw [HB.out,Wo7 (by rw [HL.out];exact hkn) (by rw [Vx.out];exact HE.out)];rfl,rfl⟩
  ·obtain rfl:k=m:=(by omega);go_wp2_with fail;go_ret;refine ⟨?_,rfl⟩;rw [HB.out,Q5q (λj hj=>hE.out j (by rw [HL.out]at hj;exact hj)),HL.out];refine congrArg (λb=>Ending.returned (Value.bool b)) ?_
   first |rfl |(rw [Bool.eq_iff_iff];simp)
theorem R8 (a ka:Option Addr) (c kc m n:Nat) (z:Int) (l:List Nd) (ks:List Int) (w:World) (hN:Nodes w a l) (hk:Vd .i64 w ka m (λj=>ks.getD j 0)) (hI:Sr l ks) (hm:m=ks.length) (hml:m<=140737488351232) (hll:l.length<=9223372036854775807) (hn:n<=140737488351232) (hz:z=(n:Int)):
  Calls prog 75 #[.slice a l.length c,.slice ka m kc,.int .i64 z] w λe w'=>e= .returned (.bool (exprs (kd l ks) n))/\w'=w:=by
 subst hz;exact Wdc a ka c kc m n l ks w hN hk hI hm hml hll hn
theorem Qd6 (a ka:Option Addr) (c kc m n:Nat) (K z:Int) (l:List Nd) (ks:List Int) (w:World) (hN:Nodes w a l) (hk:Vd .i64 w ka m (λj=>ks.getD j 0)) (hI:Sr l ks) (hm:m=ks.length) (hml:m<=140737488351232) (hll:l.length<=9223372036854775807) (hn:n<=140737488351232) (hz:z=(n:Int)):
  Calls prog 76 #[.slice a l.length c,.slice ka m kc,.int .i64 K,.int .i64 z] w λe w'=>e= .returned (.bool (Jd (kd l ks) K n))/\w'=w:=by
 subst hz;exact Q9g a ka c kc m n K l ks w hN hk hI hm hml hll hn
theorem Wf5 {w:World} {ka:Option Addr} {m d:Nat} {ks:List Int} (h:Vd .i64 w ka m (λj=>ks.getD j 0)):Vd .i64 w (Option.map (λx=>(⟨x.block,x.off+d,none⟩:Addr)) ka) (m-d) (λj=>(ks.drop d).getD j 0):=by intro hp;obtain ⟨b,off,rfl,hlt,hc⟩:=h (by omega);refine ⟨b,off+d,rfl,hlt,λj hj=> ?_⟩;simp only [Ro,La];exact hc (d+j) (by omega)
theorem Wo3 {w:World} {ka:Option Addr} {m d:Nat} {ks:List Int} (h:Vd .i64 w ka m (λj=>ks.getD j 0)) (hd:d<=m):Vd .i64 w ka d (λj=>(ks.take d).getD j 0):=by intro hp;obtain ⟨b,off,rfl,hlt,hc⟩:=h (by omega);refine ⟨b,off,rfl,hlt,λj hj=> ?_⟩;simp only [Q25 ks d j hj];exact hc j (by omega)
theorem Sr.drop {l:List Nd} {ks:List Int} (h:Sr l ks) (d:Nat):Sr l (ks.drop d):=by intro j hj;rw [Vf]at hj;obtain ⟨q,h1,h2⟩:=h (d+j) (by omega);exact ⟨q,by rw [Ro];exact h1,h2⟩
theorem Sr.take {l:List Nd} {ks:List Int} (h:Sr l ks) (d:Nat):Sr l (ks.take d):=by intro j hj;rw [F9]at hj;obtain ⟨q,h1,h2⟩:=h j (by omega);exact ⟨q,by rw [Q25 ks d j (by omega)];exact h1,h2⟩
theorem Qgh (l:List Nd) (ks:List Int) (d:Nat):(kd l ks).drop d=kd l (ks.drop d):=by unfold kd;rw [List.map_drop]
theorem Rl (l:List Nd) (ks:List Int) (d:Nat):(kd l ks).take d=kd l (ks.take d):=by unfold kd;rw [List.map_take]
theorem Wal (a:Option Addr) (c:Nat) (l:List Nd) (ka:Option Addr) (kc m:Nat) (ks:List Int) (n:Int) (s:ByteArray) (at_:Int) (w:World) (hN:Nodes w a l) (hk:Vd .i64 w ka m (λj=>ks.getD j 0)) (hcap:m<=kc) (hI:Sr l ks) (hm:m=ks.length) (hml:m<=140737488351232) (hll:l.length<=9223372036854775807):
  Calls prog 42 #[.slice a l.length c,.agg #[.int .i64 5,.slice ka m kc,.int .i64 n,.string s,.int .i64 at_]] w λe w'=>e= .returned (.bool (Y9 5 (kd l ks)))/\Below w.heap.size w w':=by
 have HM:=Qa hm;have HN:=Qa hN;have HK:=Qa hk;have HI:=Qa hI;clear hm hN hk hI;have HB:Hid (Below w.heap.size w (w.alloc (.cells #[.int .i64 5,.slice ka m kc,.int .i64 n,.string s,.int .i64 at_] 37))):=Qag;have HE:Hid (Y9 5 (kd l ks)=(decide (m=2)&&exprs (kd l ks) 2)):=by
  show _=_
  try rw [HM.out]
  simp only [Y9,Qcm,Qgh,Rl];rfl
 by_cases h2:m=2
 ·have h2':((m:Int)==2)=true:=by simp [h2]
  have H2:=Qa h2;clear h2;go_enter func42,ntmps42;go_wp2_with fail;refine (R8 _ _ _ _ _ 2 _ l ks _ (HN.out.below HB.out) (HK.out.below HB.out) HI.out HM.out hml hll (by omega) rfl).mono ?_;rintro e w1 ⟨rfl,hw1⟩;rw [hw1];clear hw1 w1;cases he:exprs (kd l ks) 2
  all_goals
   have A8:=Qa he;clear he;go_wp2_with fail;go_ret;exact ⟨by rw [HE.out,A8.out,decide_eq_true H2.out];rfl,HB.out⟩
 ·have h2':((m:Int)==2)=false:=by simp;omega
  have H2:=Qa h2;clear h2;go_enter func42,ntmps42;go_wp2_with fail;go_ret;exact ⟨by rw [HE.out,decide_eq_false H2.out];rfl,HB.out⟩
theorem Qzz (a:Option Addr) (c:Nat) (l:List Nd) (ka:Option Addr) (kc m:Nat) (ks:List Int) (n:Int) (s:ByteArray) (at_:Int) (w:World) (hN:Nodes w a l) (hk:Vd .i64 w ka m (λj=>ks.getD j 0)) (hcap:m<=kc) (hI:Sr l ks) (hm:m=ks.length) (hml:m<=140737488351232) (hll:l.length<=9223372036854775807):
  Calls prog 42 #[.slice a l.length c,.agg #[.int .i64 8,.slice ka m kc,.int .i64 n,.string s,.int .i64 at_]] w λe w'=>e= .returned (.bool (Y9 8 (kd l ks)))/\Below w.heap.size w w':=by
 have HM:=Qa hm;have HN:=Qa hN;have HK:=Qa hk;have HI:=Qa hI;clear hm hN hk hI;have HB:Hid (Below w.heap.size w (w.alloc (.cells #[.int .i64 8,.slice ka m kc,.int .i64 n,.string s,.int .i64 at_] 37))):=Qag;have HE:Hid (Y9 8 (kd l ks)=(decide (m=2)&&exprs (kd l ks) 2)):=by
  show _=_
  try rw [HM.out]
  simp only [Y9,Qcm,Qgh,Rl];rfl
 by_cases h2:m=2
 ·have h2':((m:Int)==2)=true:=by simp [h2]
  have H2:=Qa h2;clear h2;go_enter func42,ntmps42;go_wp2_with fail;refine (R8 _ _ _ _ _ 2 _ l ks _ (HN.out.below HB.out) (HK.out.below HB.out) HI.out HM.out hml hll (by omega) rfl).mono ?_;rintro e w1 ⟨rfl,hw1⟩;rw [hw1];clear hw1 w1;cases he:exprs (kd l ks) 2
  all_goals
   have A8:=Qa he;clear he;go_wp2_with fail;go_ret;exact ⟨by rw [HE.out,A8.out,decide_eq_true H2.out];rfl,HB.out⟩
 ·have h2':((m:Int)==2)=false:=by simp;omega
  have H2:=Qa h2;clear h2;go_enter func42,ntmps42;go_wp2_with fail;go_ret;exact ⟨by rw [HE.out,decide_eq_false H2.out];rfl,HB.out⟩
theorem Q7k (a:Option Addr) (c:Nat) (l:List Nd) (ka:Option Addr) (kc m:Nat) (ks:List Int) (n:Int) (s:ByteArray) (at_:Int) (w:World) (hN:Nodes w a l) (hk:Vd .i64 w ka m (λj=>ks.getD j 0)) (hcap:m<=kc) (hI:Sr l ks) (hm:m=ks.length) (hml:m<=140737488351232) (hll:l.length<=9223372036854775807):
  Calls prog 42 #[.slice a l.length c,.agg #[.int .i64 14,.slice ka m kc,.int .i64 n,.string s,.int .i64 at_]] w λe w'=>e= .returned (.bool (Y9 14 (kd l ks)))/\Below w.heap.size w w':=by
 have HM:=Qa hm;have HN:=Qa hN;have HK:=Qa hk;have HI:=Qa hI;clear hm hN hk hI;have HB:Hid (Below w.heap.size w (w.alloc (.cells #[.int .i64 14,.slice ka m kc,.int .i64 n,.string s,.int .i64 at_] 37))):=Qag;have HE:Hid (Y9 14 (kd l ks)=(decide (m=2)&&exprs (kd l ks) 2)):=by
  show _=_
  try rw [HM.out]
  simp only [Y9,Qcm,Qgh,Rl];rfl
 by_cases h2:m=2
 ·have h2':((m:Int)==2)=true:=by simp [h2]
  have H2:=Qa h2;clear h2;go_enter func42,ntmps42;go_wp2_with fail;refine (R8 _ _ _ _ _ 2 _ l ks _ (HN.out.below HB.out) (HK.out.below HB.out) HI.out HM.out hml hll (by omega) rfl).mono ?_;rintro e w1 ⟨rfl,hw1⟩;rw [hw1];clear hw1 w1;cases he:exprs (kd l ks) 2
  all_goals
   have A8:=Qa he;clear he;go_wp2_with fail;go_ret;exact ⟨by rw [HE.out,A8.out,decide_eq_true H2.out];rfl,HB.out⟩
 ·have h2':((m:Int)==2)=false:=by simp;omega
  have H2:=Qa h2;clear h2;go_enter func42,ntmps42;go_wp2_with fail;go_ret;exact ⟨by rw [HE.out,decide_eq_false H2.out];rfl,HB.out⟩
theorem Wf8 (a:Option Addr) (c:Nat) (l:List Nd) (ka:Option Addr) (kc m:Nat) (ks:List Int) (n:Int) (s:ByteArray) (at_:Int) (w:World) (hN:Nodes w a l) (hk:Vd .i64 w ka m (λj=>ks.getD j 0)) (hcap:m<=kc) (hI:Sr l ks) (hm:m=ks.length) (hml:m<=140737488351232) (hll:l.length<=9223372036854775807):
  Calls prog 42 #[.slice a l.length c,.agg #[.int .i64 6,.slice ka m kc,.int .i64 n,.string s,.int .i64 at_]] w λe w'=>e= .returned (.bool (Y9 6 (kd l ks)))/\Below w.heap.size w w':=by
 have HM:=Qa hm;have HN:=Qa hN;have HK:=Qa hk;have HI:=Qa hI;clear hm hN hk hI;have HB:Hid (Below w.heap.size w (w.alloc (.cells #[.int .i64 6,.slice ka m kc,.int .i64 n,.string s,.int .i64 at_] 37))):=Qag;have HE:Hid (Y9 6 (kd l ks)=(decide (m=1)&&exprs (kd l ks) 1)):=by
  show _=_
  try rw [HM.out]
  simp only [Y9,Qcm,Qgh,Rl];rfl
 by_cases h2:m=1
 ·have h2':((m:Int)==1)=true:=by simp [h2]
  have H2:=Qa h2;clear h2;go_enter func42,ntmps42;go_wp2_with fail;refine (R8 _ _ _ _ _ 1 _ l ks _ (HN.out.below HB.out) (HK.out.below HB.out) HI.out HM.out hml hll (by omega) rfl).mono ?_;rintro e w1 ⟨rfl,hw1⟩;rw [hw1];clear hw1 w1;cases he:exprs (kd l ks) 1
  all_goals
   have A8:=Qa he;clear he;go_wp2_with fail;go_ret;exact ⟨by rw [HE.out,A8.out,decide_eq_true H2.out];rfl,HB.out⟩
 ·have h2':((m:Int)==1)=false:=by simp;omega
  have H2:=Qa h2;clear h2;go_enter func42,ntmps42;go_wp2_with fail;go_ret;exact ⟨by rw [HE.out,decide_eq_false H2.out];rfl,HB.out⟩
theorem Wi9 (a:Option Addr) (c:Nat) (l:List Nd) (ka:Option Addr) (kc m:Nat) (ks:List Int) (n:Int) (s:ByteArray) (at_:Int) (w:World) (hN:Nodes w a l) (hk:Vd .i64 w ka m (λj=>ks.getD j 0)) (hcap:m<=kc) (hI:Sr l ks) (hm:m=ks.length) (hml:m<=140737488351232) (hll:l.length<=9223372036854775807):
  Calls prog 42 #[.slice a l.length c,.agg #[.int .i64 7,.slice ka m kc,.int .i64 n,.string s,.int .i64 at_]] w λe w'=>e= .returned (.bool (Y9 7 (kd l ks)))/\Below w.heap.size w w':=by
 have HM:=Qa hm;have HN:=Qa hN;have HK:=Qa hk;have HI:=Qa hI;clear hm hN hk hI;have HB:Hid (Below w.heap.size w (w.alloc (.cells #[.int .i64 7,.slice ka m kc,.int .i64 n,.string s,.int .i64 at_] 37))):=Qag;have HE:Hid (Y9 7 (kd l ks)=(decide (m=1)&&exprs (kd l ks) 1)):=by
  show _=_
  try rw [HM.out]
  simp only [Y9,Qcm,Qgh,Rl];rfl
 by_cases h2:m=1
 ·have h2':((m:Int)==1)=true:=by simp [h2]
  have H2:=Qa h2;clear h2;go_enter func42,ntmps42;go_wp2_with fail;refine (R8 _ _ _ _ _ 1 _ l ks _ (HN.out.below HB.out) (HK.out.below HB.out) HI.out HM.out hml hll (by omega) rfl).mono ?_;rintro e w1 ⟨rfl,hw1⟩;rw [hw1];clear hw1 w1;cases he:exprs (kd l ks) 1
  all_goals
   have A8:=Qa he;clear he;go_wp2_with fail;go_ret;exact ⟨by rw [HE.out,A8.out,decide_eq_true H2.out];rfl,HB.out⟩
 ·have h2':((m:Int)==1)=false:=by simp;omega
  have H2:=Qa h2;clear h2;go_enter func42,ntmps42;go_wp2_with fail;go_ret;exact ⟨by rw [HE.out,decide_eq_false H2.out];rfl,HB.out⟩
theorem Wsj (a:Option Addr) (c:Nat) (l:List Nd) (ka:Option Addr) (kc m:Nat) (ks:List Int) (n:Int) (s:ByteArray) (at_:Int) (w:World) (hN:Nodes w a l) (hk:Vd .i64 w ka m (λj=>ks.getD j 0)) (hcap:m<=kc) (hI:Sr l ks) (hm:m=ks.length) (hml:m<=140737488351232) (hll:l.length<=9223372036854775807):
  Calls prog 42 #[.slice a l.length c,.agg #[.int .i64 9,.slice ka m kc,.int .i64 n,.string s,.int .i64 at_]] w λe w'=>e= .returned (.bool (Y9 9 (kd l ks)))/\Below w.heap.size w w':=by
 have HM:=Qa hm;have HN:=Qa hN;have HK:=Qa hk;have HI:=Qa hI;clear hm hN hk hI;have HB:Hid (Below w.heap.size w (w.alloc (.cells #[.int .i64 9,.slice ka m kc,.int .i64 n,.string s,.int .i64 at_] 37))):=Qag;have HE:Hid (Y9 9 (kd l ks)=(decide (m=1)&&exprs (kd l ks) 1)):=by
  show _=_
  try rw [HM.out]
  simp only [Y9,Qcm,Qgh,Rl];rfl
 by_cases h2:m=1
 ·have h2':((m:Int)==1)=true:=by simp [h2]
  have H2:=Qa h2;clear h2;go_enter func42,ntmps42;go_wp2_with fail;refine (R8 _ _ _ _ _ 1 _ l ks _ (HN.out.below HB.out) (HK.out.below HB.out) HI.out HM.out hml hll (by omega) rfl).mono ?_;rintro e w1 ⟨rfl,hw1⟩;rw [hw1];clear hw1 w1;cases he:exprs (kd l ks) 1
  all_goals
   have A8:=Qa he;clear he;go_wp2_with fail;go_ret;exact ⟨by rw [HE.out,A8.out,decide_eq_true H2.out];rfl,HB.out⟩
 ·have h2':((m:Int)==1)=false:=by simp;omega
  have H2:=Qa h2;clear h2;go_enter func42,ntmps42;go_wp2_with fail;go_ret;exact ⟨by rw [HE.out,decide_eq_false H2.out];rfl,HB.out⟩
theorem Wfr (a:Option Addr) (c:Nat) (l:List Nd) (ka:Option Addr) (kc m:Nat) (ks:List Int) (n:Int) (s:ByteArray) (at_:Int) (w:World) (hN:Nodes w a l) (hk:Vd .i64 w ka m (λj=>ks.getD j 0)) (hcap:m<=kc) (hI:Sr l ks) (hm:m=ks.length) (hml:m<=140737488351232) (hll:l.length<=9223372036854775807):
  Calls prog 42 #[.slice a l.length c,.agg #[.int .i64 10,.slice ka m kc,.int .i64 n,.string s,.int .i64 at_]] w λe w'=>e= .returned (.bool (Y9 10 (kd l ks)))/\Below w.heap.size w w':=by
 have HM:=Qa hm;have HN:=Qa hN;have HK:=Qa hk;have HI:=Qa hI;clear hm hN hk hI;have HB:Hid (Below w.heap.size w (w.alloc (.cells #[.int .i64 10,.slice ka m kc,.int .i64 n,.string s,.int .i64 at_] 37))):=Qag;have HE:Hid (Y9 10 (kd l ks)=(decide (m=1)&&exprs (kd l ks) 1)):=by
  show _=_
  try rw [HM.out]
  simp only [Y9,Qcm,Qgh,Rl];rfl
 by_cases h2:m=1
 ·have h2':((m:Int)==1)=true:=by simp [h2]
  have H2:=Qa h2;clear h2;go_enter func42,ntmps42;go_wp2_with fail;refine (R8 _ _ _ _ _ 1 _ l ks _ (HN.out.below HB.out) (HK.out.below HB.out) HI.out HM.out hml hll (by omega) rfl).mono ?_;rintro e w1 ⟨rfl,hw1⟩;rw [hw1];clear hw1 w1;cases he:exprs (kd l ks) 1
  all_goals
   have A8:=Qa he;clear he;go_wp2_with fail;go_ret;exact ⟨by rw [HE.out,A8.out,decide_eq_true H2.out];rfl,HB.out⟩
 ·have h2':((m:Int)==1)=false:=by simp;omega
  have H2:=Qa h2;clear h2;go_enter func42,ntmps42;go_wp2_with fail;go_ret;exact ⟨by rw [HE.out,decide_eq_false H2.out];rfl,HB.out⟩
theorem Q66 (a:Option Addr) (c:Nat) (l:List Nd) (ka:Option Addr) (kc m:Nat) (ks:List Int) (n:Int) (s:ByteArray) (at_:Int) (w:World) (hN:Nodes w a l) (hk:Vd .i64 w ka m (λj=>ks.getD j 0)) (hcap:m<=kc) (hI:Sr l ks) (hm:m=ks.length) (hml:m<=140737488351232) (hll:l.length<=9223372036854775807):
  Calls prog 42 #[.slice a l.length c,.agg #[.int .i64 12,.slice ka m kc,.int .i64 n,.string s,.int .i64 at_]] w λe w'=>e= .returned (.bool (Y9 12 (kd l ks)))/\Below w.heap.size w w':=by
 have HM:=Qa hm;have HN:=Qa hN;have HK:=Qa hk;have HI:=Qa hI;clear hm hN hk hI;have HB:Hid (Below w.heap.size w (w.alloc (.cells #[.int .i64 12,.slice ka m kc,.int .i64 n,.string s,.int .i64 at_] 37))):=Qag;have HE:Hid (Y9 12 (kd l ks)=(decide (m=1)&&exprs (kd l ks) 1)):=by
  show _=_
  try rw [HM.out]
  simp only [Y9,Qcm,Qgh,Rl];rfl
 by_cases h2:m=1
 ·have h2':((m:Int)==1)=true:=by simp [h2]
  have H2:=Qa h2;clear h2;go_enter func42,ntmps42;go_wp2_with fail;refine (R8 _ _ _ _ _ 1 _ l ks _ (HN.out.below HB.out) (HK.out.below HB.out) HI.out HM.out hml hll (by omega) rfl).mono ?_;rintro e w1 ⟨rfl,hw1⟩;rw [hw1];clear hw1 w1;cases he:exprs (kd l ks) 1
  all_goals
   have A8:=Qa he;clear he;go_wp2_with fail;go_ret;exact ⟨by rw [HE.out,A8.out,decide_eq_true H2.out];rfl,HB.out⟩
 ·have h2':((m:Int)==1)=false:=by simp;omega
  have H2:=Qa h2;clear h2;go_enter func42,ntmps42;go_wp2_with fail;go_ret;exact ⟨by rw [HE.out,decide_eq_false H2.out];rfl,HB.out⟩
theorem Wm8 (a:Option Addr) (c:Nat) (l:List Nd) (ka:Option Addr) (kc m:Nat) (ks:List Int) (n:Int) (s:ByteArray) (at_:Int) (w:World) (hN:Nodes w a l) (hk:Vd .i64 w ka m (λj=>ks.getD j 0)) (hcap:m<=kc) (hI:Sr l ks) (hm:m=ks.length) (hml:m<=140737488351232) (hll:l.length<=9223372036854775807):
  Calls prog 42 #[.slice a l.length c,.agg #[.int .i64 13,.slice ka m kc,.int .i64 n,.string s,.int .i64 at_]] w λe w'=>e= .returned (.bool (Y9 13 (kd l ks)))/\Below w.heap.size w w':=by
 have HM:=Qa hm;have HN:=Qa hN;have HK:=Qa hk;have HI:=Qa hI;clear hm hN hk hI;have HB:Hid (Below w.heap.size w (w.alloc (.cells #[.int .i64 13,.slice ka m kc,.int .i64 n,.string s,.int .i64 at_] 37))):=Qag;have HE:Hid (Y9 13 (kd l ks)=(decide (m=1)&&exprs (kd l ks) 1)):=by
  show _=_
  try rw [HM.out]
  simp only [Y9,Qcm,Qgh,Rl];rfl
 by_cases h2:m=1
 ·have h2':((m:Int)==1)=true:=by simp [h2]
  have H2:=Qa h2;clear h2;go_enter func42,ntmps42;go_wp2_with fail;refine (R8 _ _ _ _ _ 1 _ l ks _ (HN.out.below HB.out) (HK.out.below HB.out) HI.out HM.out hml hll (by omega) rfl).mono ?_;rintro e w1 ⟨rfl,hw1⟩;rw [hw1];clear hw1 w1;cases he:exprs (kd l ks) 1
  all_goals
   have A8:=Qa he;clear he;go_wp2_with fail;go_ret;exact ⟨by rw [HE.out,A8.out,decide_eq_true H2.out];rfl,HB.out⟩
 ·have h2':((m:Int)==1)=false:=by simp;omega
  have H2:=Qa h2;clear h2;go_enter func42,ntmps42;go_wp2_with fail;go_ret;exact ⟨by rw [HE.out,decide_eq_false H2.out];rfl,HB.out⟩
theorem Wqa (a:Option Addr) (c:Nat) (l:List Nd) (ka:Option Addr) (kc m:Nat) (ks:List Int) (n:Int) (s:ByteArray) (at_:Int) (w:World) (hN:Nodes w a l) (hk:Vd .i64 w ka m (λj=>ks.getD j 0)) (hcap:m<=kc) (hI:Sr l ks) (hm:m=ks.length) (hml:m<=140737488351232) (hll:l.length<=9223372036854775807):
  Calls prog 42 #[.slice a l.length c,.agg #[.int .i64 20,.slice ka m kc,.int .i64 n,.string s,.int .i64 at_]] w λe w'=>e= .returned (.bool (Y9 20 (kd l ks)))/\Below w.heap.size w w':=by
 have HM:=Qa hm;have HN:=Qa hN;have HK:=Qa hk;have HI:=Qa hI;clear hm hN hk hI;have HB:Hid (Below w.heap.size w (w.alloc (.cells #[.int .i64 20,.slice ka m kc,.int .i64 n,.string s,.int .i64 at_] 37))):=Qag;have HE:Hid (Y9 20 (kd l ks)=(decide (m=1)&&exprs (kd l ks) 1)):=by
  show _=_
  try rw [HM.out]
  simp only [Y9,Qcm,Qgh,Rl];rfl
 by_cases h2:m=1
 ·have h2':((m:Int)==1)=true:=by simp [h2]
  have H2:=Qa h2;clear h2;go_enter func42,ntmps42;go_wp2_with fail;refine (R8 _ _ _ _ _ 1 _ l ks _ (HN.out.below HB.out) (HK.out.below HB.out) HI.out HM.out hml hll (by omega) rfl).mono ?_;rintro e w1 ⟨rfl,hw1⟩;rw [hw1];clear hw1 w1;cases he:exprs (kd l ks) 1
  all_goals
   have A8:=Qa he;clear he;go_wp2_with fail;go_ret;exact ⟨by rw [HE.out,A8.out,decide_eq_true H2.out];rfl,HB.out⟩
 ·have h2':((m:Int)==1)=false:=by simp;omega
  have H2:=Qa h2;clear h2;go_enter func42,ntmps42;go_wp2_with fail;go_ret;exact ⟨by rw [HE.out,decide_eq_false H2.out];rfl,HB.out⟩
theorem We1 (a:Option Addr) (c:Nat) (l:List Nd) (ka:Option Addr) (kc m:Nat) (ks:List Int) (n:Int) (s:ByteArray) (at_:Int) (w:World) (hN:Nodes w a l) (hk:Vd .i64 w ka m (λj=>ks.getD j 0)) (hcap:m<=kc) (hI:Sr l ks) (hm:m=ks.length) (hml:m<=140737488351232) (hll:l.length<=9223372036854775807):
  Calls prog 42 #[.slice a l.length c,.agg #[.int .i64 21,.slice ka m kc,.int .i64 n,.string s,.int .i64 at_]] w λe w'=>e= .returned (.bool (Y9 21 (kd l ks)))/\Below w.heap.size w w':=by
 have HM:=Qa hm;have HN:=Qa hN;have HK:=Qa hk;have HI:=Qa hI;clear hm hN hk hI;have HB:Hid (Below w.heap.size w (w.alloc (.cells #[.int .i64 21,.slice ka m kc,.int .i64 n,.string s,.int .i64 at_] 37))):=Qag;have HE:Hid (Y9 21 (kd l ks)=(decide (m=1)&&exprs (kd l ks) 1)):=by
  show _=_
  try rw [HM.out]
  simp only [Y9,Qcm,Qgh,Rl];rfl
 by_cases h2:m=1
 ·have h2':((m:Int)==1)=true:=by simp [h2]
  have H2:=Qa h2;clear h2;go_enter func42,ntmps42;go_wp2_with fail;refine (R8 _ _ _ _ _ 1 _ l ks _ (HN.out.below HB.out) (HK.out.below HB.out) HI.out HM.out hml hll (by omega) rfl).mono ?_;rintro e w1 ⟨rfl,hw1⟩;rw [hw1];clear hw1 w1;cases he:exprs (kd l ks) 1
  all_goals
   have A8:=Qa he;clear he;go_wp2_with fail;go_ret;exact ⟨by rw [HE.out,A8.out,decide_eq_true H2.out];rfl,HB.out⟩
 ·have h2':((m:Int)==1)=false:=by simp;omega
  have H2:=Qa h2;clear h2;go_enter func42,ntmps42;go_wp2_with fail;go_ret;exact ⟨by rw [HE.out,decide_eq_false H2.out];rfl,HB.out⟩
theorem Wdf (a:Option Addr) (c:Nat) (l:List Nd) (ka:Option Addr) (kc m:Nat) (ks:List Int) (n:Int) (s:ByteArray) (at_:Int) (w:World) (hN:Nodes w a l) (hk:Vd .i64 w ka m (λj=>ks.getD j 0)) (hcap:m<=kc) (hI:Sr l ks) (hm:m=ks.length) (hml:m<=140737488351232) (hll:l.length<=9223372036854775807):
  Calls prog 42 #[.slice a l.length c,.agg #[.int .i64 11,.slice ka m kc,.int .i64 n,.string s,.int .i64 at_]] w λe w'=>e= .returned (.bool (Y9 11 (kd l ks)))/\Below w.heap.size w w':=by
 have HM:=Qa hm;have HN:=Qa hN;have HK:=Qa hk;have HI:=Qa hI;clear hm hN hk hI;have HB:Hid (Below w.heap.size w (w.alloc (.cells #[.int .i64 11,.slice ka m kc,.int .i64 n,.string s,.int .i64 at_] 37))):=Qag;have HE:Hid (Y9 11 (kd l ks)=(decide (m<=8)&&exprs (kd l ks) m)):=by
  show _=_
  try rw [HM.out]
  simp only [Y9,Qcm,Qgh,Rl];rfl
 by_cases h2:m<=8
 ·have H2:=Qa h2;go_enter func42,ntmps42;go_wp2_with fail;refine (R8 _ _ _ _ _ m _ l ks _ (HN.out.below HB.out) (HK.out.below HB.out) HI.out HM.out hml hll (by omega) rfl).mono ?_;rintro e w1 ⟨rfl,hw1⟩;rw [hw1];clear hw1 w1;cases he:exprs (kd l ks) m
  all_goals
   have A8:=Qa he;clear he;go_wp2_with fail;go_ret;exact ⟨by rw [HE.out,A8.out,decide_eq_true H2.out];rfl,HB.out⟩
 ·have H2:=Qa h2;go_enter func42,ntmps42;go_wp2_with fail;go_ret;exact ⟨by rw [HE.out,decide_eq_false H2.out];rfl,HB.out⟩
theorem Wqj (a:Option Addr) (c:Nat) (l:List Nd) (ka:Option Addr) (kc m:Nat) (ks:List Int) (n:Int) (s:ByteArray) (at_:Int) (w:World) (hN:Nodes w a l) (hk:Vd .i64 w ka m (λj=>ks.getD j 0)) (hcap:m<=kc) (hI:Sr l ks) (hm:m=ks.length) (hml:m<=140737488351232) (hll:l.length<=9223372036854775807):
  Calls prog 42 #[.slice a l.length c,.agg #[.int .i64 15,.slice ka m kc,.int .i64 n,.string s,.int .i64 at_]] w λe w'=>e= .returned (.bool (Y9 15 (kd l ks)))/\Below w.heap.size w w':=by
 have HM:=Qa hm;have HN:=Qa hN;have HK:=Qa hk;have HI:=Qa hI;clear hm hN hk hI;have HB:Hid (Below w.heap.size w (w.alloc (.cells #[.int .i64 15,.slice ka m kc,.int .i64 n,.string s,.int .i64 at_] 37))):=Qag;have HE:Hid (Y9 15 (kd l ks)=(exprs (kd l ks) 1&&decide (2<=m)&&Jd (kd l (ks.drop 1)) 23 2)):=by
  show _=_
  try rw [HM.out]
  simp only [Y9,Qcm,Qgh,Rl];rfl
 go_enter func42,ntmps42;go_wp2_with fail;refine (R8 _ _ _ _ _ 1 _ l ks _ (HN.out.below HB.out) (HK.out.below HB.out) HI.out HM.out hml hll (by omega) rfl).mono ?_;rintro e w1 ⟨rfl,hw1⟩;rw [hw1];clear hw1 w1;cases he:exprs (kd l ks) 1 with
 |false=>
  have A8:=Qa he;clear he;go_wp2_with fail;go_ret;exact ⟨by rw [HE.out,A8.out];rfl,HB.out⟩
 |true=>
  have A8:=Qa he;clear he;by_cases h2:2<=m
  ·have H2:=Qa h2;skip;go_wp2_with fail;refine (Qd6 _ _ _ _ _ 2 _ _ l (ks.drop 1) _ (HN.out.below HB.out) (Wf5 (HK.out.below HB.out)) (HI.out.drop 1) (by rw [Vf,<-HM.out]) (by omega) hll (by omega) rfl).mono ?_;rintro e w1 ⟨rfl,hw1⟩;rw [hw1];clear hw1 w1;cases he:Jd (kd l (ks.drop 1)) 23 2
   all_goals
    have G7:=Qa he;clear he;go_wp2_with fail;go_ret;exact ⟨by rw [HE.out,A8.out,decide_eq_true H2.out,G7.out];rfl,HB.out⟩
  ·have H2:=Qa h2;skip;go_wp2_with fail;go_ret;exact ⟨by rw [HE.out,A8.out,decide_eq_false H2.out];rfl,HB.out⟩
theorem Wk6 (a:Option Addr) (c:Nat) (l:List Nd) (ka:Option Addr) (kc m:Nat) (ks:List Int) (n:Int) (s:ByteArray) (at_:Int) (w:World) (hN:Nodes w a l) (hk:Vd .i64 w ka m (λj=>ks.getD j 0)) (hcap:m<=kc) (hI:Sr l ks) (hm:m=ks.length) (hml:m<=140737488351232) (hll:l.length<=9223372036854775807):
  Calls prog 42 #[.slice a l.length c,.agg #[.int .i64 16,.slice ka m kc,.int .i64 n,.string s,.int .i64 at_]] w λe w'=>e= .returned (.bool (Y9 16 (kd l ks)))/\Below w.heap.size w w':=by
 have HM:=Qa hm;have HN:=Qa hN;have HK:=Qa hk;have HI:=Qa hI;clear hm hN hk hI;have HB:Hid (Below w.heap.size w (w.alloc (.cells #[.int .i64 16,.slice ka m kc,.int .i64 n,.string s,.int .i64 at_] 37))):=Qag;have HE:Hid (Y9 16 (kd l ks)=(exprs (kd l ks) 1&&decide (m=2)&&Jd (kd l (ks.drop 1)) 23 1)):=by
  show _=_
  try rw [HM.out]
  simp only [Y9,Qcm,Qgh,Rl];rfl
 go_enter func42,ntmps42;go_wp2_with fail;refine (R8 _ _ _ _ _ 1 _ l ks _ (HN.out.below HB.out) (HK.out.below HB.out) HI.out HM.out hml hll (by omega) rfl).mono ?_;rintro e w1 ⟨rfl,hw1⟩;rw [hw1];clear hw1 w1;cases he:exprs (kd l ks) 1 with
 |false=>
  have A8:=Qa he;clear he;go_wp2_with fail;go_ret;exact ⟨by rw [HE.out,A8.out];rfl,HB.out⟩
 |true=>
  have A8:=Qa he;clear he;by_cases h2:m=2
  ·have h2':((m:Int)==2)=true:=(by simp [h2]);have hge:2<=m:=(by omega);have H2:=Qa h2;clear h2;go_wp2_with fail;refine (Qd6 _ _ _ _ _ 1 _ _ l (ks.drop 1) _ (HN.out.below HB.out) (Wf5 (HK.out.below HB.out)) (HI.out.drop 1) (by rw [Vf,<-HM.out]) (by omega) hll (by omega) rfl).mono ?_;rintro e w1 ⟨rfl,hw1⟩;rw [hw1];clear hw1 w1;cases he:Jd (kd l (ks.drop 1)) 23 1
   all_goals
    have G7:=Qa he;clear he;go_wp2_with fail;go_ret;exact ⟨by rw [HE.out,A8.out,decide_eq_true H2.out,G7.out];rfl,HB.out⟩
  ·have h2':((m:Int)==2)=false:=(by simp;omega);have H2:=Qa h2;clear h2;go_wp2_with fail;go_ret;exact ⟨by rw [HE.out,A8.out,decide_eq_false H2.out];rfl,HB.out⟩
theorem Qyp (a:Option Addr) (c:Nat) (l:List Nd) (ka:Option Addr) (kc m:Nat) (ks:List Int) (n:Int) (s:ByteArray) (at_:Int) (w:World) (hN:Nodes w a l) (hk:Vd .i64 w ka m (λj=>ks.getD j 0)) (hcap:m<=kc) (hI:Sr l ks) (hm:m=ks.length) (hml:m<=140737488351232) (hll:l.length<=9223372036854775807):
  Calls prog 42 #[.slice a l.length c,.agg #[.int .i64 17,.slice ka m kc,.int .i64 n,.string s,.int .i64 at_]] w λe w'=>e= .returned (.bool (Y9 17 (kd l ks)))/\Below w.heap.size w w':=by
 have HM:=Qa hm;have HN:=Qa hN;have HK:=Qa hk;have HI:=Qa hI;clear hm hN hk hI;have HB:Hid (Below w.heap.size w (w.alloc (.cells #[.int .i64 17,.slice ka m kc,.int .i64 n,.string s,.int .i64 at_] 37))):=Qag;have HE:Hid (Y9 17 (kd l ks)=(exprs (kd l ks) 2&&decide (m=3)&&Jd (kd l (ks.drop 2)) 23 1)):=by
  show _=_
  try rw [HM.out]
  simp only [Y9,Qcm,Qgh,Rl];rfl
 go_enter func42,ntmps42;go_wp2_with fail;refine (R8 _ _ _ _ _ 2 _ l ks _ (HN.out.below HB.out) (HK.out.below HB.out) HI.out HM.out hml hll (by omega) rfl).mono ?_;rintro e w1 ⟨rfl,hw1⟩;rw [hw1];clear hw1 w1;cases he:exprs (kd l ks) 2 with
 |false=>
  have A8:=Qa he;clear he;go_wp2_with fail;go_ret;exact ⟨by rw [HE.out,A8.out];rfl,HB.out⟩
 |true=>
  have A8:=Qa he;clear he;by_cases h2:m=3
  ·have h2':((m:Int)==3)=true:=(by simp [h2]);have hge:3<=m:=(by omega);have H2:=Qa h2;clear h2;go_wp2_with fail;refine (Qd6 _ _ _ _ _ 1 _ _ l (ks.drop 2) _ (HN.out.below HB.out) (Wf5 (HK.out.below HB.out)) (HI.out.drop 2) (by rw [Vf,<-HM.out]) (by omega) hll (by omega) rfl).mono ?_;rintro e w1 ⟨rfl,hw1⟩;rw [hw1];clear hw1 w1;cases he:Jd (kd l (ks.drop 2)) 23 1
   all_goals
    have G7:=Qa he;clear he;go_wp2_with fail;go_ret;exact ⟨by rw [HE.out,A8.out,decide_eq_true H2.out,G7.out];rfl,HB.out⟩
  ·have h2':((m:Int)==3)=false:=(by simp;omega);have H2:=Qa h2;clear h2;go_wp2_with fail;go_ret;exact ⟨by rw [HE.out,A8.out,decide_eq_false H2.out];rfl,HB.out⟩
theorem Wr4 (a:Option Addr) (c:Nat) (l:List Nd) (ka:Option Addr) (kc m:Nat) (ks:List Int) (n:Int) (s:ByteArray) (at_:Int) (w:World) (hN:Nodes w a l) (hk:Vd .i64 w ka m (λj=>ks.getD j 0)) (hcap:m<=kc) (hI:Sr l ks) (hm:m=ks.length) (hml:m<=140737488351232) (hll:l.length<=9223372036854775807):
  Calls prog 42 #[.slice a l.length c,.agg #[.int .i64 22,.slice ka m kc,.int .i64 n,.string s,.int .i64 at_]] w λe w'=>e= .returned (.bool (Y9 22 (kd l ks)))/\Below w.heap.size w w':=by
 have HM:=Qa hm;have HN:=Qa hN;have HK:=Qa hk;have HI:=Qa hI;clear hm hN hk hI;have HB:Hid (Below w.heap.size w (w.alloc (.cells #[.int .i64 22,.slice ka m kc,.int .i64 n,.string s,.int .i64 at_] 37))):=Qag;have HE:Hid (Y9 22 (kd l ks)=(decide (m=1)&&decide ((kd l ks).getD 0 0=11))):=by
  show _=_
  try rw [HM.out]
  simp only [Y9,Qcm,Qgh,Rl];rfl
 by_cases h2:m=1
 ·have h2':((m:Int)==1)=true:=by simp [h2]
  obtain ⟨kb,ko,lb,lo,q,rfl,rfl,hc,hq,⟨h5,_⟩,hkd,_⟩:=Won (j:=0) HN.out HK.out HI.out HM.out (by omega);have hb5:Hid (lb<w.heap.size):=Wp1 h5;have hbk:Hid (kb<w.heap.size):=Wp1 hc;have h5':=(World.cell?_alloc_lt w (.cells #[.int .i64 22,.slice (some ⟨kb,ko,none⟩) m kc,.int .i64 n,.string s,.int .i64 at_] 37) ⟨lb,lo+q*5,none⟩ hb5.out).trans h5;have hc':=(World.cell?_alloc_lt w (.cells #[.int .i64 22,.slice (some ⟨kb,ko,none⟩) m kc,.int .i64 n,.string s,.int .i64 at_] 37) ⟨kb,ko+0,none⟩ hbk.out).trans hc;rw [Nat.add_zero]at hc';obtain ⟨Z,hZ⟩:=Qb ((nd l q).kind);rw [<-hZ]at h5' hkd;have Vx:=Qa hkd;have H2:=Qa h2;have hm1:1<=m:=by omega
  clear hZ hkd h2 h5 hc;by_cases he:Z=11
  ·have he':(Z==11)=true:=(by simp [he]);have A8:=Qa he;clear he;go_enter func42,ntmps42;go_wp2_with fail;go_ret;exact ⟨by rw [HE.out,decide_eq_true H2.out,Vx.out,decide_eq_true A8.out];rfl,HB.out⟩
  ·have he':(Z==11)=false:=(by simp [he]);have A8:=Qa he;clear he;go_enter func42,ntmps42;go_wp2_with fail;go_ret;exact ⟨by rw [HE.out,decide_eq_true H2.out,Vx.out,decide_eq_false A8.out];rfl,HB.out⟩
 ·have h2':((m:Int)==1)=false:=by simp;omega
  have H2:=Qa h2;clear h2;go_enter func42,ntmps42;go_wp2_with fail;go_ret;exact ⟨by rw [HE.out,decide_eq_false H2.out];rfl,HB.out⟩
theorem Wch {ks:List Int} {k:Nat} (hk:k<ks.length) (h:Jv (ks.getD k 0)=false):ks.all Jv=false:=by rw [List.all_eq_false];refine ⟨ks[k],F5 hk,?_⟩;rw [Yc,Y3 hk]at h;have h':Jv ks[k]=false:=h;simp [h']
theorem Wd1 {ks:List Int} (h: ∀k,k<ks.length->Jv (ks.getD k 0)=true):ks.all Jv=true:=by rw [Ou];intro x hx;obtain ⟨k,hk,rfl⟩:=List.mem_iff_getElem.1 hx;have:=h k hk;rw [Yc,Y3 hk]at this;exact this
theorem Qxe (a:Option Addr) (c:Nat) (l:List Nd) (ka:Option Addr) (kc m:Nat) (ks:List Int) (n:Int) (s:ByteArray) (at_:Int) (w:World) (hN:Nodes w a l) (hk:Vd .i64 w ka m (λj=>ks.getD j 0)) (hcap:m<=kc) (hI:Sr l ks) (hm:m=ks.length) (hml:m<=140737488351232) (hll:l.length<=9223372036854775807):
  Calls prog 42 #[.slice a l.length c,.agg #[.int .i64 23,.slice ka m kc,.int .i64 n,.string s,.int .i64 at_]] w λe w'=>e= .returned (.bool (Y9 23 (kd l ks)))/\Below w.heap.size w w':=by
 have HM:=Qa hm;have HN:=Qa hN;have HK:=Qa hk;have HI:=Qa hI;clear hm hN hk hI;have HB:Hid (Below w.heap.size w (w.alloc (.cells #[.int .i64 23,.slice ka m kc,.int .i64 n,.string s,.int .i64 at_] 37))):=Qag;have HE:Hid (Y9 23 (kd l ks)=((kd l ks).all Jv)):=by
  show _=_
  try rw [HM.out]
  simp only [Y9,Qcm,Qgh,Rl];rfl
 have HL:Hid ((kd l ks).length=m):=by show _=m;rw [Qcm,<-HM.out]
 obtain ⟨B,hB⟩:=Qb (Y9 23 (kd l ks));rw [<-hB];have Yx:Hid (B=(kd l ks).all Jv):=hB.trans HE.out;clear hB HE;go_enter func42,ntmps42;go_wp2_with fail;obtain ⟨w1,hw1⟩:=Qb (w.alloc (.cells #[.int .i64 23,.slice ka m kc,.int .i64 n,.string s,.int .i64 at_] 37));have HB1:Hid (Below w.heap.size w w1):=by rw [hw1];exact HB.out
 have HN1:=Qa (HN.out.below HB1.out);have Zh:=Qa (HK.out.below HB1.out);rw [<-hw1];clear hw1 HB;go_loop [6] (λi=> ∃k:Nat,k<=m/\i= .int .i64 (k:Int)/\Hid (∀j,j<k->Jv ((kd l ks).getD j 0)=true)) (λi=>m-(intOf i).toNat)
 case atStart=>exact ⟨0,by omega,rfl,λj hj=>by omega⟩
 case round=>
  obtain ⟨k,hk,rfl,hE⟩:=hrel;by_cases hkn:k<m
  ·obtain ⟨kb,ko,lb,lo,q,rfl,rfl,hc,hq,⟨h5,_⟩,hkd,_⟩:=Won (j:=k) HN1.out Zh.out HI.out HM.out (by omega);obtain ⟨Z,hZ⟩:=Qb ((nd l q).kind);rw [<-hZ]at h5 hkd;have Vx:=Qa hkd;clear hZ hkd;go_wp2_with fail;refine (Wry Z w1).mono ?_;rintro e w2 ⟨rfl,hw2⟩;rw [hw2];clear hw2 w2;cases he:Jv Z with
   |true=>
    have HE:=Qa he;clear he;go_wp2_with fail;go_round
    case rel=>exact ⟨k+1,by omega,by go_num,λj hj=>by
     rcases V7 j k with h |h
     ·exact hE.out j h
     ·rw [show j=k by omega,Vx.out];exact HE.out⟩
    case measure=>simp [intOf];omega
   |false=>
    have HE:=Qa he;clear he;go_wp2_with fail;go_ret;exact ⟨by rw [Yx.out,Wch (by rw [HL.out];exact hkn) (by rw [Vx.out];exact HE.out)];rfl,HB1.out⟩
  ·obtain rfl:k=m:=(by omega);go_wp2_with fail;go_ret;exact ⟨by rw [Yx.out,Wd1 (λj hj=>hE.out j (by rw [HL.out]at hj;exact hj))];rfl,HB1.out⟩
theorem Wbl (a:Option Addr) (c:Nat) (l:List Nd) (ka:Option Addr) (kc m:Nat) (ks:List Int) (n:Int) (s:ByteArray) (at_:Int) (w:World) (hN:Nodes w a l) (hk:Vd .i64 w ka m (λj=>ks.getD j 0)) (hcap:m<=kc) (hI:Sr l ks) (hm:m=ks.length) (hml:m<=140737488351232) (hll:l.length<=9223372036854775807):
  Calls prog 42 #[.slice a l.length c,.agg #[.int .i64 25,.slice ka m kc,.int .i64 n,.string s,.int .i64 at_]] w λe w'=>e= .returned (.bool (Y9 25 (kd l ks)))/\Below w.heap.size w w':=by
 have HM:=Qa hm;have HN:=Qa hN;have HK:=Qa hk;have HI:=Qa hI;clear hm hN hk hI;have HB:Hid (Below w.heap.size w (w.alloc (.cells #[.int .i64 25,.slice ka m kc,.int .i64 n,.string s,.int .i64 at_] 37))):=Qag;have HE:Hid (Y9 25 (kd l ks)=(decide (1<=m)&&Jd (kd l (ks.take (m-1))) 24 8&&decide ((kd l ks).getD (m-1) 0=23))):=by
  show _=_
  try rw [HM.out]
  simp only [Y9,Qcm,Qgh,Rl];rfl
 by_cases h2:1<=m
 ·have H2:=Qa h2;obtain ⟨kb,ko,lb,lo,q,rfl,rfl,hc,hq,⟨h5,_⟩,hkd,_⟩:=Won (j:=m-1) HN.out HK.out HI.out HM.out (by omega);have hb5:Hid (lb<w.heap.size):=Wp1 h5;have hbk:Hid (kb<w.heap.size):=Wp1 hc;obtain ⟨p,hp⟩: ∃p,m=p+1:=⟨m-1,by omega⟩;subst hp;rw [Nat.add_sub_cancel]at hc hkd HE;have h5':=(World.cell?_alloc_lt w (.cells #[.int .i64 25,.slice (some ⟨kb,ko,none⟩) (p+1) kc,.int .i64 n,.string s,.int .i64 at_] 37) ⟨lb,lo+q*5,none⟩ hb5.out).trans h5;have hc':=(World.cell?_alloc_lt w (.cells #[.int .i64 25,.slice (some ⟨kb,ko,none⟩) (p+1) kc,.int .i64 n,.string s,.int .i64 at_] 37) ⟨kb,ko+p,none⟩ hbk.out).trans hc;obtain ⟨Z,hZ⟩:=Qb ((nd l q).kind);rw [<-hZ]at h5' hkd;have Vx:=Qa hkd;clear hZ hkd h5 hc;go_enter func42,ntmps42;go_wp2_with fail;refine (Qd6 _ _ _ _ _ 8 _ _ l (ks.take p) _ (HN.out.below HB.out) (Wo3 (HK.out.below HB.out) (by omega)) (HI.out.take p) (by rw [F9,<-HM.out];omega) (by omega) hll (by omega) rfl).mono ?_;rintro e w1 ⟨rfl,hw1⟩;rw [hw1];clear hw1 w1;cases he:Jd (kd l (ks.take p)) 24 8 with
  |false=>
   have G7:=Qa he;clear he;go_wp2_with fail;go_ret;exact ⟨by rw [HE.out,G7.out];simp,HB.out⟩
  |true=>
   have G7:=Qa he;clear he;by_cases hz:Z=23
   ·have hz':(Z==23)=true:=(by simp [hz]);have A8:=Qa hz;clear hz;go_wp2_with fail;go_ret;exact ⟨by rw [HE.out,G7.out,Vx.out,decide_eq_true A8.out];simp,HB.out⟩
   ·have hz':(Z==23)=false:=(by simp [hz]);have A8:=Qa hz;clear hz;go_wp2_with fail;go_ret;exact ⟨by rw [HE.out,G7.out,Vx.out,decide_eq_false A8.out];simp,HB.out⟩
 ·have H2:=Qa h2;go_enter func42,ntmps42;go_wp2_with fail;go_ret;exact ⟨by rw [HE.out,decide_eq_false H2.out];rfl,HB.out⟩
theorem Q1p (a:Option Addr) (c:Nat) (l:List Nd) (ka:Option Addr) (kc m:Nat) (ks:List Int) (n:Int) (s:ByteArray) (at_:Int) (w:World) (hN:Nodes w a l) (hk:Vd .i64 w ka m (λj=>ks.getD j 0)) (hcap:m<=kc) (hI:Sr l ks) (hm:m=ks.length) (hml:m<=140737488351232) (hll:l.length<=9223372036854775807):
  Calls prog 42 #[.slice a l.length c,.agg #[.int .i64 26,.slice ka m kc,.int .i64 n,.string s,.int .i64 at_]] w λe w'=>e= .returned (.bool (Y9 26 (kd l ks)))/\Below w.heap.size w w':=by
 have HM:=Qa hm;have HN:=Qa hN;have HK:=Qa hk;have HI:=Qa hI;clear hm hN hk hI;have HB:Hid (Below w.heap.size w (w.alloc (.cells #[.int .i64 26,.slice ka m kc,.int .i64 n,.string s,.int .i64 at_] 37))):=Qag;have HE:Hid (Y9 26 (kd l ks)=(Jd (kd l ks) 25 200)):=by
  show _=_
  try rw [HM.out]
  simp only [Y9,Qcm,Qgh,Rl];rfl
 go_enter func42,ntmps42;go_wp2_with fail;refine (Qd6 _ _ _ _ _ 200 _ _ l ks _ (HN.out.below HB.out) (HK.out.below HB.out) HI.out HM.out hml hll (by omega) rfl).mono ?_;rintro e w1 ⟨rfl,hw1⟩;rw [hw1];clear hw1 w1;obtain ⟨B,hB⟩:=Qb (Jd (kd l ks) 25 200);rw [<-hB]at HE ⊢;clear hB;go_wp2_with fail;go_ret;exact ⟨by rw [HE.out];rfl,HB.out⟩
theorem Wr6 (K:Int) (a:Option Addr) (c:Nat) (l:List Nd) (ka:Option Addr) (kc m:Nat) (ks:List Int) (n:Int) (s:ByteArray) (at_:Int) (w:World) (hN:Nodes w a l) (hk:Vd .i64 w ka m (λj=>ks.getD j 0)) (hcap:m<=kc) (hI:Sr l ks) (hm:m=ks.length) (hml:m<=140737488351232) (hll:l.length<=9223372036854775807) (hK:K≠5/\K≠8/\K≠14/\K≠6/\K≠7/\K≠9/\K≠10/\K≠12/\K≠13/\K≠20/\K≠21/\K≠11/\K≠15/\K≠16/\K≠17/\K≠22/\K≠23/\K≠25/\K≠26):
  Calls prog 42 #[.slice a l.length c,.agg #[.int .i64 K,.slice ka m kc,.int .i64 n,.string s,.int .i64 at_]] w λe w'=>e= .returned (.bool (Y9 K (kd l ks)))/\Below w.heap.size w w':=by
 have HM:=Qa hm;have HN:=Qa hN;have HK:=Qa hk;have HI:=Qa hI;clear hm hN hk hI;have HB:Hid (Below w.heap.size w (w.alloc (.cells #[.int .i64 K,.slice ka m kc,.int .i64 n,.string s,.int .i64 at_] 37))):=Qag;have HE:Hid (Y9 K (kd l ks)=decide (m=0)):=by show _=_;rw [HM.out];unfold Y9;rw [Qcm];simp [hK]
 obtain ⟨g5,g8,g14,g6,g7,g9,g10,g12,g13,g20,g21,g11,g15,g16,g17,g22,g23,g25,g26⟩:=hK;have e5:(K==5)=false:=by simpa using g5
 have e8:(K==8)=false:=by simpa using g8
 have e14:(K==14)=false:=by simpa using g14
 have e6:(K==6)=false:=by simpa using g6
 have e7:(K==7)=false:=by simpa using g7
 have e9:(K==9)=false:=by simpa using g9
 have e10:(K==10)=false:=by simpa using g10
 have e12:(K==12)=false:=by simpa using g12
 have e13:(K==13)=false:=by simpa using g13
 have e20:(K==20)=false:=by simpa using g20
 have e21:(K==21)=false:=by simpa using g21
 have e11:(K==11)=false:=by simpa using g11
 have e15:(K==15)=false:=by simpa using g15
 have e16:(K==16)=false:=by simpa using g16
 have e17:(K==17)=false:=by simpa using g17
 have e22:(K==22)=false:=by simpa using g22
 have e23:(K==23)=false:=by simpa using g23
 have e25:(K==25)=false:=by simpa using g25
 have e26:(K==26)=false:=by simpa using g26
 clear g5 g8 g14 g6 g7 g9 g10 g12 g13 g20 g21 g11 g15 g16 g17 g22 g23 g25 g26;by_cases h2:m=0
 ·have h2':((m:Int)==0)=true:=by simp [h2]
  have H2:=Qa h2;clear h2;go_enter func42,ntmps42;go_wp2_with fail;go_ret;exact ⟨by rw [HE.out,decide_eq_true H2.out];rfl,HB.out⟩
 ·have h2':((m:Int)==0)=false:=by simp;omega
  have H2:=Qa h2;clear h2;go_enter func42,ntmps42;go_wp2_with fail;go_ret;exact ⟨by rw [HE.out,decide_eq_false H2.out];rfl,HB.out⟩
theorem Q0c (a:Option Addr) (c:Nat) (l:List Nd) (x:Nd) (w:World) (hN:Nodes w a l) (hx:Ok w x) (hI:Sr l x.kids) (hll:l.length<=9223372036854775807):
  Calls prog 42 #[.slice a l.length c,x.v] w λe w'=>e= .returned (.bool (Y9 x.kind (kk l x)))/\Below w.heap.size w w':=by
 obtain ⟨K,ka,kc,ks,n,s,at_⟩:=x;have h1:=hx.rows;have h2:=hx.cap;have h3:=hx.len;show Calls prog 42 #[.slice a l.length c,.agg #[.int .i64 K,.slice ka ks.length kc,.int .i64 n,.string s,.int .i64 at_]] w λe w'=>e= .returned (.bool (Y9 K (kd l ks)))/\Below w.heap.size w w';by_cases g5:K=5
 ·subst g5;exact Wal a c l ka kc ks.length ks n s at_ w hN h1 h2 hI rfl h3 hll
 by_cases g8:K=8
 ·subst g8;exact Qzz a c l ka kc ks.length ks n s at_ w hN h1 h2 hI rfl h3 hll
 by_cases g14:K=14
 ·subst g14;exact Q7k a c l ka kc ks.length ks n s at_ w hN h1 h2 hI rfl h3 hll
 by_cases g6:K=6
 ·subst g6;exact Wf8 a c l ka kc ks.length ks n s at_ w hN h1 h2 hI rfl h3 hll
 by_cases g7:K=7
 ·subst g7;exact Wi9 a c l ka kc ks.length ks n s at_ w hN h1 h2 hI rfl h3 hll
 by_cases g9:K=9
 ·subst g9;exact Wsj a c l ka kc ks.length ks n s at_ w hN h1 h2 hI rfl h3 hll
 by_cases g10:K=10
 ·subst g10;exact Wfr a c l ka kc ks.length ks n s at_ w hN h1 h2 hI rfl h3 hll
 by_cases g12:K=12
 ·subst g12;exact Q66 a c l ka kc ks.length ks n s at_ w hN h1 h2 hI rfl h3 hll
 by_cases g13:K=13
 ·subst g13;exact Wm8 a c l ka kc ks.length ks n s at_ w hN h1 h2 hI rfl h3 hll
 by_cases g20:K=20
 ·subst g20;exact Wqa a c l ka kc ks.length ks n s at_ w hN h1 h2 hI rfl h3 hll
 by_cases g21:K=21
 ·subst g21;exact We1 a c l ka kc ks.length ks n s at_ w hN h1 h2 hI rfl h3 hll
 by_cases g11:K=11
 ·subst g11;exact Wdf a c l ka kc ks.length ks n s at_ w hN h1 h2 hI rfl h3 hll
 by_cases g15:K=15
 ·subst g15;exact Wqj a c l ka kc ks.length ks n s at_ w hN h1 h2 hI rfl h3 hll
 by_cases g16:K=16
 ·subst g16;exact Wk6 a c l ka kc ks.length ks n s at_ w hN h1 h2 hI rfl h3 hll
 by_cases g17:K=17
 ·subst g17;exact Qyp a c l ka kc ks.length ks n s at_ w hN h1 h2 hI rfl h3 hll
 by_cases g22:K=22
 ·subst g22;exact Wr4 a c l ka kc ks.length ks n s at_ w hN h1 h2 hI rfl h3 hll
 by_cases g23:K=23
 ·subst g23;exact Qxe a c l ka kc ks.length ks n s at_ w hN h1 h2 hI rfl h3 hll
 by_cases g25:K=25
 ·subst g25;exact Wbl a c l ka kc ks.length ks n s at_ w hN h1 h2 hI rfl h3 hll
 by_cases g26:K=26
 ·subst g26;exact Q1p a c l ka kc ks.length ks n s at_ w hN h1 h2 hI rfl h3 hll
 exact Wr6 K a c l ka kc ks.length ks n s at_ w hN h1 h2 hI rfl h3 hll ⟨g5,g8,g14,g6,g7,g9,g10,g12,g13,g20,g21,g11,g15,g16,g17,g22,g23,g25,g26⟩
end
end Go.Proofs.YtdncpkkhkbijfaaGreatDoor
