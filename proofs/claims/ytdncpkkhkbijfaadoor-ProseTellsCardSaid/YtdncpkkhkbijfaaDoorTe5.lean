import Derived.Test.YtdncpkkhkbijfaaDoorTe3
import Derived.Lib.LaidTab
import Derived.Lib.Tables
open Go.Proofs.Tryd
set_option linter.all false
set_option maxHeartbeats 0
set_option maxRecDepth 100000
namespace Go.Proofs.YtdncpkkhkbijfaaDoor
section
open Go.RowKit
mutual
def flat {H:Type}:DataW H->List Value
 | .lit (.int k z)=>[.int k z]
 | .lit (.bool b)=>[.bool b]
 | .lit (.string l)=>[.string ⟨l.toArray⟩]
 | .agg ds=>Dt ds
 |_=>[]
def Dt {H:Type}:List (DataW H)->List Value
 | []=>[]
 |d::r=>flat d++Dt r
end
def Gh:Array Value:=(flat (H:=Unit) Rows.laid_balustrade_tree_rows).toArray
def Qao:Array Value:=(flat (H:=Unit) Rows.laid_balustrade_tree_limits).toArray
def E9:Array Value:=(flat (H:=Unit) Rows.laid_balustrade_tree_makings).toArray
def Qfd:Array Value:=(flat (H:=Unit) Rows.laid_balustrade_tree_signs).toArray
def Qds:Array Value:=(flat (H:=Unit) Rows.laid_balustrade_tree_kindWords).toArray
def Qgp:Array Value:=(flat (H:=Unit) Rows.laid_balustrade_tree_keyWords).toArray
def txt (b:List UInt8):Value:=.string ⟨b.toArray⟩
def isL:List Nat:=[0,1,1,1,1,1,1,1,1,1,1,9,2,2,2,2,2,2,2,2,2,2,2,4,16,32,0]
def Qpi:List Nat:=[0,1,2,0,0,3,0,0,0,0,0,0,0,0,0,0,0,0,0,0,0,0,0,0,4,4,0]
def mkL:List Nat:=[0,0,0,0,0,2,1,1,2,1,1,3,1,1,2,4,5,6,0,0,1,1,7,8,0,9,10]
def Qqr:List Bool:=[false,false,false,false,true,false,false,false,false,false,false,true,true,true,true,false,false,true,false,false,false,false,false,false,true,true,false]
def Eb (k:Nat):Nat:=isL.getD k 0
def numOf (k:Nat):Nat:=Qpi.getD k 0
def F8 (k:Nat):Nat:=mkL.getD k 0
def Ew (k:Nat):Bool:=Qqr.getD k false
def M8 (k:Nat):List UInt8:=Qad.getD k []
def Qip:List (Int×Int):=[(0,0),(0,9223372036854775807),(0,1),(1,16),(1,3)]
def lim (j:Nat):Int×Int:=Qip.getD j (0,0)
structure Pt where
 is:Nat
 lo:Int
 hi:Int
def Te:List (Pt×Pt):=[(⟨0,0,0⟩,⟨0,0,0⟩),(⟨1,1,1⟩,⟨0,0,0⟩),(⟨1,2,2⟩,⟨0,0,0⟩),(⟨1,0,8⟩,⟨0,0,0⟩),(⟨1,1,1⟩,⟨4,1,2⟩),(⟨1,1,1⟩,⟨4,1,1⟩),(⟨1,2,2⟩,⟨4,1,1⟩),(⟨8,1,1⟩,⟨0,0,0⟩),(⟨2,0,9223372036854775807⟩,⟨0,0,0⟩),(⟨16,0,8⟩,⟨4,1,1⟩),(⟨32,0,200⟩,⟨0,0,0⟩)]
def Zh (j:Nat):Pt×Pt:=Te.getD j (⟨0,0,0⟩,⟨0,0,0⟩)
theorem Qdc: ∀k,k<27->Gh[k*5]? =some (txt (M8 k))
 | 0,_=>by kernel_rfl
 | 1,_=>by kernel_rfl
 | 2,_=>by kernel_rfl
 | 3,_=>by kernel_rfl
 | 4,_=>by kernel_rfl
 | 5,_=>by kernel_rfl
 | 6,_=>by kernel_rfl
 | 7,_=>by kernel_rfl
 | 8,_=>by kernel_rfl
 | 9,_=>by kernel_rfl
 | 10,_=>by kernel_rfl
 | 11,_=>by kernel_rfl
 | 12,_=>by kernel_rfl
 | 13,_=>by kernel_rfl
 | 14,_=>by kernel_rfl
 | 15,_=>by kernel_rfl
 | 16,_=>by kernel_rfl
 | 17,_=>by kernel_rfl
 | 18,_=>by kernel_rfl
 | 19,_=>by kernel_rfl
 | 20,_=>by kernel_rfl
 | 21,_=>by kernel_rfl
 | 22,_=>by kernel_rfl
 | 23,_=>by kernel_rfl
 | 24,_=>by kernel_rfl
 | 25,_=>by kernel_rfl
 | 26,_=>by kernel_rfl
 |n+27,h=>by omega
theorem Qh7: ∀k,k<27->Gh[k*5+1]? =some (.bool (Ew k))
 | 0,_=>by kernel_rfl
 | 1,_=>by kernel_rfl
 | 2,_=>by kernel_rfl
 | 3,_=>by kernel_rfl
 | 4,_=>by kernel_rfl
 | 5,_=>by kernel_rfl
 | 6,_=>by kernel_rfl
 | 7,_=>by kernel_rfl
 | 8,_=>by kernel_rfl
 | 9,_=>by kernel_rfl
 | 10,_=>by kernel_rfl
 | 11,_=>by kernel_rfl
 | 12,_=>by kernel_rfl
 | 13,_=>by kernel_rfl
 | 14,_=>by kernel_rfl
 | 15,_=>by kernel_rfl
 | 16,_=>by kernel_rfl
 | 17,_=>by kernel_rfl
 | 18,_=>by kernel_rfl
 | 19,_=>by kernel_rfl
 | 20,_=>by kernel_rfl
 | 21,_=>by kernel_rfl
 | 22,_=>by kernel_rfl
 | 23,_=>by kernel_rfl
 | 24,_=>by kernel_rfl
 | 25,_=>by kernel_rfl
 | 26,_=>by kernel_rfl
 |n+27,h=>by omega
theorem Qb2: ∀k,k<27->Gh[k*5+2]? =some (.int .u8 (Eb k:Int))
 | 0,_=>by kernel_rfl
 | 1,_=>by kernel_rfl
 | 2,_=>by kernel_rfl
 | 3,_=>by kernel_rfl
 | 4,_=>by kernel_rfl
 | 5,_=>by kernel_rfl
 | 6,_=>by kernel_rfl
 | 7,_=>by kernel_rfl
 | 8,_=>by kernel_rfl
 | 9,_=>by kernel_rfl
 | 10,_=>by kernel_rfl
 | 11,_=>by kernel_rfl
 | 12,_=>by kernel_rfl
 | 13,_=>by kernel_rfl
 | 14,_=>by kernel_rfl
 | 15,_=>by kernel_rfl
 | 16,_=>by kernel_rfl
 | 17,_=>by kernel_rfl
 | 18,_=>by kernel_rfl
 | 19,_=>by kernel_rfl
 | 20,_=>by kernel_rfl
 | 21,_=>by kernel_rfl
 | 22,_=>by kernel_rfl
 | 23,_=>by kernel_rfl
 | 24,_=>by kernel_rfl
 | 25,_=>by kernel_rfl
 | 26,_=>by kernel_rfl
 |n+27,h=>by omega
theorem Qea: ∀k,k<27->Gh[k*5+3]? =some (.int .u8 (numOf k:Int))
 | 0,_=>by kernel_rfl
 | 1,_=>by kernel_rfl
 | 2,_=>by kernel_rfl
 | 3,_=>by kernel_rfl
 | 4,_=>by kernel_rfl
 | 5,_=>by kernel_rfl
 | 6,_=>by kernel_rfl
 | 7,_=>by kernel_rfl
 | 8,_=>by kernel_rfl
 | 9,_=>by kernel_rfl
 | 10,_=>by kernel_rfl
 | 11,_=>by kernel_rfl
 | 12,_=>by kernel_rfl
 | 13,_=>by kernel_rfl
 | 14,_=>by kernel_rfl
 | 15,_=>by kernel_rfl
 | 16,_=>by kernel_rfl
 | 17,_=>by kernel_rfl
 | 18,_=>by kernel_rfl
 | 19,_=>by kernel_rfl
 | 20,_=>by kernel_rfl
 | 21,_=>by kernel_rfl
 | 22,_=>by kernel_rfl
 | 23,_=>by kernel_rfl
 | 24,_=>by kernel_rfl
 | 25,_=>by kernel_rfl
 | 26,_=>by kernel_rfl
 |n+27,h=>by omega
theorem Qn6: ∀k,k<27->Gh[k*5+4]? =some (.int .u8 (F8 k:Int))
 | 0,_=>by kernel_rfl
 | 1,_=>by kernel_rfl
 | 2,_=>by kernel_rfl
 | 3,_=>by kernel_rfl
 | 4,_=>by kernel_rfl
 | 5,_=>by kernel_rfl
 | 6,_=>by kernel_rfl
 | 7,_=>by kernel_rfl
 | 8,_=>by kernel_rfl
 | 9,_=>by kernel_rfl
 | 10,_=>by kernel_rfl
 | 11,_=>by kernel_rfl
 | 12,_=>by kernel_rfl
 | 13,_=>by kernel_rfl
 | 14,_=>by kernel_rfl
 | 15,_=>by kernel_rfl
 | 16,_=>by kernel_rfl
 | 17,_=>by kernel_rfl
 | 18,_=>by kernel_rfl
 | 19,_=>by kernel_rfl
 | 20,_=>by kernel_rfl
 | 21,_=>by kernel_rfl
 | 22,_=>by kernel_rfl
 | 23,_=>by kernel_rfl
 | 24,_=>by kernel_rfl
 | 25,_=>by kernel_rfl
 | 26,_=>by kernel_rfl
 |n+27,h=>by omega
theorem Qec: ∀k,k<5->Qao[k*2]? =some (.int .i64 (lim k).1)
 | 0,_=>by kernel_rfl
 | 1,_=>by kernel_rfl
 | 2,_=>by kernel_rfl
 | 3,_=>by kernel_rfl
 | 4,_=>by kernel_rfl
 |n+5,h=>by omega
theorem Qbq: ∀k,k<5->Qao[k*2+1]? =some (.int .i64 (lim k).2)
 | 0,_=>by kernel_rfl
 | 1,_=>by kernel_rfl
 | 2,_=>by kernel_rfl
 | 3,_=>by kernel_rfl
 | 4,_=>by kernel_rfl
 |n+5,h=>by omega
theorem Qcv: ∀k,k<11->E9[k*6]? =some (.int .u8 ((Zh k).1.is:Int))
 | 0,_=>by kernel_rfl
 | 1,_=>by kernel_rfl
 | 2,_=>by kernel_rfl
 | 3,_=>by kernel_rfl
 | 4,_=>by kernel_rfl
 | 5,_=>by kernel_rfl
 | 6,_=>by kernel_rfl
 | 7,_=>by kernel_rfl
 | 8,_=>by kernel_rfl
 | 9,_=>by kernel_rfl
 | 10,_=>by kernel_rfl
 |n+11,h=>by omega
theorem Qg5: ∀k,k<11->E9[k*6+1]? =some (.int .i64 (Zh k).1.lo)
 | 0,_=>by kernel_rfl
 | 1,_=>by kernel_rfl
 | 2,_=>by kernel_rfl
 | 3,_=>by kernel_rfl
 | 4,_=>by kernel_rfl
 | 5,_=>by kernel_rfl
 | 6,_=>by kernel_rfl
 | 7,_=>by kernel_rfl
 | 8,_=>by kernel_rfl
 | 9,_=>by kernel_rfl
 | 10,_=>by kernel_rfl
 |n+11,h=>by omega
theorem Qfb: ∀k,k<11->E9[k*6+2]? =some (.int .i64 (Zh k).1.hi)
 | 0,_=>by kernel_rfl
 | 1,_=>by kernel_rfl
 | 2,_=>by kernel_rfl
 | 3,_=>by kernel_rfl
 | 4,_=>by kernel_rfl
 | 5,_=>by kernel_rfl
 | 6,_=>by kernel_rfl
 | 7,_=>by kernel_rfl
 | 8,_=>by kernel_rfl
 | 9,_=>by kernel_rfl
 | 10,_=>by kernel_rfl
 |n+11,h=>by omega
theorem Qcy: ∀k,k<11->E9[k*6+3]? =some (.int .u8 ((Zh k).2.is:Int))
 | 0,_=>by kernel_rfl
 | 1,_=>by kernel_rfl
 | 2,_=>by kernel_rfl
 | 3,_=>by kernel_rfl
 | 4,_=>by kernel_rfl
 | 5,_=>by kernel_rfl
 | 6,_=>by kernel_rfl
 | 7,_=>by kernel_rfl
 | 8,_=>by kernel_rfl
 | 9,_=>by kernel_rfl
 | 10,_=>by kernel_rfl
 |n+11,h=>by omega
theorem Qbr: ∀k,k<11->E9[k*6+4]? =some (.int .i64 (Zh k).2.lo)
 | 0,_=>by kernel_rfl
 | 1,_=>by kernel_rfl
 | 2,_=>by kernel_rfl
 | 3,_=>by kernel_rfl
 | 4,_=>by kernel_rfl
 | 5,_=>by kernel_rfl
 | 6,_=>by kernel_rfl
 | 7,_=>by kernel_rfl
 | 8,_=>by kernel_rfl
 | 9,_=>by kernel_rfl
 | 10,_=>by kernel_rfl
 |n+11,h=>by omega
theorem Qbt: ∀k,k<11->E9[k*6+5]? =some (.int .i64 (Zh k).2.hi)
 | 0,_=>by kernel_rfl
 | 1,_=>by kernel_rfl
 | 2,_=>by kernel_rfl
 | 3,_=>by kernel_rfl
 | 4,_=>by kernel_rfl
 | 5,_=>by kernel_rfl
 | 6,_=>by kernel_rfl
 | 7,_=>by kernel_rfl
 | 8,_=>by kernel_rfl
 | 9,_=>by kernel_rfl
 | 10,_=>by kernel_rfl
 |n+11,h=>by omega
theorem Qhc: ∀k,k<17->Qfd[k]? =some (txt (Aw.getD k []))
 | 0,_=>by kernel_rfl
 | 1,_=>by kernel_rfl
 | 2,_=>by kernel_rfl
 | 3,_=>by kernel_rfl
 | 4,_=>by kernel_rfl
 | 5,_=>by kernel_rfl
 | 6,_=>by kernel_rfl
 | 7,_=>by kernel_rfl
 | 8,_=>by kernel_rfl
 | 9,_=>by kernel_rfl
 | 10,_=>by kernel_rfl
 | 11,_=>by kernel_rfl
 | 12,_=>by kernel_rfl
 | 13,_=>by kernel_rfl
 | 14,_=>by kernel_rfl
 | 15,_=>by kernel_rfl
 | 16,_=>by kernel_rfl
 |n+17,h=>by omega
theorem Qp6: ∀k,k<4->Qds[k]? =some (txt (G9.getD k []))
 | 0,_=>by kernel_rfl
 | 1,_=>by kernel_rfl
 | 2,_=>by kernel_rfl
 | 3,_=>by kernel_rfl
 |n+4,h=>by omega
theorem Qnc: ∀k,k<27->Eb k<256
 | 0,_=>by decide
 | 1,_=>by decide
 | 2,_=>by decide
 | 3,_=>by decide
 | 4,_=>by decide
 | 5,_=>by decide
 | 6,_=>by decide
 | 7,_=>by decide
 | 8,_=>by decide
 | 9,_=>by decide
 | 10,_=>by decide
 | 11,_=>by decide
 | 12,_=>by decide
 | 13,_=>by decide
 | 14,_=>by decide
 | 15,_=>by decide
 | 16,_=>by decide
 | 17,_=>by decide
 | 18,_=>by decide
 | 19,_=>by decide
 | 20,_=>by decide
 | 21,_=>by decide
 | 22,_=>by decide
 | 23,_=>by decide
 | 24,_=>by decide
 | 25,_=>by decide
 | 26,_=>by decide
 |n+27,h=>by omega
theorem Qlc: ∀k,k<27->numOf k<5
 | 0,_=>by decide
 | 1,_=>by decide
 | 2,_=>by decide
 | 3,_=>by decide
 | 4,_=>by decide
 | 5,_=>by decide
 | 6,_=>by decide
 | 7,_=>by decide
 | 8,_=>by decide
 | 9,_=>by decide
 | 10,_=>by decide
 | 11,_=>by decide
 | 12,_=>by decide
 | 13,_=>by decide
 | 14,_=>by decide
 | 15,_=>by decide
 | 16,_=>by decide
 | 17,_=>by decide
 | 18,_=>by decide
 | 19,_=>by decide
 | 20,_=>by decide
 | 21,_=>by decide
 | 22,_=>by decide
 | 23,_=>by decide
 | 24,_=>by decide
 | 25,_=>by decide
 | 26,_=>by decide
 |n+27,h=>by omega
theorem Qev: ∀k,k<27->F8 k<11
 | 0,_=>by decide
 | 1,_=>by decide
 | 2,_=>by decide
 | 3,_=>by decide
 | 4,_=>by decide
 | 5,_=>by decide
 | 6,_=>by decide
 | 7,_=>by decide
 | 8,_=>by decide
 | 9,_=>by decide
 | 10,_=>by decide
 | 11,_=>by decide
 | 12,_=>by decide
 | 13,_=>by decide
 | 14,_=>by decide
 | 15,_=>by decide
 | 16,_=>by decide
 | 17,_=>by decide
 | 18,_=>by decide
 | 19,_=>by decide
 | 20,_=>by decide
 | 21,_=>by decide
 | 22,_=>by decide
 | 23,_=>by decide
 | 24,_=>by decide
 | 25,_=>by decide
 | 26,_=>by decide
 |n+27,h=>by omega
theorem Qj3: ∀(k:Nat),k<27->named (k:Int)=Ew k
 | 0,_=>by decide
 | 1,_=>by decide
 | 2,_=>by decide
 | 3,_=>by decide
 | 4,_=>by decide
 | 5,_=>by decide
 | 6,_=>by decide
 | 7,_=>by decide
 | 8,_=>by decide
 | 9,_=>by decide
 | 10,_=>by decide
 | 11,_=>by decide
 | 12,_=>by decide
 | 13,_=>by decide
 | 14,_=>by decide
 | 15,_=>by decide
 | 16,_=>by decide
 | 17,_=>by decide
 | 18,_=>by decide
 | 19,_=>by decide
 | 20,_=>by decide
 | 21,_=>by decide
 | 22,_=>by decide
 | 23,_=>by decide
 | 24,_=>by decide
 | 25,_=>by decide
 | 26,_=>by decide
 |n+27,h=>by omega
structure Xp (w:World):Prop where
 rows: ∃t fr,w.heap[4]? =some (.cells Gh t fr)
 limits: ∃t fr,w.heap[5]? =some (.cells Qao t fr)
 makings: ∃t fr,w.heap[6]? =some (.cells E9 t fr)
 signs: ∃t fr,w.heap[3]? =some (.cells Qfd t fr)
 kinds: ∃t fr,w.heap[2]? =some (.cells Qds t fr)
 keys: ∃t fr,w.heap[7]? =some (.cells Qgp t fr)
 pow: ∃t fr,w.heap[9]? =some (.cells (Lib.pow10Tab.map λz=>Value.int .u64 z).toArray t fr)
theorem Wm {w w':World} {g:Nat} {cs:Array Value} (h: ∃t fr,w.heap[g]? =some (.cells cs t fr)) (hb:Below w.heap.size w w'): ∃t fr,w'.heap[g]? =some (.cells cs t fr):=by obtain ⟨t,fr,h⟩:=h;obtain ⟨hlt,_⟩:=Array.getElem?_eq_some_iff.1 h;exact ⟨t,fr,by rw [hb.block _ hlt];exact h⟩
theorem Xp.below {w w':World} (h:Xp w) (hb:Below w.heap.size w w'):Xp w':=
 ⟨Wm h.rows hb,Wm h.limits hb,Wm h.makings hb,Wm h.signs hb,Wm h.kinds hb,Wm h.keys hb,Wm h.pow hb⟩
theorem Xp.tab {w:World} (h:Xp w):Lib.TabIs prog w "internal/strconv.uint64pow10" .u64 Lib.pow10Tab:=by
 obtain ⟨t,fr,h⟩:=h.pow
 have hg:prog.globalNamed "internal/strconv.uint64pow10" =some 9:=by kernel_rfl
 unfold Lib.TabIs World.var?;rw [hg];simp only [Option.bind_some,h]
theorem Wv {w:World} {g j:Nat} {cs:Array Value} {v:Value} (h: ∃t fr,w.heap[g]? =some (.cells cs t fr)) (hv:cs[j]? =some v):w.cell? ⟨g,j,none⟩=some v:=by obtain ⟨t,fr,h⟩:=h;simp [World.cell?,h,hv]
theorem Uy (n:Nat) (w:World):
  Calls prog 73 #[.int .u8 (n:Int)] w λe w'=>e= .returned (.bool (Zc n))/\w'=w:=by
 go_enter func73,ntmps73;go_wp2
 all_goals go_ret
 all_goals refine ⟨congrArg (λb=>Ending.returned (Value.bool b)) ?_,rfl⟩
 all_goals (rw [Bool.eq_iff_iff];simp [Zc];try omega)
theorem Qno (n:Nat) (w:World):
  Calls prog 74 #[.int .u8 (n:Int)] w λe w'=>e= .returned (.bool (X4 n))/\w'=w:=by
 go_enter func74,ntmps74;go_wp2
 all_goals go_ret
 all_goals refine ⟨congrArg (λb=>Ending.returned (Value.bool b)) ?_,rfl⟩
 all_goals (rw [Bool.eq_iff_iff];simp [X4];try omega)
theorem Qi3 (n:Nat) (w:World):
  Calls prog 70 #[.int .u8 (n:Int)] w λe w'=>e= .returned (.bool (Zc n))/\w'=w:=by
 go_enter func70,ntmps70;go_wp2
 all_goals go_ret
 all_goals refine ⟨congrArg (λb=>Ending.returned (Value.bool b)) ?_,rfl⟩
 all_goals (rw [Bool.eq_iff_iff];simp [Zc];try omega)
theorem Qmt (n:Nat) (w:World):
  Calls prog 69 #[.int .u8 (n:Int)] w λe w'=>e= .returned (.bool (X4 n))/\w'=w:=by
 go_enter func69,ntmps69;go_wp2
 all_goals go_ret
 all_goals refine ⟨congrArg (λb=>Ending.returned (Value.bool b)) ?_,rfl⟩
 all_goals (rw [Bool.eq_iff_iff];simp [X4];try omega)
theorem Qae (n:Int) (w:World):
  Calls prog 22 #[.int .i64 n] w λe w'=>e= .returned (.bool (Qt n))/\w'=w:=by
 go_enter func22,ntmps22;go_wp2
 all_goals go_ret
 all_goals refine ⟨congrArg (λb=>Ending.returned (Value.bool b)) ?_,rfl⟩
 all_goals (rw [Bool.eq_iff_iff];simp [Qt];try omega)
theorem Qkz (n:Int) (w:World):
  Calls prog 58 #[.int .i64 n] w λe w'=>e= .returned (.bool (Y9 n))/\w'=w:=by
 go_enter func58,ntmps58;go_wp2
 all_goals go_ret
 all_goals refine ⟨congrArg (λb=>Ending.returned (Value.bool b)) ?_,rfl⟩
 all_goals (rw [Bool.eq_iff_iff];simp [Y9];try omega)
def Z6 (lo hi n:Int):Bool:=decide (lo<=n)&&decide (n<=hi)
theorem Mt (n lo hi:Int) (w:World):
  Calls prog 64 #[.int .i64 n,.agg #[.int .i64 lo,.int .i64 hi]] w λe w'=>e= .returned (.bool (Z6 lo hi n))/\Below w.heap.size w w':=by
 go_enter func64,ntmps64;go_wp2
 all_goals go_ret
 all_goals refine ⟨congrArg (λb=>Ending.returned (Value.bool b)) ?_,Qn⟩
 all_goals (rw [Bool.eq_iff_iff];simp [Z6];try omega)
theorem Qde {op:Int} (h:op<0\/17<=op):C8 op=[]:=by unfold C8;rw [Q6 (by omega)]
theorem Qc0 {k:Nat} (h:k<17):C8 (k:Int)=Aw.getD k []:=by unfold C8;rw [Wy (by omega),Jo]
theorem Uw (op:Int) (w:World) (hT:Xp w):
  Calls prog 37 #[.int .i64 op] w λe w'=>e= .returned (txt (C8 op))/\w'=w:=by
 rcases (show op<0\/0<=op by omega)with h |h
 ·have HS:=Qa (Qde (.inl h));go_enter func37,ntmps37;go_wp2;go_ret;exact ⟨by rw [HS.out];rfl,rfl⟩
 ·rcases (show op<17\/17<=op by omega)with h2 |h2
  ·obtain ⟨k,rfl⟩: ∃k:Nat,op=k:=⟨op.toNat,by omega⟩;have hk:k<17:=(by omega);have HS:=Qa (Qc0 hk);have hc:=Wv hT.signs (Qhc k hk);unfold txt at hc;clear hT;go_enter func37,ntmps37;go_wp2;go_ret;exact ⟨by rw [HS.out];rfl,rfl⟩
  ·have HS:=Qa (Qde (.inr h2));clear hT;go_enter func37,ntmps37;go_wp2;go_ret;exact ⟨by rw [HS.out];rfl,rfl⟩
theorem Np {op:Int} (h:op<0\/4<=op):Kz op=[]:=by unfold Kz;rw [Q6 (by omega)]
theorem Qk8 {k:Nat} (h:k<4):Kz (k:Int)=G9.getD k []:=by unfold Kz;rw [Wy (by omega),Jo]
theorem P5 (op:Int) (w:World) (hT:Xp w):
  Calls prog 17 #[.int .i64 op] w λe w'=>e= .returned (txt (Kz op))/\w'=w:=by
 rcases (show op<0\/0<=op by omega)with h |h
 ·have HS:=Qa (Np (.inl h));go_enter func17,ntmps17;go_wp2;go_ret;exact ⟨by rw [HS.out];rfl,rfl⟩
 ·rcases (show op<4\/4<=op by omega)with h2 |h2
  ·obtain ⟨k,rfl⟩: ∃k:Nat,op=k:=⟨op.toNat,by omega⟩;have hk:k<4:=(by omega);have HS:=Qa (Qk8 hk);have hc:=Wv hT.kinds (Qp6 k hk);unfold txt at hc;clear hT;go_enter func17,ntmps17;go_wp2;go_ret;exact ⟨by rw [HS.out];rfl,rfl⟩
  ·have HS:=Qa (Np (.inr h2));clear hT;go_enter func17,ntmps17;go_wp2;go_ret;exact ⟨by rw [HS.out];rfl,rfl⟩
theorem Qg9 (k:Int) (w:World):
  Calls prog 23 #[.int .i64 k] w λe w'=>e= .returned (txt (Kz k))/\Below w.heap.size w w':=by
 rcases (show k<1\/1<=k by omega)with h |h
 ·have HS:Hid (Kz k=[]):=by
   rcases (show k<0\/0<=k by omega)with g |g
   ·exact Np (.inl g)
   ·obtain rfl:k=0:=(by omega);rfl
  go_enter func23,ntmps23;go_wp2;go_ret;exact ⟨by rw [HS.out];rfl,Qn⟩
 ·rcases (show 3<k\/k<=3 by omega)with h2 |h2
  ·have HS:=Qa (Np (op:=k) (.inr (by omega)));go_enter func23,ntmps23;go_wp2;go_ret;exact ⟨by rw [HS.out];rfl,Qn⟩
  ·rcases (show k=1\/k=2\/k=3 by omega)with rfl |rfl |rfl
   all_goals
    go_enter func23,ntmps23;go_wp2;go_ret;exact ⟨rfl,Qn⟩
theorem Qlk (k:Int) (w:World):
  Calls prog 54 #[.int .i64 k] w λe w'=>e= .returned (.bool (named k))/\Below w.heap.size w w':=by
 go_enter func54,ntmps54;go_wp2_with fail;refine (Qeu _ 8 _ [4,11,12,13,14,17,24,25] k _ rfl (by omega) ?_).mono ?_
 ·intro _;refine ⟨w.heap.size,0,rfl,by simp,λj hj=> ?_⟩;have hh:=(Held.new w 3 #[.int .i64 4,.int .i64 11,.int .i64 12,.int .i64 13,.int .i64 14,.int .i64 17,.int .i64 24,.int .i64 25]);rw [Fw];exact hh.at_ (by
   match j,hj with
   | 0,_ | 1,_ | 2,_ | 3,_ | 4,_ | 5,_ | 6,_ | 7,_=>rfl
   |n+8,h=>omega)
 rintro e w1 ⟨he,hw1⟩;have he':e= .returned (.bool (named k)):=he;subst he';clear he;rw [hw1];clear hw1 w1;go_wp2_with fail;go_ret;exact ⟨rfl,Qn⟩
def Yt (l:List Nd) (ks:List Int):Prop:= ∀j,j<ks.length-> ∃q:Nat,ks.getD j 0=(q:Int)/\q<l.length
def kd (l:List Nd) (ks:List Int):List Int:=ks.map (λk=>(nd l k.toNat).kind)
theorem Y7 (l:List Nd) (ks:List Int):(kd l ks).length=ks.length:=Cq _
theorem Qcm {l:List Nd} {ks:List Int} {j q:Nat} (hj:j<ks.length) (h:ks.getD j 0=(q:Int)):(kd l ks).getD j 0=(nd l q).kind:=by unfold kd;rw [Yh,Za hj]at h;rw [Yh,Gc,Za hj];have h':ks[j]=(q:Int):=h;show (nd l (ks[j]).toNat).kind=_;rw [h',Jo]
theorem F5 {w:World} {a ka:Option Addr} {l:List Nd} {ks:List Int} {m j:Nat} (hN:Nodes w a l) (hk:Wo .i64 w ka m (λj=>ks.getD j 0)) (hI:Yt l ks) (hm:m=ks.length) (hj:j<m):
  ∃kb ko lb lo q,ka=some ⟨kb,ko,none⟩/\a=some ⟨lb,lo,none⟩/\w.cell? ⟨kb,ko+j,none⟩=some (.int .i64 ((q:Nat):Int))/\q<l.length/\D5 w lb (lo+q*5) (nd l q)/\(kd l ks).getD j 0=(nd l q).kind/\ks.getD j 0=(q:Int)/\lb<w.heap.size/\kb<w.heap.size:=by
 obtain ⟨q,hq,hlt⟩:=hI j (by omega);obtain ⟨kb,ko,rfl,hkb,hc⟩:=hk (by omega);obtain ⟨lb,lo,rfl,hlb,h5⟩:=hN.at_ hlt;have:=hc j hj;simp only [hq]at this;exact ⟨kb,ko,lb,lo,q,rfl,rfl,this,hlt,h5,Qcm (by omega) hq,hq,hlb,hkb⟩
theorem Qb6 {ks:List Int} {n k:Nat} (hk:k<n) (hn:n<=ks.length) (h:Qt (ks.getD k 0)=false):exprs ks n=false:=by
 have:(ks.take n).all Qt=false:=by
  rw [List.all_eq_false];have hk':k<ks.length:=by omega
  refine ⟨ks[k],List.mem_take_iff_getElem.2 ⟨k,by omega,rfl⟩,?_⟩;rw [Yh,Za hk']at h;have h':Qt ks[k]=false:=h;simp [h']
 simp [exprs,this]
theorem Qdq {ks:List Int} {n:Nat} (hn:n<=ks.length) (h: ∀k,k<n->Qt (ks.getD k 0)=true):exprs ks n=true:=by
 have:(ks.take n).all Qt=true:=by rw [Cr];intro x hx;obtain ⟨k,hk,rfl⟩:=List.mem_take_iff_getElem.1 hx;have:=h k (by omega);rw [Yh,Za (by omega)]at this;exact this
 simp [exprs,this,hn]
theorem Qcj {ks:List Int} {n:Nat} (hn:ks.length<n):exprs ks n=false:=by unfold exprs;rw [decide_eq_false (by omega)];rfl
theorem Qqb (a ka:Option Addr) (c kc m n:Nat) (l:List Nd) (ks:List Int) (w:World) (hN:Nodes w a l) (hk:Wo .i64 w ka m (λj=>ks.getD j 0)) (hI:Yt l ks) (hm:m=ks.length) (hml:m<=140737488351232) (hll:l.length<=9223372036854775807) (hn:n<=140737488351232):
  Calls prog 56 #[.slice a l.length c,.slice ka m kc,.int .i64 (n:Int)] w λe w'=>e= .returned (.bool (exprs (kd l ks) n))/\w'=w:=by
 have HM:=Qa hm;have HN:=Qa hN;have HK:=Qa hk;have HI:=Qa hI;clear hm hN hk hI;by_cases hlt:m<n
 ·have HB:Hid (exprs (kd l ks) n=false):=Qcj (by rw [Y7,<-HM.out];exact hlt);go_enter func56,ntmps56;go_wp2_with fail;go_ret;exact ⟨by rw [HB.out];rfl,rfl⟩
 ·have HL:Hid (n<=(kd l ks).length):=by show n<=_;rw [Y7,<-HM.out];omega
  obtain ⟨B,hB⟩:=Qb (exprs (kd l ks) n);rw [<-hB];have HB:=Qa hB;clear hB;go_enter func56,ntmps56;go_wp2_with fail;go_loop [7] (λi=> ∃k:Nat,k<=n/\i= .int .i64 (k:Int)/\Hid (∀j,j<k->Qt ((kd l ks).getD j 0)=true)) (λi=>n-(intOf i).toNat)
  case atStart=>exact ⟨0,by omega,rfl,λj hj=>by omega⟩
  case round=>
   obtain ⟨k,hk,rfl,hE⟩:=hrel;by_cases hkn:k<n
   ·obtain ⟨kb,ko,lb,lo,q,rfl,rfl,hc,hq,⟨h5,_⟩,hkd,_⟩:=F5 (j:=k) HN.out HK.out HI.out HM.out (by omega);obtain ⟨K,hK⟩:=Qb ((nd l q).kind);rw [<-hK]at h5 hkd;have Yq:=Qa hkd;clear hK hkd;go_wp2_with fail;refine (Qae K w).mono ?_;rintro e w1 ⟨rfl,hw1⟩;rw [hw1];clear hw1 w1;cases he:Qt K with
    |true=>
     have HE:=Qa he;clear he;go_wp2_with fail;go_round
     case rel=>exact ⟨k+1,by omega,by go_num,λj hj=>by
      rcases Xa j k with h |h
      ·exact hE.out j h
      ·rw [show j=k by omega,Yq.out];exact HE.out⟩
     case measure=>simp [intOf];omega
    |false=>
     have HE:=Qa he;clear he;go_wp2_with fail;go_ret;exact ⟨by rw [HB.out,Qb6 hkn HL.out (by rw [Yq.out];exact HE.out)];rfl,rfl⟩
   ·obtain rfl:k=n:=(by omega);go_wp2_with fail;go_ret;exact ⟨by rw [HB.out,Qdq HL.out hE.out];rfl,rfl⟩
theorem Qgt {ks:List Int} {K:Int} {m k:Nat} (hk:k<ks.length) (h:ks.getD k 0≠K):Yp ks K m=false:=by
 have:ks.all (λx=>x==K)=false:=by rw [List.all_eq_false];refine ⟨ks[k],Ca hk,?_⟩;rw [Yh,Za hk]at h;have h':ks[k]≠K:=h;simp [h']
 simp [Yp,this]
theorem Qan {ks:List Int} {K:Int} {m:Nat} (h: ∀k,k<ks.length->ks.getD k 0=K):Yp ks K m=decide (ks.length<=m):=by
 have:ks.all (λx=>x==K)=true:=by rw [Cr];intro x hx;obtain ⟨k,hk,rfl⟩:=List.mem_iff_getElem.1 hx;have:=h k hk;rw [Yh,Za hk]at this;have h':ks[k]=K:=this;simp [h']
 simp [Yp,this]
theorem Qiq (a ka:Option Addr) (c kc m n:Nat) (K:Int) (l:List Nd) (ks:List Int) (w:World) (hN:Nodes w a l) (hk:Wo .i64 w ka m (λj=>ks.getD j 0)) (hI:Yt l ks) (hm:m=ks.length) (hml:m<=140737488351232) (hll:l.length<=9223372036854775807) (hn:n<=140737488351232):
  Calls prog 57 #[.slice a l.length c,.slice ka m kc,.int .i64 K,.int .i64 (n:Int)] w λe w'=>e= .returned (.bool (Yp (kd l ks) K n))/\w'=w:=by
 have HM:=Qa hm;have HN:=Qa hN;have HK:=Qa hk;have HI:=Qa hI;clear hm hN hk hI;have HL:Hid ((kd l ks).length=m):=by show _=m;rw [Y7,<-HM.out]
 obtain ⟨B,hB⟩:=Qb (Yp (kd l ks) K n);rw [<-hB];have HB:=Qa hB;clear hB;go_enter func57,ntmps57;go_wp2_with fail;go_loop [9] (λi=> ∃k:Nat,k<=m/\i= .int .i64 (k:Int)/\Hid (∀j,j<k->(kd l ks).getD j 0=K)) (λi=>m-(intOf i).toNat)
 case atStart=>exact ⟨0,by omega,rfl,λj hj=>by omega⟩
 case round=>
  obtain ⟨k,hk,rfl,hE⟩:=hrel;by_cases hkn:k<m
  ·obtain ⟨kb,ko,lb,lo,q,rfl,rfl,hc,hq,⟨h5,_⟩,hkd,_⟩:=F5 (j:=k) HN.out HK.out HI.out HM.out (by omega);obtain ⟨Z,hZ⟩:=Qb ((nd l q).kind);rw [<-hZ]at h5 hkd;have Yq:=Qa hkd;clear hZ hkd;by_cases he:Z=K
   ·have he':(Z != K)=false:=(by simp [he]);have HE:=Qa he;clear he;go_wp2_with fail;go_round
    case rel=>exact ⟨k+1,by omega,by go_num,λj hj=>by
     rcases Xa j k with h |h
     ·exact hE.out j h
     ·rw [show j=k by omega,Yq.out];exact HE.out⟩
    case measure=>simp [intOf];omega
   ·have he':(Z != K)=true:=(by simp [he]);have HE:=Qa he;clear he;go_wp2_with fail;go_ret;exact ⟨by rw [HB.out,Qgt (by rw [HL.out];exact hkn) (by rw [Yq.out];exact HE.out)];rfl,rfl⟩
  ·obtain rfl:k=m:=(by omega);go_wp2_with fail;go_ret;refine ⟨?_,rfl⟩;rw [HB.out,Qan (λj hj=>hE.out j (by rw [HL.out]at hj;exact hj)),HL.out];refine congrArg (λb=>Ending.returned (Value.bool b)) ?_
   first |rfl |(rw [Bool.eq_iff_iff];simp)
theorem Jl (a ka:Option Addr) (c kc m n:Nat) (z:Int) (l:List Nd) (ks:List Int) (w:World) (hN:Nodes w a l) (hk:Wo .i64 w ka m (λj=>ks.getD j 0)) (hI:Yt l ks) (hm:m=ks.length) (hml:m<=140737488351232) (hll:l.length<=9223372036854775807) (hn:n<=140737488351232) (hz:z=(n:Int)):
  Calls prog 56 #[.slice a l.length c,.slice ka m kc,.int .i64 z] w λe w'=>e= .returned (.bool (exprs (kd l ks) n))/\w'=w:=by
 subst hz;exact Qqb a ka c kc m n l ks w hN hk hI hm hml hll hn
theorem Ir (a ka:Option Addr) (c kc m n:Nat) (K z:Int) (l:List Nd) (ks:List Int) (w:World) (hN:Nodes w a l) (hk:Wo .i64 w ka m (λj=>ks.getD j 0)) (hI:Yt l ks) (hm:m=ks.length) (hml:m<=140737488351232) (hll:l.length<=9223372036854775807) (hn:n<=140737488351232) (hz:z=(n:Int)):
  Calls prog 57 #[.slice a l.length c,.slice ka m kc,.int .i64 K,.int .i64 z] w λe w'=>e= .returned (.bool (Yp (kd l ks) K n))/\w'=w:=by
 subst hz;exact Qiq a ka c kc m n K l ks w hN hk hI hm hml hll hn
theorem Mx {w:World} {ka:Option Addr} {m d:Nat} {ks:List Int} (h:Wo .i64 w ka m (λj=>ks.getD j 0)):Wo .i64 w (Option.map (λx=>(⟨x.block,x.off+d,none⟩:Addr)) ka) (m-d) (λj=>(ks.drop d).getD j 0):=by intro hp;obtain ⟨b,off,rfl,hlt,hc⟩:=h (by omega);refine ⟨b,off+d,rfl,hlt,λj hj=> ?_⟩;simp only [Ao,Gg];exact hc (d+j) (by omega)
theorem Qop {w:World} {ka:Option Addr} {m d:Nat} {ks:List Int} (h:Wo .i64 w ka m (λj=>ks.getD j 0)) (hd:d<=m):Wo .i64 w ka d (λj=>(ks.take d).getD j 0):=by intro hp;obtain ⟨b,off,rfl,hlt,hc⟩:=h (by omega);refine ⟨b,off,rfl,hlt,λj hj=> ?_⟩;simp only [Nl ks d j hj];exact hc j (by omega)
theorem Yt.drop {l:List Nd} {ks:List Int} (h:Yt l ks) (d:Nat):Yt l (ks.drop d):=by intro j hj;rw [Xt]at hj;obtain ⟨q,h1,h2⟩:=h (d+j) (by omega);exact ⟨q,by rw [Ao];exact h1,h2⟩
theorem Yt.take {l:List Nd} {ks:List Int} (h:Yt l ks) (d:Nat):Yt l (ks.take d):=by intro j hj;rw [Vr]at hj;obtain ⟨q,h1,h2⟩:=h j (by omega);exact ⟨q,by rw [Nl ks d j (by omega)];exact h1,h2⟩
theorem Zy (l:List Nd) (ks:List Int) (d:Nat):(kd l ks).drop d=kd l (ks.drop d):=by unfold kd;rw [List.map_drop]
theorem Va (l:List Nd) (ks:List Int) (d:Nat):(kd l ks).take d=kd l (ks.take d):=by unfold kd;rw [List.map_take]
theorem Qnn (a:Option Addr) (c:Nat) (l:List Nd) (ka:Option Addr) (kc m:Nat) (ks:List Int) (n:Int) (s:ByteArray) (at_:Int) (w:World) (hN:Nodes w a l) (hk:Wo .i64 w ka m (λj=>ks.getD j 0)) (hcap:m<=kc) (hI:Yt l ks) (hm:m=ks.length) (hml:m<=140737488351232) (hll:l.length<=9223372036854775807):
  Calls prog 40 #[.slice a l.length c,.agg #[.int .i64 5,.slice ka m kc,.int .i64 n,.string s,.int .i64 at_]] w λe w'=>e= .returned (.bool (Qq 5 (kd l ks)))/\Below w.heap.size w w':=by
 have HM:=Qa hm;have HN:=Qa hN;have HK:=Qa hk;have HI:=Qa hI;clear hm hN hk hI;have HB:Hid (Below w.heap.size w (w.alloc (.cells #[.int .i64 5,.slice ka m kc,.int .i64 n,.string s,.int .i64 at_] 25))):=Qn;have HE:Hid (Qq 5 (kd l ks)=(decide (m=2)&&exprs (kd l ks) 2)):=by
  show _=_
  try rw [HM.out]
  simp only [Qq,Y7,Zy,Va];rfl
 by_cases h2:m=2
 ·have h2':((m:Int)==2)=true:=by simp [h2]
  have H2:=Qa h2;clear h2;go_enter func40,ntmps40;go_wp2_with fail;refine (Jl _ _ _ _ _ 2 _ l ks _ (HN.out.below HB.out) (HK.out.below HB.out) HI.out HM.out hml hll (by omega) rfl).mono ?_;rintro e w1 ⟨rfl,hw1⟩;rw [hw1];clear hw1 w1;cases he:exprs (kd l ks) 2
  all_goals
   have Wu:=Qa he;clear he;go_wp2_with fail;go_ret;exact ⟨by rw [HE.out,Wu.out,decide_eq_true H2.out];rfl,HB.out⟩
 ·have h2':((m:Int)==2)=false:=by simp;omega
  have H2:=Qa h2;clear h2;go_enter func40,ntmps40;go_wp2_with fail;go_ret;exact ⟨by rw [HE.out,decide_eq_false H2.out];rfl,HB.out⟩
theorem Qg7 (a:Option Addr) (c:Nat) (l:List Nd) (ka:Option Addr) (kc m:Nat) (ks:List Int) (n:Int) (s:ByteArray) (at_:Int) (w:World) (hN:Nodes w a l) (hk:Wo .i64 w ka m (λj=>ks.getD j 0)) (hcap:m<=kc) (hI:Yt l ks) (hm:m=ks.length) (hml:m<=140737488351232) (hll:l.length<=9223372036854775807):
  Calls prog 40 #[.slice a l.length c,.agg #[.int .i64 8,.slice ka m kc,.int .i64 n,.string s,.int .i64 at_]] w λe w'=>e= .returned (.bool (Qq 8 (kd l ks)))/\Below w.heap.size w w':=by
 have HM:=Qa hm;have HN:=Qa hN;have HK:=Qa hk;have HI:=Qa hI;clear hm hN hk hI;have HB:Hid (Below w.heap.size w (w.alloc (.cells #[.int .i64 8,.slice ka m kc,.int .i64 n,.string s,.int .i64 at_] 25))):=Qn;have HE:Hid (Qq 8 (kd l ks)=(decide (m=2)&&exprs (kd l ks) 2)):=by
  show _=_
  try rw [HM.out]
  simp only [Qq,Y7,Zy,Va];rfl
 by_cases h2:m=2
 ·have h2':((m:Int)==2)=true:=by simp [h2]
  have H2:=Qa h2;clear h2;go_enter func40,ntmps40;go_wp2_with fail;refine (Jl _ _ _ _ _ 2 _ l ks _ (HN.out.below HB.out) (HK.out.below HB.out) HI.out HM.out hml hll (by omega) rfl).mono ?_;rintro e w1 ⟨rfl,hw1⟩;rw [hw1];clear hw1 w1;cases he:exprs (kd l ks) 2
  all_goals
   have Wu:=Qa he;clear he;go_wp2_with fail;go_ret;exact ⟨by rw [HE.out,Wu.out,decide_eq_true H2.out];rfl,HB.out⟩
 ·have h2':((m:Int)==2)=false:=by simp;omega
  have H2:=Qa h2;clear h2;go_enter func40,ntmps40;go_wp2_with fail;go_ret;exact ⟨by rw [HE.out,decide_eq_false H2.out];rfl,HB.out⟩
theorem Qis (a:Option Addr) (c:Nat) (l:List Nd) (ka:Option Addr) (kc m:Nat) (ks:List Int) (n:Int) (s:ByteArray) (at_:Int) (w:World) (hN:Nodes w a l) (hk:Wo .i64 w ka m (λj=>ks.getD j 0)) (hcap:m<=kc) (hI:Yt l ks) (hm:m=ks.length) (hml:m<=140737488351232) (hll:l.length<=9223372036854775807):
  Calls prog 40 #[.slice a l.length c,.agg #[.int .i64 14,.slice ka m kc,.int .i64 n,.string s,.int .i64 at_]] w λe w'=>e= .returned (.bool (Qq 14 (kd l ks)))/\Below w.heap.size w w':=by
 have HM:=Qa hm;have HN:=Qa hN;have HK:=Qa hk;have HI:=Qa hI;clear hm hN hk hI;have HB:Hid (Below w.heap.size w (w.alloc (.cells #[.int .i64 14,.slice ka m kc,.int .i64 n,.string s,.int .i64 at_] 25))):=Qn;have HE:Hid (Qq 14 (kd l ks)=(decide (m=2)&&exprs (kd l ks) 2)):=by
  show _=_
  try rw [HM.out]
  simp only [Qq,Y7,Zy,Va];rfl
 by_cases h2:m=2
 ·have h2':((m:Int)==2)=true:=by simp [h2]
  have H2:=Qa h2;clear h2;go_enter func40,ntmps40;go_wp2_with fail;refine (Jl _ _ _ _ _ 2 _ l ks _ (HN.out.below HB.out) (HK.out.below HB.out) HI.out HM.out hml hll (by omega) rfl).mono ?_;rintro e w1 ⟨rfl,hw1⟩;rw [hw1];clear hw1 w1;cases he:exprs (kd l ks) 2
  all_goals
   have Wu:=Qa he;clear he;go_wp2_with fail;go_ret;exact ⟨by rw [HE.out,Wu.out,decide_eq_true H2.out];rfl,HB.out⟩
 ·have h2':((m:Int)==2)=false:=by simp;omega
  have H2:=Qa h2;clear h2;go_enter func40,ntmps40;go_wp2_with fail;go_ret;exact ⟨by rw [HE.out,decide_eq_false H2.out];rfl,HB.out⟩
theorem Qos (a:Option Addr) (c:Nat) (l:List Nd) (ka:Option Addr) (kc m:Nat) (ks:List Int) (n:Int) (s:ByteArray) (at_:Int) (w:World) (hN:Nodes w a l) (hk:Wo .i64 w ka m (λj=>ks.getD j 0)) (hcap:m<=kc) (hI:Yt l ks) (hm:m=ks.length) (hml:m<=140737488351232) (hll:l.length<=9223372036854775807):
  Calls prog 40 #[.slice a l.length c,.agg #[.int .i64 6,.slice ka m kc,.int .i64 n,.string s,.int .i64 at_]] w λe w'=>e= .returned (.bool (Qq 6 (kd l ks)))/\Below w.heap.size w w':=by
 have HM:=Qa hm;have HN:=Qa hN;have HK:=Qa hk;have HI:=Qa hI;clear hm hN hk hI;have HB:Hid (Below w.heap.size w (w.alloc (.cells #[.int .i64 6,.slice ka m kc,.int .i64 n,.string s,.int .i64 at_] 25))):=Qn;have HE:Hid (Qq 6 (kd l ks)=(decide (m=1)&&exprs (kd l ks) 1)):=by
  show _=_
  try rw [HM.out]
  simp only [Qq,Y7,Zy,Va];rfl
 by_cases h2:m=1
 ·have h2':((m:Int)==1)=true:=by simp [h2]
  have H2:=Qa h2;clear h2;go_enter func40,ntmps40;go_wp2_with fail;refine (Jl _ _ _ _ _ 1 _ l ks _ (HN.out.below HB.out) (HK.out.below HB.out) HI.out HM.out hml hll (by omega) rfl).mono ?_;rintro e w1 ⟨rfl,hw1⟩;rw [hw1];clear hw1 w1;cases he:exprs (kd l ks) 1
  all_goals
   have Wu:=Qa he;clear he;go_wp2_with fail;go_ret;exact ⟨by rw [HE.out,Wu.out,decide_eq_true H2.out];rfl,HB.out⟩
 ·have h2':((m:Int)==1)=false:=by simp;omega
  have H2:=Qa h2;clear h2;go_enter func40,ntmps40;go_wp2_with fail;go_ret;exact ⟨by rw [HE.out,decide_eq_false H2.out];rfl,HB.out⟩
theorem Qrs (a:Option Addr) (c:Nat) (l:List Nd) (ka:Option Addr) (kc m:Nat) (ks:List Int) (n:Int) (s:ByteArray) (at_:Int) (w:World) (hN:Nodes w a l) (hk:Wo .i64 w ka m (λj=>ks.getD j 0)) (hcap:m<=kc) (hI:Yt l ks) (hm:m=ks.length) (hml:m<=140737488351232) (hll:l.length<=9223372036854775807):
  Calls prog 40 #[.slice a l.length c,.agg #[.int .i64 7,.slice ka m kc,.int .i64 n,.string s,.int .i64 at_]] w λe w'=>e= .returned (.bool (Qq 7 (kd l ks)))/\Below w.heap.size w w':=by
 have HM:=Qa hm;have HN:=Qa hN;have HK:=Qa hk;have HI:=Qa hI;clear hm hN hk hI;have HB:Hid (Below w.heap.size w (w.alloc (.cells #[.int .i64 7,.slice ka m kc,.int .i64 n,.string s,.int .i64 at_] 25))):=Qn;have HE:Hid (Qq 7 (kd l ks)=(decide (m=1)&&exprs (kd l ks) 1)):=by
  show _=_
  try rw [HM.out]
  simp only [Qq,Y7,Zy,Va];rfl
 by_cases h2:m=1
 ·have h2':((m:Int)==1)=true:=by simp [h2]
  have H2:=Qa h2;clear h2;go_enter func40,ntmps40;go_wp2_with fail;refine (Jl _ _ _ _ _ 1 _ l ks _ (HN.out.below HB.out) (HK.out.below HB.out) HI.out HM.out hml hll (by omega) rfl).mono ?_;rintro e w1 ⟨rfl,hw1⟩;rw [hw1];clear hw1 w1;cases he:exprs (kd l ks) 1
  all_goals
   have Wu:=Qa he;clear he;go_wp2_with fail;go_ret;exact ⟨by rw [HE.out,Wu.out,decide_eq_true H2.out];rfl,HB.out⟩
 ·have h2':((m:Int)==1)=false:=by simp;omega
  have H2:=Qa h2;clear h2;go_enter func40,ntmps40;go_wp2_with fail;go_ret;exact ⟨by rw [HE.out,decide_eq_false H2.out];rfl,HB.out⟩
theorem Qh4 (a:Option Addr) (c:Nat) (l:List Nd) (ka:Option Addr) (kc m:Nat) (ks:List Int) (n:Int) (s:ByteArray) (at_:Int) (w:World) (hN:Nodes w a l) (hk:Wo .i64 w ka m (λj=>ks.getD j 0)) (hcap:m<=kc) (hI:Yt l ks) (hm:m=ks.length) (hml:m<=140737488351232) (hll:l.length<=9223372036854775807):
  Calls prog 40 #[.slice a l.length c,.agg #[.int .i64 9,.slice ka m kc,.int .i64 n,.string s,.int .i64 at_]] w λe w'=>e= .returned (.bool (Qq 9 (kd l ks)))/\Below w.heap.size w w':=by
 have HM:=Qa hm;have HN:=Qa hN;have HK:=Qa hk;have HI:=Qa hI;clear hm hN hk hI;have HB:Hid (Below w.heap.size w (w.alloc (.cells #[.int .i64 9,.slice ka m kc,.int .i64 n,.string s,.int .i64 at_] 25))):=Qn;have HE:Hid (Qq 9 (kd l ks)=(decide (m=1)&&exprs (kd l ks) 1)):=by
  show _=_
  try rw [HM.out]
  simp only [Qq,Y7,Zy,Va];rfl
 by_cases h2:m=1
 ·have h2':((m:Int)==1)=true:=by simp [h2]
  have H2:=Qa h2;clear h2;go_enter func40,ntmps40;go_wp2_with fail;refine (Jl _ _ _ _ _ 1 _ l ks _ (HN.out.below HB.out) (HK.out.below HB.out) HI.out HM.out hml hll (by omega) rfl).mono ?_;rintro e w1 ⟨rfl,hw1⟩;rw [hw1];clear hw1 w1;cases he:exprs (kd l ks) 1
  all_goals
   have Wu:=Qa he;clear he;go_wp2_with fail;go_ret;exact ⟨by rw [HE.out,Wu.out,decide_eq_true H2.out];rfl,HB.out⟩
 ·have h2':((m:Int)==1)=false:=by simp;omega
  have H2:=Qa h2;clear h2;go_enter func40,ntmps40;go_wp2_with fail;go_ret;exact ⟨by rw [HE.out,decide_eq_false H2.out];rfl,HB.out⟩
theorem Qkp (a:Option Addr) (c:Nat) (l:List Nd) (ka:Option Addr) (kc m:Nat) (ks:List Int) (n:Int) (s:ByteArray) (at_:Int) (w:World) (hN:Nodes w a l) (hk:Wo .i64 w ka m (λj=>ks.getD j 0)) (hcap:m<=kc) (hI:Yt l ks) (hm:m=ks.length) (hml:m<=140737488351232) (hll:l.length<=9223372036854775807):
  Calls prog 40 #[.slice a l.length c,.agg #[.int .i64 10,.slice ka m kc,.int .i64 n,.string s,.int .i64 at_]] w λe w'=>e= .returned (.bool (Qq 10 (kd l ks)))/\Below w.heap.size w w':=by
 have HM:=Qa hm;have HN:=Qa hN;have HK:=Qa hk;have HI:=Qa hI;clear hm hN hk hI;have HB:Hid (Below w.heap.size w (w.alloc (.cells #[.int .i64 10,.slice ka m kc,.int .i64 n,.string s,.int .i64 at_] 25))):=Qn;have HE:Hid (Qq 10 (kd l ks)=(decide (m=1)&&exprs (kd l ks) 1)):=by
  show _=_
  try rw [HM.out]
  simp only [Qq,Y7,Zy,Va];rfl
 by_cases h2:m=1
 ·have h2':((m:Int)==1)=true:=by simp [h2]
  have H2:=Qa h2;clear h2;go_enter func40,ntmps40;go_wp2_with fail;refine (Jl _ _ _ _ _ 1 _ l ks _ (HN.out.below HB.out) (HK.out.below HB.out) HI.out HM.out hml hll (by omega) rfl).mono ?_;rintro e w1 ⟨rfl,hw1⟩;rw [hw1];clear hw1 w1;cases he:exprs (kd l ks) 1
  all_goals
   have Wu:=Qa he;clear he;go_wp2_with fail;go_ret;exact ⟨by rw [HE.out,Wu.out,decide_eq_true H2.out];rfl,HB.out⟩
 ·have h2':((m:Int)==1)=false:=by simp;omega
  have H2:=Qa h2;clear h2;go_enter func40,ntmps40;go_wp2_with fail;go_ret;exact ⟨by rw [HE.out,decide_eq_false H2.out];rfl,HB.out⟩
theorem Qiu (a:Option Addr) (c:Nat) (l:List Nd) (ka:Option Addr) (kc m:Nat) (ks:List Int) (n:Int) (s:ByteArray) (at_:Int) (w:World) (hN:Nodes w a l) (hk:Wo .i64 w ka m (λj=>ks.getD j 0)) (hcap:m<=kc) (hI:Yt l ks) (hm:m=ks.length) (hml:m<=140737488351232) (hll:l.length<=9223372036854775807):
  Calls prog 40 #[.slice a l.length c,.agg #[.int .i64 12,.slice ka m kc,.int .i64 n,.string s,.int .i64 at_]] w λe w'=>e= .returned (.bool (Qq 12 (kd l ks)))/\Below w.heap.size w w':=by
 have HM:=Qa hm;have HN:=Qa hN;have HK:=Qa hk;have HI:=Qa hI;clear hm hN hk hI;have HB:Hid (Below w.heap.size w (w.alloc (.cells #[.int .i64 12,.slice ka m kc,.int .i64 n,.string s,.int .i64 at_] 25))):=Qn;have HE:Hid (Qq 12 (kd l ks)=(decide (m=1)&&exprs (kd l ks) 1)):=by
  show _=_
  try rw [HM.out]
  simp only [Qq,Y7,Zy,Va];rfl
 by_cases h2:m=1
 ·have h2':((m:Int)==1)=true:=by simp [h2]
  have H2:=Qa h2;clear h2;go_enter func40,ntmps40;go_wp2_with fail;refine (Jl _ _ _ _ _ 1 _ l ks _ (HN.out.below HB.out) (HK.out.below HB.out) HI.out HM.out hml hll (by omega) rfl).mono ?_;rintro e w1 ⟨rfl,hw1⟩;rw [hw1];clear hw1 w1;cases he:exprs (kd l ks) 1
  all_goals
   have Wu:=Qa he;clear he;go_wp2_with fail;go_ret;exact ⟨by rw [HE.out,Wu.out,decide_eq_true H2.out];rfl,HB.out⟩
 ·have h2':((m:Int)==1)=false:=by simp;omega
  have H2:=Qa h2;clear h2;go_enter func40,ntmps40;go_wp2_with fail;go_ret;exact ⟨by rw [HE.out,decide_eq_false H2.out];rfl,HB.out⟩
theorem Qrn (a:Option Addr) (c:Nat) (l:List Nd) (ka:Option Addr) (kc m:Nat) (ks:List Int) (n:Int) (s:ByteArray) (at_:Int) (w:World) (hN:Nodes w a l) (hk:Wo .i64 w ka m (λj=>ks.getD j 0)) (hcap:m<=kc) (hI:Yt l ks) (hm:m=ks.length) (hml:m<=140737488351232) (hll:l.length<=9223372036854775807):
  Calls prog 40 #[.slice a l.length c,.agg #[.int .i64 13,.slice ka m kc,.int .i64 n,.string s,.int .i64 at_]] w λe w'=>e= .returned (.bool (Qq 13 (kd l ks)))/\Below w.heap.size w w':=by
 have HM:=Qa hm;have HN:=Qa hN;have HK:=Qa hk;have HI:=Qa hI;clear hm hN hk hI;have HB:Hid (Below w.heap.size w (w.alloc (.cells #[.int .i64 13,.slice ka m kc,.int .i64 n,.string s,.int .i64 at_] 25))):=Qn;have HE:Hid (Qq 13 (kd l ks)=(decide (m=1)&&exprs (kd l ks) 1)):=by
  show _=_
  try rw [HM.out]
  simp only [Qq,Y7,Zy,Va];rfl
 by_cases h2:m=1
 ·have h2':((m:Int)==1)=true:=by simp [h2]
  have H2:=Qa h2;clear h2;go_enter func40,ntmps40;go_wp2_with fail;refine (Jl _ _ _ _ _ 1 _ l ks _ (HN.out.below HB.out) (HK.out.below HB.out) HI.out HM.out hml hll (by omega) rfl).mono ?_;rintro e w1 ⟨rfl,hw1⟩;rw [hw1];clear hw1 w1;cases he:exprs (kd l ks) 1
  all_goals
   have Wu:=Qa he;clear he;go_wp2_with fail;go_ret;exact ⟨by rw [HE.out,Wu.out,decide_eq_true H2.out];rfl,HB.out⟩
 ·have h2':((m:Int)==1)=false:=by simp;omega
  have H2:=Qa h2;clear h2;go_enter func40,ntmps40;go_wp2_with fail;go_ret;exact ⟨by rw [HE.out,decide_eq_false H2.out];rfl,HB.out⟩
theorem Qok (a:Option Addr) (c:Nat) (l:List Nd) (ka:Option Addr) (kc m:Nat) (ks:List Int) (n:Int) (s:ByteArray) (at_:Int) (w:World) (hN:Nodes w a l) (hk:Wo .i64 w ka m (λj=>ks.getD j 0)) (hcap:m<=kc) (hI:Yt l ks) (hm:m=ks.length) (hml:m<=140737488351232) (hll:l.length<=9223372036854775807):
  Calls prog 40 #[.slice a l.length c,.agg #[.int .i64 20,.slice ka m kc,.int .i64 n,.string s,.int .i64 at_]] w λe w'=>e= .returned (.bool (Qq 20 (kd l ks)))/\Below w.heap.size w w':=by
 have HM:=Qa hm;have HN:=Qa hN;have HK:=Qa hk;have HI:=Qa hI;clear hm hN hk hI;have HB:Hid (Below w.heap.size w (w.alloc (.cells #[.int .i64 20,.slice ka m kc,.int .i64 n,.string s,.int .i64 at_] 25))):=Qn;have HE:Hid (Qq 20 (kd l ks)=(decide (m=1)&&exprs (kd l ks) 1)):=by
  show _=_
  try rw [HM.out]
  simp only [Qq,Y7,Zy,Va];rfl
 by_cases h2:m=1
 ·have h2':((m:Int)==1)=true:=by simp [h2]
  have H2:=Qa h2;clear h2;go_enter func40,ntmps40;go_wp2_with fail;refine (Jl _ _ _ _ _ 1 _ l ks _ (HN.out.below HB.out) (HK.out.below HB.out) HI.out HM.out hml hll (by omega) rfl).mono ?_;rintro e w1 ⟨rfl,hw1⟩;rw [hw1];clear hw1 w1;cases he:exprs (kd l ks) 1
  all_goals
   have Wu:=Qa he;clear he;go_wp2_with fail;go_ret;exact ⟨by rw [HE.out,Wu.out,decide_eq_true H2.out];rfl,HB.out⟩
 ·have h2':((m:Int)==1)=false:=by simp;omega
  have H2:=Qa h2;clear h2;go_enter func40,ntmps40;go_wp2_with fail;go_ret;exact ⟨by rw [HE.out,decide_eq_false H2.out];rfl,HB.out⟩
theorem Qjt (a:Option Addr) (c:Nat) (l:List Nd) (ka:Option Addr) (kc m:Nat) (ks:List Int) (n:Int) (s:ByteArray) (at_:Int) (w:World) (hN:Nodes w a l) (hk:Wo .i64 w ka m (λj=>ks.getD j 0)) (hcap:m<=kc) (hI:Yt l ks) (hm:m=ks.length) (hml:m<=140737488351232) (hll:l.length<=9223372036854775807):
  Calls prog 40 #[.slice a l.length c,.agg #[.int .i64 21,.slice ka m kc,.int .i64 n,.string s,.int .i64 at_]] w λe w'=>e= .returned (.bool (Qq 21 (kd l ks)))/\Below w.heap.size w w':=by
 have HM:=Qa hm;have HN:=Qa hN;have HK:=Qa hk;have HI:=Qa hI;clear hm hN hk hI;have HB:Hid (Below w.heap.size w (w.alloc (.cells #[.int .i64 21,.slice ka m kc,.int .i64 n,.string s,.int .i64 at_] 25))):=Qn;have HE:Hid (Qq 21 (kd l ks)=(decide (m=1)&&exprs (kd l ks) 1)):=by
  show _=_
  try rw [HM.out]
  simp only [Qq,Y7,Zy,Va];rfl
 by_cases h2:m=1
 ·have h2':((m:Int)==1)=true:=by simp [h2]
  have H2:=Qa h2;clear h2;go_enter func40,ntmps40;go_wp2_with fail;refine (Jl _ _ _ _ _ 1 _ l ks _ (HN.out.below HB.out) (HK.out.below HB.out) HI.out HM.out hml hll (by omega) rfl).mono ?_;rintro e w1 ⟨rfl,hw1⟩;rw [hw1];clear hw1 w1;cases he:exprs (kd l ks) 1
  all_goals
   have Wu:=Qa he;clear he;go_wp2_with fail;go_ret;exact ⟨by rw [HE.out,Wu.out,decide_eq_true H2.out];rfl,HB.out⟩
 ·have h2':((m:Int)==1)=false:=by simp;omega
  have H2:=Qa h2;clear h2;go_enter func40,ntmps40;go_wp2_with fail;go_ret;exact ⟨by rw [HE.out,decide_eq_false H2.out];rfl,HB.out⟩
theorem Qpc (a:Option Addr) (c:Nat) (l:List Nd) (ka:Option Addr) (kc m:Nat) (ks:List Int) (n:Int) (s:ByteArray) (at_:Int) (w:World) (hN:Nodes w a l) (hk:Wo .i64 w ka m (λj=>ks.getD j 0)) (hcap:m<=kc) (hI:Yt l ks) (hm:m=ks.length) (hml:m<=140737488351232) (hll:l.length<=9223372036854775807):
  Calls prog 40 #[.slice a l.length c,.agg #[.int .i64 11,.slice ka m kc,.int .i64 n,.string s,.int .i64 at_]] w λe w'=>e= .returned (.bool (Qq 11 (kd l ks)))/\Below w.heap.size w w':=by
 have HM:=Qa hm;have HN:=Qa hN;have HK:=Qa hk;have HI:=Qa hI;clear hm hN hk hI;have HB:Hid (Below w.heap.size w (w.alloc (.cells #[.int .i64 11,.slice ka m kc,.int .i64 n,.string s,.int .i64 at_] 25))):=Qn;have HE:Hid (Qq 11 (kd l ks)=(decide (m<=8)&&exprs (kd l ks) m)):=by
  show _=_
  try rw [HM.out]
  simp only [Qq,Y7,Zy,Va];rfl
 by_cases h2:m<=8
 ·have H2:=Qa h2;go_enter func40,ntmps40;go_wp2_with fail;refine (Jl _ _ _ _ _ m _ l ks _ (HN.out.below HB.out) (HK.out.below HB.out) HI.out HM.out hml hll (by omega) rfl).mono ?_;rintro e w1 ⟨rfl,hw1⟩;rw [hw1];clear hw1 w1;cases he:exprs (kd l ks) m
  all_goals
   have Wu:=Qa he;clear he;go_wp2_with fail;go_ret;exact ⟨by rw [HE.out,Wu.out,decide_eq_true H2.out];rfl,HB.out⟩
 ·have H2:=Qa h2;go_enter func40,ntmps40;go_wp2_with fail;go_ret;exact ⟨by rw [HE.out,decide_eq_false H2.out];rfl,HB.out⟩
theorem Qsd (a:Option Addr) (c:Nat) (l:List Nd) (ka:Option Addr) (kc m:Nat) (ks:List Int) (n:Int) (s:ByteArray) (at_:Int) (w:World) (hN:Nodes w a l) (hk:Wo .i64 w ka m (λj=>ks.getD j 0)) (hcap:m<=kc) (hI:Yt l ks) (hm:m=ks.length) (hml:m<=140737488351232) (hll:l.length<=9223372036854775807):
  Calls prog 40 #[.slice a l.length c,.agg #[.int .i64 15,.slice ka m kc,.int .i64 n,.string s,.int .i64 at_]] w λe w'=>e= .returned (.bool (Qq 15 (kd l ks)))/\Below w.heap.size w w':=by
 have HM:=Qa hm;have HN:=Qa hN;have HK:=Qa hk;have HI:=Qa hI;clear hm hN hk hI;have HB:Hid (Below w.heap.size w (w.alloc (.cells #[.int .i64 15,.slice ka m kc,.int .i64 n,.string s,.int .i64 at_] 25))):=Qn;have HE:Hid (Qq 15 (kd l ks)=(exprs (kd l ks) 1&&decide (2<=m)&&Yp (kd l (ks.drop 1)) 23 2)):=by
  show _=_
  try rw [HM.out]
  simp only [Qq,Y7,Zy,Va];rfl
 go_enter func40,ntmps40;go_wp2_with fail;refine (Jl _ _ _ _ _ 1 _ l ks _ (HN.out.below HB.out) (HK.out.below HB.out) HI.out HM.out hml hll (by omega) rfl).mono ?_;rintro e w1 ⟨rfl,hw1⟩;rw [hw1];clear hw1 w1;cases he:exprs (kd l ks) 1 with
 |false=>
  have Wu:=Qa he;clear he;go_wp2_with fail;go_ret;exact ⟨by rw [HE.out,Wu.out];rfl,HB.out⟩
 |true=>
  have Wu:=Qa he;clear he;by_cases h2:2<=m
  ·have H2:=Qa h2;skip;go_wp2_with fail;refine (Ir _ _ _ _ _ 2 _ _ l (ks.drop 1) _ (HN.out.below HB.out) (Mx (HK.out.below HB.out)) (HI.out.drop 1) (by rw [Xt,<-HM.out]) (by omega) hll (by omega) rfl).mono ?_;rintro e w1 ⟨rfl,hw1⟩;rw [hw1];clear hw1 w1;cases he:Yp (kd l (ks.drop 1)) 23 2
   all_goals
    have Cb:=Qa he;clear he;go_wp2_with fail;go_ret;exact ⟨by rw [HE.out,Wu.out,decide_eq_true H2.out,Cb.out];rfl,HB.out⟩
  ·have H2:=Qa h2;skip;go_wp2_with fail;go_ret;exact ⟨by rw [HE.out,Wu.out,decide_eq_false H2.out];rfl,HB.out⟩
theorem Qiv (a:Option Addr) (c:Nat) (l:List Nd) (ka:Option Addr) (kc m:Nat) (ks:List Int) (n:Int) (s:ByteArray) (at_:Int) (w:World) (hN:Nodes w a l) (hk:Wo .i64 w ka m (λj=>ks.getD j 0)) (hcap:m<=kc) (hI:Yt l ks) (hm:m=ks.length) (hml:m<=140737488351232) (hll:l.length<=9223372036854775807):
  Calls prog 40 #[.slice a l.length c,.agg #[.int .i64 16,.slice ka m kc,.int .i64 n,.string s,.int .i64 at_]] w λe w'=>e= .returned (.bool (Qq 16 (kd l ks)))/\Below w.heap.size w w':=by
 have HM:=Qa hm;have HN:=Qa hN;have HK:=Qa hk;have HI:=Qa hI;clear hm hN hk hI;have HB:Hid (Below w.heap.size w (w.alloc (.cells #[.int .i64 16,.slice ka m kc,.int .i64 n,.string s,.int .i64 at_] 25))):=Qn;have HE:Hid (Qq 16 (kd l ks)=(exprs (kd l ks) 1&&decide (m=2)&&Yp (kd l (ks.drop 1)) 23 1)):=by
  show _=_
  try rw [HM.out]
  simp only [Qq,Y7,Zy,Va];rfl
 go_enter func40,ntmps40;go_wp2_with fail;refine (Jl _ _ _ _ _ 1 _ l ks _ (HN.out.below HB.out) (HK.out.below HB.out) HI.out HM.out hml hll (by omega) rfl).mono ?_;rintro e w1 ⟨rfl,hw1⟩;rw [hw1];clear hw1 w1;cases he:exprs (kd l ks) 1 with
 |false=>
  have Wu:=Qa he;clear he;go_wp2_with fail;go_ret;exact ⟨by rw [HE.out,Wu.out];rfl,HB.out⟩
 |true=>
  have Wu:=Qa he;clear he;by_cases h2:m=2
  ·have h2':((m:Int)==2)=true:=(by simp [h2]);have hge:2<=m:=(by omega);have H2:=Qa h2;clear h2;go_wp2_with fail;refine (Ir _ _ _ _ _ 1 _ _ l (ks.drop 1) _ (HN.out.below HB.out) (Mx (HK.out.below HB.out)) (HI.out.drop 1) (by rw [Xt,<-HM.out]) (by omega) hll (by omega) rfl).mono ?_;rintro e w1 ⟨rfl,hw1⟩;rw [hw1];clear hw1 w1;cases he:Yp (kd l (ks.drop 1)) 23 1
   all_goals
    have Cb:=Qa he;clear he;go_wp2_with fail;go_ret;exact ⟨by rw [HE.out,Wu.out,decide_eq_true H2.out,Cb.out];rfl,HB.out⟩
  ·have h2':((m:Int)==2)=false:=(by simp;omega);have H2:=Qa h2;clear h2;go_wp2_with fail;go_ret;exact ⟨by rw [HE.out,Wu.out,decide_eq_false H2.out];rfl,HB.out⟩
theorem Qi9 (a:Option Addr) (c:Nat) (l:List Nd) (ka:Option Addr) (kc m:Nat) (ks:List Int) (n:Int) (s:ByteArray) (at_:Int) (w:World) (hN:Nodes w a l) (hk:Wo .i64 w ka m (λj=>ks.getD j 0)) (hcap:m<=kc) (hI:Yt l ks) (hm:m=ks.length) (hml:m<=140737488351232) (hll:l.length<=9223372036854775807):
  Calls prog 40 #[.slice a l.length c,.agg #[.int .i64 17,.slice ka m kc,.int .i64 n,.string s,.int .i64 at_]] w λe w'=>e= .returned (.bool (Qq 17 (kd l ks)))/\Below w.heap.size w w':=by
 have HM:=Qa hm;have HN:=Qa hN;have HK:=Qa hk;have HI:=Qa hI;clear hm hN hk hI;have HB:Hid (Below w.heap.size w (w.alloc (.cells #[.int .i64 17,.slice ka m kc,.int .i64 n,.string s,.int .i64 at_] 25))):=Qn;have HE:Hid (Qq 17 (kd l ks)=(exprs (kd l ks) 2&&decide (m=3)&&Yp (kd l (ks.drop 2)) 23 1)):=by
  show _=_
  try rw [HM.out]
  simp only [Qq,Y7,Zy,Va];rfl
 go_enter func40,ntmps40;go_wp2_with fail;refine (Jl _ _ _ _ _ 2 _ l ks _ (HN.out.below HB.out) (HK.out.below HB.out) HI.out HM.out hml hll (by omega) rfl).mono ?_;rintro e w1 ⟨rfl,hw1⟩;rw [hw1];clear hw1 w1;cases he:exprs (kd l ks) 2 with
 |false=>
  have Wu:=Qa he;clear he;go_wp2_with fail;go_ret;exact ⟨by rw [HE.out,Wu.out];rfl,HB.out⟩
 |true=>
  have Wu:=Qa he;clear he;by_cases h2:m=3
  ·have h2':((m:Int)==3)=true:=(by simp [h2]);have hge:3<=m:=(by omega);have H2:=Qa h2;clear h2;go_wp2_with fail;refine (Ir _ _ _ _ _ 1 _ _ l (ks.drop 2) _ (HN.out.below HB.out) (Mx (HK.out.below HB.out)) (HI.out.drop 2) (by rw [Xt,<-HM.out]) (by omega) hll (by omega) rfl).mono ?_;rintro e w1 ⟨rfl,hw1⟩;rw [hw1];clear hw1 w1;cases he:Yp (kd l (ks.drop 2)) 23 1
   all_goals
    have Cb:=Qa he;clear he;go_wp2_with fail;go_ret;exact ⟨by rw [HE.out,Wu.out,decide_eq_true H2.out,Cb.out];rfl,HB.out⟩
  ·have h2':((m:Int)==3)=false:=(by simp;omega);have H2:=Qa h2;clear h2;go_wp2_with fail;go_ret;exact ⟨by rw [HE.out,Wu.out,decide_eq_false H2.out];rfl,HB.out⟩
theorem Qp8 (a:Option Addr) (c:Nat) (l:List Nd) (ka:Option Addr) (kc m:Nat) (ks:List Int) (n:Int) (s:ByteArray) (at_:Int) (w:World) (hN:Nodes w a l) (hk:Wo .i64 w ka m (λj=>ks.getD j 0)) (hcap:m<=kc) (hI:Yt l ks) (hm:m=ks.length) (hml:m<=140737488351232) (hll:l.length<=9223372036854775807):
  Calls prog 40 #[.slice a l.length c,.agg #[.int .i64 22,.slice ka m kc,.int .i64 n,.string s,.int .i64 at_]] w λe w'=>e= .returned (.bool (Qq 22 (kd l ks)))/\Below w.heap.size w w':=by
 have HM:=Qa hm;have HN:=Qa hN;have HK:=Qa hk;have HI:=Qa hI;clear hm hN hk hI;have HB:Hid (Below w.heap.size w (w.alloc (.cells #[.int .i64 22,.slice ka m kc,.int .i64 n,.string s,.int .i64 at_] 25))):=Qn;have HE:Hid (Qq 22 (kd l ks)=(decide (m=1)&&decide ((kd l ks).getD 0 0=11))):=by
  show _=_
  try rw [HM.out]
  simp only [Qq,Y7,Zy,Va];rfl
 by_cases h2:m=1
 ·have h2':((m:Int)==1)=true:=by simp [h2]
  obtain ⟨kb,ko,lb,lo,q,rfl,rfl,hc,hq,⟨h5,_⟩,hkd,_⟩:=F5 (j:=0) HN.out HK.out HI.out HM.out (by omega);have hb5:Hid (lb<w.heap.size):=Em h5;have hbk:Hid (kb<w.heap.size):=Em hc;have h5':=(World.cell?_alloc_lt w (.cells #[.int .i64 22,.slice (some ⟨kb,ko,none⟩) m kc,.int .i64 n,.string s,.int .i64 at_] 25) ⟨lb,lo+q*5,none⟩ hb5.out).trans h5;have hc':=(World.cell?_alloc_lt w (.cells #[.int .i64 22,.slice (some ⟨kb,ko,none⟩) m kc,.int .i64 n,.string s,.int .i64 at_] 25) ⟨kb,ko+0,none⟩ hbk.out).trans hc;rw [Nat.add_zero]at hc';obtain ⟨Z,hZ⟩:=Qb ((nd l q).kind);rw [<-hZ]at h5' hkd;have Yq:=Qa hkd;have H2:=Qa h2;have hm1:1<=m:=by omega
  clear hZ hkd h2 h5 hc;by_cases he:Z=11
  ·have he':(Z==11)=true:=(by simp [he]);have Wu:=Qa he;clear he;go_enter func40,ntmps40;go_wp2_with fail;go_ret;exact ⟨by rw [HE.out,decide_eq_true H2.out,Yq.out,decide_eq_true Wu.out];rfl,HB.out⟩
  ·have he':(Z==11)=false:=(by simp [he]);have Wu:=Qa he;clear he;go_enter func40,ntmps40;go_wp2_with fail;go_ret;exact ⟨by rw [HE.out,decide_eq_true H2.out,Yq.out,decide_eq_false Wu.out];rfl,HB.out⟩
 ·have h2':((m:Int)==1)=false:=by simp;omega
  have H2:=Qa h2;clear h2;go_enter func40,ntmps40;go_wp2_with fail;go_ret;exact ⟨by rw [HE.out,decide_eq_false H2.out];rfl,HB.out⟩
theorem Qe5 {ks:List Int} {k:Nat} (hk:k<ks.length) (h:Y9 (ks.getD k 0)=false):ks.all Y9=false:=by rw [List.all_eq_false];refine ⟨ks[k],Ca hk,?_⟩;rw [Yh,Za hk]at h;have h':Y9 ks[k]=false:=h;simp [h']
theorem Qcq {ks:List Int} (h: ∀k,k<ks.length->Y9 (ks.getD k 0)=true):ks.all Y9=true:=by rw [Cr];intro x hx;obtain ⟨k,hk,rfl⟩:=List.mem_iff_getElem.1 hx;have:=h k hk;rw [Yh,Za hk]at this;exact this
theorem Qo3 (a:Option Addr) (c:Nat) (l:List Nd) (ka:Option Addr) (kc m:Nat) (ks:List Int) (n:Int) (s:ByteArray) (at_:Int) (w:World) (hN:Nodes w a l) (hk:Wo .i64 w ka m (λj=>ks.getD j 0)) (hcap:m<=kc) (hI:Yt l ks) (hm:m=ks.length) (hml:m<=140737488351232) (hll:l.length<=9223372036854775807):
  Calls prog 40 #[.slice a l.length c,.agg #[.int .i64 23,.slice ka m kc,.int .i64 n,.string s,.int .i64 at_]] w λe w'=>e= .returned (.bool (Qq 23 (kd l ks)))/\Below w.heap.size w w':=by
 have HM:=Qa hm;have HN:=Qa hN;have HK:=Qa hk;have HI:=Qa hI;clear hm hN hk hI;have HB:Hid (Below w.heap.size w (w.alloc (.cells #[.int .i64 23,.slice ka m kc,.int .i64 n,.string s,.int .i64 at_] 25))):=Qn;have HE:Hid (Qq 23 (kd l ks)=((kd l ks).all Y9)):=by
  show _=_
  try rw [HM.out]
  simp only [Qq,Y7,Zy,Va];rfl
 have HL:Hid ((kd l ks).length=m):=by show _=m;rw [Y7,<-HM.out]
 obtain ⟨B,hB⟩:=Qb (Qq 23 (kd l ks));rw [<-hB];have X3:Hid (B=(kd l ks).all Y9):=hB.trans HE.out;clear hB HE;go_enter func40,ntmps40;go_wp2_with fail;obtain ⟨w1,hw1⟩:=Qb (w.alloc (.cells #[.int .i64 23,.slice ka m kc,.int .i64 n,.string s,.int .i64 at_] 25));have HB1:Hid (Below w.heap.size w w1):=by rw [hw1];exact HB.out
 have G6:=Qa (HN.out.below HB1.out);have Y3:=Qa (HK.out.below HB1.out);rw [<-hw1];clear hw1 HB;go_loop [6] (λi=> ∃k:Nat,k<=m/\i= .int .i64 (k:Int)/\Hid (∀j,j<k->Y9 ((kd l ks).getD j 0)=true)) (λi=>m-(intOf i).toNat)
 case atStart=>exact ⟨0,by omega,rfl,λj hj=>by omega⟩
 case round=>
  obtain ⟨k,hk,rfl,hE⟩:=hrel;by_cases hkn:k<m
  ·obtain ⟨kb,ko,lb,lo,q,rfl,rfl,hc,hq,⟨h5,_⟩,hkd,_⟩:=F5 (j:=k) G6.out Y3.out HI.out HM.out (by omega);obtain ⟨Z,hZ⟩:=Qb ((nd l q).kind);rw [<-hZ]at h5 hkd;have Yq:=Qa hkd;clear hZ hkd;go_wp2_with fail;refine (Qkz Z w1).mono ?_;rintro e w2 ⟨rfl,hw2⟩;rw [hw2];clear hw2 w2;cases he:Y9 Z with
   |true=>
    have HE:=Qa he;clear he;go_wp2_with fail;go_round
    case rel=>exact ⟨k+1,by omega,by go_num,λj hj=>by
     rcases Xa j k with h |h
     ·exact hE.out j h
     ·rw [show j=k by omega,Yq.out];exact HE.out⟩
    case measure=>simp [intOf];omega
   |false=>
    have HE:=Qa he;clear he;go_wp2_with fail;go_ret;exact ⟨by rw [X3.out,Qe5 (by rw [HL.out];exact hkn) (by rw [Yq.out];exact HE.out)];rfl,HB1.out⟩
  ·obtain rfl:k=m:=(by omega);go_wp2_with fail;go_ret;exact ⟨by rw [X3.out,Qcq (λj hj=>hE.out j (by rw [HL.out]at hj;exact hj))];rfl,HB1.out⟩
theorem Qlx (a:Option Addr) (c:Nat) (l:List Nd) (ka:Option Addr) (kc m:Nat) (ks:List Int) (n:Int) (s:ByteArray) (at_:Int) (w:World) (hN:Nodes w a l) (hk:Wo .i64 w ka m (λj=>ks.getD j 0)) (hcap:m<=kc) (hI:Yt l ks) (hm:m=ks.length) (hml:m<=140737488351232) (hll:l.length<=9223372036854775807):
  Calls prog 40 #[.slice a l.length c,.agg #[.int .i64 25,.slice ka m kc,.int .i64 n,.string s,.int .i64 at_]] w λe w'=>e= .returned (.bool (Qq 25 (kd l ks)))/\Below w.heap.size w w':=by
 have HM:=Qa hm;have HN:=Qa hN;have HK:=Qa hk;have HI:=Qa hI;clear hm hN hk hI;have HB:Hid (Below w.heap.size w (w.alloc (.cells #[.int .i64 25,.slice ka m kc,.int .i64 n,.string s,.int .i64 at_] 25))):=Qn;have HE:Hid (Qq 25 (kd l ks)=(decide (1<=m)&&Yp (kd l (ks.take (m-1))) 24 8&&decide ((kd l ks).getD (m-1) 0=23))):=by
  show _=_
  try rw [HM.out]
  simp only [Qq,Y7,Zy,Va];rfl
 by_cases h2:1<=m
 ·have H2:=Qa h2;obtain ⟨kb,ko,lb,lo,q,rfl,rfl,hc,hq,⟨h5,_⟩,hkd,_⟩:=F5 (j:=m-1) HN.out HK.out HI.out HM.out (by omega);have hb5:Hid (lb<w.heap.size):=Em h5;have hbk:Hid (kb<w.heap.size):=Em hc;obtain ⟨p,hp⟩: ∃p,m=p+1:=⟨m-1,by omega⟩;subst hp;rw [Nat.add_sub_cancel]at hc hkd HE;have h5':=(World.cell?_alloc_lt w (.cells #[.int .i64 25,.slice (some ⟨kb,ko,none⟩) (p+1) kc,.int .i64 n,.string s,.int .i64 at_] 25) ⟨lb,lo+q*5,none⟩ hb5.out).trans h5;have hc':=(World.cell?_alloc_lt w (.cells #[.int .i64 25,.slice (some ⟨kb,ko,none⟩) (p+1) kc,.int .i64 n,.string s,.int .i64 at_] 25) ⟨kb,ko+p,none⟩ hbk.out).trans hc;obtain ⟨Z,hZ⟩:=Qb ((nd l q).kind);rw [<-hZ]at h5' hkd;have Yq:=Qa hkd;clear hZ hkd h5 hc;go_enter func40,ntmps40;go_wp2_with fail;refine (Ir _ _ _ _ _ 8 _ _ l (ks.take p) _ (HN.out.below HB.out) (Qop (HK.out.below HB.out) (by omega)) (HI.out.take p) (by rw [Vr,<-HM.out];omega) (by omega) hll (by omega) rfl).mono ?_;rintro e w1 ⟨rfl,hw1⟩;rw [hw1];clear hw1 w1;cases he:Yp (kd l (ks.take p)) 24 8 with
  |false=>
   have Cb:=Qa he;clear he;go_wp2_with fail;go_ret;exact ⟨by rw [HE.out,Cb.out];simp,HB.out⟩
  |true=>
   have Cb:=Qa he;clear he;by_cases hz:Z=23
   ·have hz':(Z==23)=true:=(by simp [hz]);have Wu:=Qa hz;clear hz;go_wp2_with fail;go_ret;exact ⟨by rw [HE.out,Cb.out,Yq.out,decide_eq_true Wu.out];simp,HB.out⟩
   ·have hz':(Z==23)=false:=(by simp [hz]);have Wu:=Qa hz;clear hz;go_wp2_with fail;go_ret;exact ⟨by rw [HE.out,Cb.out,Yq.out,decide_eq_false Wu.out];simp,HB.out⟩
 ·have H2:=Qa h2;go_enter func40,ntmps40;go_wp2_with fail;go_ret;exact ⟨by rw [HE.out,decide_eq_false H2.out];rfl,HB.out⟩
theorem Qjr (a:Option Addr) (c:Nat) (l:List Nd) (ka:Option Addr) (kc m:Nat) (ks:List Int) (n:Int) (s:ByteArray) (at_:Int) (w:World) (hN:Nodes w a l) (hk:Wo .i64 w ka m (λj=>ks.getD j 0)) (hcap:m<=kc) (hI:Yt l ks) (hm:m=ks.length) (hml:m<=140737488351232) (hll:l.length<=9223372036854775807):
  Calls prog 40 #[.slice a l.length c,.agg #[.int .i64 26,.slice ka m kc,.int .i64 n,.string s,.int .i64 at_]] w λe w'=>e= .returned (.bool (Qq 26 (kd l ks)))/\Below w.heap.size w w':=by
 have HM:=Qa hm;have HN:=Qa hN;have HK:=Qa hk;have HI:=Qa hI;clear hm hN hk hI;have HB:Hid (Below w.heap.size w (w.alloc (.cells #[.int .i64 26,.slice ka m kc,.int .i64 n,.string s,.int .i64 at_] 25))):=Qn;have HE:Hid (Qq 26 (kd l ks)=(Yp (kd l ks) 25 200)):=by
  show _=_
  try rw [HM.out]
  simp only [Qq,Y7,Zy,Va];rfl
 go_enter func40,ntmps40;go_wp2_with fail;refine (Ir _ _ _ _ _ 200 _ _ l ks _ (HN.out.below HB.out) (HK.out.below HB.out) HI.out HM.out hml hll (by omega) rfl).mono ?_;rintro e w1 ⟨rfl,hw1⟩;rw [hw1];clear hw1 w1;obtain ⟨B,hB⟩:=Qb (Yp (kd l ks) 25 200);rw [<-hB]at HE ⊢;clear hB;go_wp2_with fail;go_ret;exact ⟨by rw [HE.out];rfl,HB.out⟩
theorem Qq8 (K:Int) (a:Option Addr) (c:Nat) (l:List Nd) (ka:Option Addr) (kc m:Nat) (ks:List Int) (n:Int) (s:ByteArray) (at_:Int) (w:World) (hN:Nodes w a l) (hk:Wo .i64 w ka m (λj=>ks.getD j 0)) (hcap:m<=kc) (hI:Yt l ks) (hm:m=ks.length) (hml:m<=140737488351232) (hll:l.length<=9223372036854775807) (hK:K≠5/\K≠8/\K≠14/\K≠6/\K≠7/\K≠9/\K≠10/\K≠12/\K≠13/\K≠20/\K≠21/\K≠11/\K≠15/\K≠16/\K≠17/\K≠22/\K≠23/\K≠25/\K≠26):
  Calls prog 40 #[.slice a l.length c,.agg #[.int .i64 K,.slice ka m kc,.int .i64 n,.string s,.int .i64 at_]] w λe w'=>e= .returned (.bool (Qq K (kd l ks)))/\Below w.heap.size w w':=by
 have HM:=Qa hm;have HN:=Qa hN;have HK:=Qa hk;have HI:=Qa hI;clear hm hN hk hI;have HB:Hid (Below w.heap.size w (w.alloc (.cells #[.int .i64 K,.slice ka m kc,.int .i64 n,.string s,.int .i64 at_] 25))):=Qn;have HE:Hid (Qq K (kd l ks)=decide (m=0)):=by show _=_;rw [HM.out];unfold Qq;rw [Y7];simp [hK]
 obtain ⟨g5,g8,g14,g6,g7,g9,g10,g12,g13,g20,g21,g11,g15,g16,g17,g22,g23,Lp,Md⟩:=hK;have e5:(K==5)=false:=by simpa using g5
 have e8:(K==8)=false:=by simpa using g8
 have e14:(K==14)=false:=by simpa using g14
 have e6:(K==6)=false:=by simpa using g6
 have e7:(K==7)=false:=by simpa using g7
 have e9:(K==9)=false:=by simpa using g9
 have e10:(K==10)=false:=by simpa using g10
 have e12:(K==12)=false:=by simpa using g12
 have e13:(K==13)=false:=by simpa using g13
 have e20:(K==20)=false:=by simpa using g20
 have e21:(K==21)=false:=by simpa using g21
 have e11:(K==11)=false:=by simpa using g11
 have e15:(K==15)=false:=by simpa using g15
 have e16:(K==16)=false:=by simpa using g16
 have e17:(K==17)=false:=by simpa using g17
 have e22:(K==22)=false:=by simpa using g22
 have e23:(K==23)=false:=by simpa using g23
 have e25:(K==25)=false:=by simpa using Lp
 have e26:(K==26)=false:=by simpa using Md
 clear g5 g8 g14 g6 g7 g9 g10 g12 g13 g20 g21 g11 g15 g16 g17 g22 g23 Lp Md;by_cases h2:m=0
 ·have h2':((m:Int)==0)=true:=by simp [h2]
  have H2:=Qa h2;clear h2;go_enter func40,ntmps40;go_wp2_with fail;go_ret;exact ⟨by rw [HE.out,decide_eq_true H2.out];rfl,HB.out⟩
 ·have h2':((m:Int)==0)=false:=by simp;omega
  have H2:=Qa h2;clear h2;go_enter func40,ntmps40;go_wp2_with fail;go_ret;exact ⟨by rw [HE.out,decide_eq_false H2.out];rfl,HB.out⟩
theorem Qm4 (a:Option Addr) (c:Nat) (l:List Nd) (x:Nd) (w:World) (hN:Nodes w a l) (hx:Ok w x) (hI:Yt l x.kids) (hll:l.length<=9223372036854775807):
  Calls prog 40 #[.slice a l.length c,x.v] w λe w'=>e= .returned (.bool (Qq x.kind (kk l x)))/\Below w.heap.size w w':=by
 obtain ⟨K,ka,kc,ks,n,s,at_⟩:=x;have h1:=hx.rows;have h2:=hx.cap;have h3:=hx.len;show Calls prog 40 #[.slice a l.length c,.agg #[.int .i64 K,.slice ka ks.length kc,.int .i64 n,.string s,.int .i64 at_]] w λe w'=>e= .returned (.bool (Qq K (kd l ks)))/\Below w.heap.size w w';by_cases g5:K=5
 ·subst g5;exact Qnn a c l ka kc ks.length ks n s at_ w hN h1 h2 hI rfl h3 hll
 by_cases g8:K=8
 ·subst g8;exact Qg7 a c l ka kc ks.length ks n s at_ w hN h1 h2 hI rfl h3 hll
 by_cases g14:K=14
 ·subst g14;exact Qis a c l ka kc ks.length ks n s at_ w hN h1 h2 hI rfl h3 hll
 by_cases g6:K=6
 ·subst g6;exact Qos a c l ka kc ks.length ks n s at_ w hN h1 h2 hI rfl h3 hll
 by_cases g7:K=7
 ·subst g7;exact Qrs a c l ka kc ks.length ks n s at_ w hN h1 h2 hI rfl h3 hll
 by_cases g9:K=9
 ·subst g9;exact Qh4 a c l ka kc ks.length ks n s at_ w hN h1 h2 hI rfl h3 hll
 by_cases g10:K=10
 ·subst g10;exact Qkp a c l ka kc ks.length ks n s at_ w hN h1 h2 hI rfl h3 hll
 by_cases g12:K=12
 ·subst g12;exact Qiu a c l ka kc ks.length ks n s at_ w hN h1 h2 hI rfl h3 hll
 by_cases g13:K=13
 ·subst g13;exact Qrn a c l ka kc ks.length ks n s at_ w hN h1 h2 hI rfl h3 hll
 by_cases g20:K=20
 ·subst g20;exact Qok a c l ka kc ks.length ks n s at_ w hN h1 h2 hI rfl h3 hll
 by_cases g21:K=21
 ·subst g21;exact Qjt a c l ka kc ks.length ks n s at_ w hN h1 h2 hI rfl h3 hll
 by_cases g11:K=11
 ·subst g11;exact Qpc a c l ka kc ks.length ks n s at_ w hN h1 h2 hI rfl h3 hll
 by_cases g15:K=15
 ·subst g15;exact Qsd a c l ka kc ks.length ks n s at_ w hN h1 h2 hI rfl h3 hll
 by_cases g16:K=16
 ·subst g16;exact Qiv a c l ka kc ks.length ks n s at_ w hN h1 h2 hI rfl h3 hll
 by_cases g17:K=17
 ·subst g17;exact Qi9 a c l ka kc ks.length ks n s at_ w hN h1 h2 hI rfl h3 hll
 by_cases g22:K=22
 ·subst g22;exact Qp8 a c l ka kc ks.length ks n s at_ w hN h1 h2 hI rfl h3 hll
 by_cases g23:K=23
 ·subst g23;exact Qo3 a c l ka kc ks.length ks n s at_ w hN h1 h2 hI rfl h3 hll
 by_cases Lp:K=25
 ·subst Lp;exact Qlx a c l ka kc ks.length ks n s at_ w hN h1 h2 hI rfl h3 hll
 by_cases Md:K=26
 ·subst Md;exact Qjr a c l ka kc ks.length ks n s at_ w hN h1 h2 hI rfl h3 hll
 exact Qq8 K a c l ka kc ks.length ks n s at_ w hN h1 h2 hI rfl h3 hll ⟨g5,g8,g14,g6,g7,g9,g10,g12,g13,g20,g21,g11,g15,g16,g17,g22,g23,Lp,Md⟩
end
end Go.Proofs.YtdncpkkhkbijfaaDoor
