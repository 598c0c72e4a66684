import Derived.Test.YtdncpkkhkbijfaaGreatDoorBa2
import Derived.Test.YtdncpkkhkbijfaaGreatDoorRows
import Derived.Deep.Slices
import Derived.SizedLaws
import Derived.Deep.QuietTactic
import Derived.BigQuiet
open Go.Proofs.Tryz
set_option linter.all false
set_option maxHeartbeats 0
set_option maxRecDepth 100000
namespace Go.Proofs.YtdncpkkhkbijfaaGreatDoor
section
open Go.ChangeShapes Go.WideShapes Go.ChangeAt Go.RowKit
def Nd.cs (x:Nd):Array Value:= #[.int .i64 x.kind,.slice x.ka x.kids.length x.kc,.int .i64 x.n,.string x.s,.int .i64 x.at_]
def Nd.v (x:Nd):Value:=.agg x.cs
structure Ok (w:World) (x:Nd):Prop where
 rows:Vd .i64 w x.ka x.kids.length (λj=>x.kids.getD j 0)
 cap:x.kids.length<=x.kc
 none:x.ka=none->x.kc=0
 len:x.kids.length<=140737488351232
 n0: -9223372036854775808<=x.n
 n1:x.n<=9223372036854775807
 s:x.s.size<=140737488351232
theorem Ok.below {w w':World} {x:Nd} (h:Ok w x) (hb:Below w.heap.size w w'):Ok w' x:=⟨h.rows.below hb,h.cap,h.none,h.len,h.n0,h.n1,h.s⟩
def Qes (w:World) (b o:Nat) (x:Nd):Prop:=
 w.cell? ⟨b,o,none⟩=some (.int .i64 x.kind)/\w.cell? ⟨b,o+1,none⟩=some (.slice x.ka x.kids.length x.kc)/\w.cell? ⟨b,o+2,none⟩=some (.int .i64 x.n)/\
 w.cell? ⟨b,o+3,none⟩=some (.string x.s)/\w.cell? ⟨b,o+4,none⟩=some (.int .i64 x.at_)
theorem Qes.below {w w':World} {b o B:Nat} {x:Nd} (h:Qes w b o x) (hb:Below B w w') (hlt:b<B):Qes w' b o x:=by obtain ⟨h0,h1,h2,h3,h4⟩:=h;exact ⟨(hb.cell (p:=⟨b,o,none⟩) hlt).trans h0,(hb.cell (p:=⟨b,o+1,none⟩) hlt).trans h1,(hb.cell (p:=⟨b,o+2,none⟩) hlt).trans h2,(hb.cell (p:=⟨b,o+3,none⟩) hlt).trans h3,(hb.cell (p:=⟨b,o+4,none⟩) hlt).trans h4⟩
def Nodes (w:World) (a:Option Addr) (l:List Nd):Prop:=
 (0<l.length-> ∃b off,a=some ⟨b,off,none⟩/\b<w.heap.size/\ ∀j,j<l.length->Qes w b (off+j*5) (nd l j))/\ ∀j,j<l.length->Ok w (nd l j)
theorem Nodes.below {w w':World} {a:Option Addr} {l:List Nd} (h:Nodes w a l) (hb:Below w.heap.size w w'):Nodes w' a l:=by refine ⟨λhn=> ?_,λj hj=>(h.2 j hj).below hb⟩;obtain ⟨b,off,ha,hlt,hc⟩:=h.1 hn;exact ⟨b,off,ha,Fe hlt hb.size,λj hj=>(hc j hj).below hb hlt⟩
theorem Nodes.at_ {w:World} {a:Option Addr} {l:List Nd} (h:Nodes w a l) {j:Nat} (hj:j<l.length): ∃b off,a=some ⟨b,off,none⟩/\b<w.heap.size/\Qes w b (off+j*5) (nd l j):=by obtain ⟨b,off,ha,hlt,hc⟩:=h.1 (by omega);exact ⟨b,off,ha,hlt,hc j hj⟩
theorem Uv {l:List Nd} {i:Nat} (hi:i<l.length):nd l i=l[i]:=by unfold nd;rw [Yc,Y3 hi];rfl
def Qha (w:World) (a:Option Addr) (len cap:Nat) (l:List Nd):Prop:=l.length=len/\len<=cap/\len<=maxLen/\Nodes w a l
theorem Wq3 {H:Type} {enc:TypeId×Value->H} {w:World} {base:Nat} {spare:Nat->Bool} {held:Bool} {fuel:Nat} {cs:List Value} {x:DataW H×List MemPlace}
  (h:DataW.trod enc prog w base spare held fuel 37 cs=some x): ∃(n:Nat) (y0 y1 y2 y3 y4:DataW H×List MemPlace) (c0 c1 c2 c3 c4:Value),cs=[c0,c1,c2,c3,c4]/\x.1= .agg [y0.1,y1.1,y2.1,y3.1,y4.1]/\
   DataW.trod enc prog w base spare held n 3 [c0]=some y0/\DataW.trod enc prog w base spare held n 35 [c1]=some y1/\DataW.trod enc prog w base spare held n 3 [c2]=some y2/\
   DataW.trod enc prog w base spare held n 9 [c3]=some y3/\DataW.trod enc prog w base spare held n 3 [c4]=some y4:=by
 obtain ⟨xs,n,_,hx,hl,hlen,hg⟩:=DataW.trod_struct underlying37 h;have c36:prog.cellsOf 37=5:=by kernel_rfl
 have k3:prog.cellsOf 3=1:=by kernel_rfl
 have k25:prog.cellsOf 35=1:=by kernel_rfl
 have k9:prog.cellsOf 9=1:=by kernel_rfl
 rw [c36]at hl
 match cs,hl with
 | [c0,c1,c2,c3,c4],_=>
  match xs,hlen with
  | [y0,y1,y2,y3,y4],_=>
   have g0:=hg 0 _ rfl;have g1:=hg 1 _ rfl;have g2:=hg 2 _ rfl;have g3:=hg 3 _ rfl;have g4:=hg 4 _ rfl;refine ⟨n,y0,y1,y2,y3,y4,c0,c1,c2,c3,c4,rfl,by rw [hx];rfl,?_,?_,?_,?_,?_⟩
   ·simpa [k3] using g0
   ·simpa [k25] using g1
   ·simpa [k3] using g2
   ·simpa [k9] using g3
   ·simpa [k3] using g4
theorem Qrf {H:Type} {P:Program} {e:TypeId} {d:DataW H} {n:Nat} (hn:n∈d.weights P e): ∀{l:List (DataW H)},d∈l->n∈DataW.weightsAll P e l
 | [],h=>by cases h
 |x::r,h=>by
  simp only [DataW.weightsAll];rcases List.mem_cons.1 h with rfl |h'
  ·exact List.mem_append.2 (.inl hn)
  ·exact List.mem_append.2 (.inr (Qrf hn h'))
theorem Wmt {n:Int} (h:(Lit.int .i64 n).wf=true): -9223372036854775808<=n/\n<=9223372036854775807:=by
 have h1:IntKind.i64.min= -9223372036854775808:=by decide
 have h2:IntKind.i64.max=9223372036854775807:=by decide
 simp [Lit.wf,h1,h2]at h;exact h
theorem Q3x {H:Type} {enc:TypeId×Value->H} {w:World} {fuel:Nat} {cs:List Value} {x:DataW H×List MemPlace}
  (h:DataW.trod enc prog w 0 (λ_=>true) true fuel 37 cs=some x) (hw: ∀n∈x.1.weights prog 37,n<=reachBytes): ∃y:Nd,cs=y.cs.toList/\Ok w y:=by
 obtain ⟨n,y0,y1,y2,y3,y4,c0,c1,c2,c3,c4,rfl,hx1,h0,h1,h2,h3,h4⟩:=Wq3 h;have hwe:DataW.weights prog 37 (DataW.agg [y0.1,y1.1,y2.1,y3.1,y4.1])=DataW.weightsEach prog [3,35,3,9,3] [y0.1,y1.1,y2.1,y3.1,y4.1]:=by simp only [DataW.weights,underlying37];rfl
 rw [hx1,hwe]at hw;have w1: ∀n∈y1.1.weights prog 35,n<=reachBytes:=λn hn=>hw n (DataW.weights_mem_each (j:=1) rfl rfl n hn);have w3: ∀n∈y3.1.weights prog 9,n<=reachBytes:=λn hn=>hw n (DataW.weights_mem_each (j:=3) rfl rfl n hn);obtain ⟨n0,e0,_,_⟩:=DataW.trod_int underlying3 h0;obtain ⟨n2,e2,_,f2⟩:=DataW.trod_int underlying3 h2;obtain ⟨s,e3,z3,f3⟩:=DataW.trod_string underlying9 h3;have f3:s.size<=140737488351232:=by have:=w3 s.size (by rw [z3];simp only [DataW.weights];rw [Qa3];exact List.mem_singleton.2 rfl);exact this
 obtain ⟨n4,e4,_,_⟩:=DataW.trod_int underlying3 h4;simp only [List.cons.injEq,and_true]at e0 e2 e3 e4;subst e0 e2 e3 e4;have b2:=Wmt f2;rcases open_ints underlying35 underlying3 (by kernel_rfl) h1 with ⟨hcs,_⟩ |⟨a,len,cap,zs,hcs,_,hl,hm,hz,z1,hcell,_⟩
 ·simp only [List.cons.injEq,and_true]at hcs;subst hcs;exact ⟨⟨n0,none,0,[],n2,s,n4⟩,rfl,⟨λh=>by simp at h,by simp,λ_=>rfl,Vh _,b2.1,b2.2,f3⟩⟩
 ·simp only [List.cons.injEq,and_true]at hcs;subst hcs;rw [Qk rfl]at hz;have hk:(zs.take len).length=len:=by rw [F9];omega
  have b3:prog.bytesOf 3=8:=by kernel_rfl
  have hcap:cap<=140737488351232:=by have:=w1 (cap*8) (by rw [z1];simp only [DataW.weights,underlying35,b3];refine List.mem_cons.2 (.inl ?_);simp [lits,F9,Vf];omega);unfold reachBytes at this;omega
  refine ⟨⟨n0,some a,cap,zs.take len,n2,s,n4⟩,?_,⟨?_,?_,?_,?_,b2.1,b2.2,f3⟩⟩
  ·show _=[_,Value.slice (some a) (zs.take len).length cap,_,_,_];rw [hk]
  ·intro hp;obtain ⟨b,off,rfl,hc⟩:=ints_at hcell (by show 0<_;have hp':0<(zs.take len).length:=hp;omega);refine ⟨b,off,rfl,Wp1 (hc 0 (by have hp':0<(zs.take len).length:=hp;omega)),λj hj=> ?_⟩;have hj':j<len:=(by have hj2:j<(zs.take len).length:=hj;omega);rw [hc j (by omega)];show _=some (Value.int .i64 ((zs.take len).getD j 0));rw [Yc,Yc,List.getElem?_take_of_lt hj']
  ·show (zs.take len).length<=cap;omega
  ·intro h;cases h
  ·show (zs.take len).length<=_;omega
theorem Wfp {H:Type} {enc:TypeId×Value->H} {w:World} {fuel len cap:Nat} {a:Option Addr} {x:DataW H×List MemPlace}
  (h:DataW.trod enc prog w 0 (λ_=>true) true fuel 22 (Value.slice a len cap).cells.toList=some x) (hw: ∀n∈x.1.weights prog 22,n<=reachBytes): ∃l,Qha w a len cap l:=by
 have c36:prog.cellsOf 37=5:=by kernel_rfl
 rcases Go.Deep.open_slice underlying22 h with ⟨hcs,_⟩ |⟨ad,l,cp,m,n,D,Pl,hcs,_,hl,hm,hmm,hxx,hx⟩
 ·simp [Value.cells]at hcs;obtain ⟨rfl,rfl,rfl⟩:=hcs;exact ⟨[],rfl,Qh _,by omega,λh=>by simp at h,λj hj=>by simp at hj⟩
 ·simp [Value.cells]at hcs;obtain ⟨rfl,rfl,rfl⟩:=hcs;rw [Qk rfl]at hmm;have hy: ∀i,∃y:Nd,i<len->Ok w y/\ ∀j,j<5->w.cell? ((ad.add (i*5)).add j)=y.cs[j]?:=by
   intro i;by_cases hi:i<len
   ·obtain ⟨cs',hc,ht⟩:=hx i (by omega);obtain ⟨y,rfl,hok⟩:=Q3x ht (λz hz=>hw z (by rw [hxx];simp only [DataW.weights,underlying22];refine List.mem_cons.2 (.inr (List.mem_append.2 (.inl ?_)));exact Qrf hz (List.mem_map.2 ⟨i,List.mem_range.2 hi,rfl⟩)));rw [c36]at hc;obtain ⟨_,hcl,hat⟩:=World.cells?_some hc;exact ⟨y,λ_=>⟨hok,λj hj=>by rw [hat j hj];simp⟩⟩
   ·exact ⟨Nd.zero,λh=>absurd h hi⟩
  obtain ⟨f,hf⟩:=Classical.axiomOfChoice hy;have hlen:((List.range len).map f).length=len:=by simp
  have hnd: ∀j,j<len->nd ((List.range len).map f) j=f j:=by intro j hj;rw [Uv (by simpa using hj)];simp
  refine ⟨(List.range len).map f,hlen,hl,by omega,?_,λj hj=> ?_⟩
  ·intro hp;rw [hlen]at hp;obtain ⟨b,off,spot⟩:=ad;have h00:=(hf 0 hp).2 0 (by omega);have h01:w.cell? ((Addr.add ⟨b,off,spot⟩ (0*5)).add 0)=some (.int .i64 (f 0).kind):=h00;have hspot:spot=none:=(by simpa [Addr.add] using World.cell?_spot h01);subst hspot;have hb:b<w.heap.size:=(by simpa [Addr.add] using Wp1 h01);refine ⟨b,off,rfl,hb,λj hj=> ?_⟩;rw [hlen]at hj;rw [hnd j hj];have hc:=(hf j hj).2;have e: ∀i,((Addr.add ⟨b,off,none⟩ (j*5)).add i)=⟨b,off+j*5+i,none⟩:=by intro i;rw [Go.WideShapes.add_plain,Go.WideShapes.add_plain]
   refine ⟨?_,?_,?_,?_,?_⟩
   ·have:=hc 0 (by omega);rw [e]at this;exact this
   ·have:=hc 1 (by omega);rw [e]at this;exact this
   ·have:=hc 2 (by omega);rw [e]at this;exact this
   ·have:=hc 3 (by omega);rw [e]at this;exact this
   ·have:=hc 4 (by omega);rw [e]at this;exact this
  ·rw [hlen]at hj;rw [hnd j hj];exact (hf j hj).1
end
section
open Go.RowKit
theorem Qon: ∀(n:Nat) (l:List Int),l.Nodup->(∀x∈l,0<=x/\x<(n:Int))->l.length<=n
 | 0,[],_,_=>Qh _
 | 0,x::r,_,h=>by have:=h x (by simp);omega
 |n+1,l,hn,h=>by
  by_cases hm:(n:Int)∈l
  ·have h1:=Qon n (l.erase (n:Int)) (hn.erase _) (λx hx=>by have h2:=(List.Nodup.mem_erase_iff hn).1 hx;have h3:=h x h2.2;have:=h2.1;omega);rw [List.length_erase_of_mem hm]at h1;omega
  ·have h1:=Qon n l hn (λx hx=>by have h3:=h x hx;have:x≠(n:Int):=λe=>hm (e▸hx);omega);omega
theorem Wei {l:List Nd} {i:Nat} (hi:i<l.length):l.take (i+1)=l.take i++[nd l i]:=by rw [List.take_succ_eq_append_getElem hi,Uv hi]
theorem Qf0 {l:List Nd} {i:Nat} (hi:i<l.length):Jc l (i+1)=Jc l i++(nd l i).kids:=by unfold Jc;rw [Wei hi,List.flatMap_append];simp
def seen (l:List Nd) (i k:Nat):List Int:=Jc l i++(nd l i).kids.take k
theorem Qr4 (l:List Nd) (i:Nat):seen l i 0=Jc l i:=by simp [seen]
theorem Q3c {l:List Nd} {i:Nat} (hi:i<l.length):seen l i (nd l i).kids.length=seen l (i+1) 0:=by rw [Qr4,Qf0 hi];unfold seen;rw [List.take_length]
theorem Qi4 {ks:List Int} {k:Nat} (hk:k<ks.length):ks.take (k+1)=ks.take k++[ks.getD k 0]:=by rw [List.take_succ_eq_append_getElem hk,Yc,Y3 hk];rfl
theorem Qvt {l:List Nd} {i k:Nat} (hk:k<(nd l i).kids.length):seen l i (k+1)=seen l i k++[(nd l i).kids.getD k 0]:=by unfold seen;rw [Qi4 hk,Qy]
structure D9 (l:List Nd) (i k:Nat):Prop where
 ahead: ∀i',i'<i-> ∀x∈(nd l i').kids,0<=x/\x<(i':Int)
 here: ∀x∈(nd l i).kids.take k,0<=x/\x<(i:Int)
 nodup:(seen l i k).Nodup
theorem D9.start (l:List Nd):D9 l 0 0:=⟨λi h=>by omega,λx hx=>by simp at hx,by simp [seen,Jc]⟩
theorem D9.range {l:List Nd} {i k:Nat} (h:D9 l i k) (hi:i<=l.length): ∀x∈seen l i k,0<=x/\x<(i:Int):=by
 intro x hx;rcases List.mem_append.1 hx with h1 |h1
 ·obtain ⟨y,hy,hxy⟩:=List.mem_flatMap.1 h1;obtain ⟨j,hj,rfl⟩:=List.mem_iff_getElem.1 hy;rw [F9]at hj;rw [List.getElem_take,<-Uv (by omega)]at hxy;have:=h.ahead j (by omega) x hxy;omega
 ·exact h.here x h1
theorem D9.len {l:List Nd} {i k:Nat} (h:D9 l i k) (hi:i<=l.length):(seen l i k).length<=i:=Qon i _ h.nodup (h.range hi)
theorem D9.next {l:List Nd} {i k:Nat} (h:D9 l i k) (hk:k<(nd l i).kids.length) (h0:0<=(nd l i).kids.getD k 0) (h1:(nd l i).kids.getD k 0<(i:Int)) (hn:(nd l i).kids.getD k 0 ∉ seen l i k):D9 l i (k+1):=by
 refine ⟨h.ahead,λx hx=> ?_,?_⟩
 ·rw [Qi4 hk]at hx;rcases List.mem_append.1 hx with h2 |h2
  ·exact h.here x h2
  ·rw [Qqh]at h2;rw [h2];exact ⟨h0,h1⟩
 ·rw [Qvt hk];refine List.nodup_append.2 ⟨h.nodup,by simp,λa ha b hb=> ?_⟩;rw [Qqh]at hb;subst hb;exact λe=>hn (e▸ha)
theorem D9.turn {l:List Nd} {i:Nat} (h:D9 l i (nd l i).kids.length) (hi:i<l.length):D9 l (i+1) 0:=by
 refine ⟨λi' hi' x hx=> ?_,λx hx=>by simp at hx,?_⟩
 ·rcases V7 i' i with g |g
  ·exact h.ahead i' g x hx
  ·obtain rfl:i'=i:=(by omega);exact h.here x (by rw [List.take_length];exact hx)
 ·rw [<-Q3c hi];exact h.nodup
theorem D9.whole {l:List Nd} (h:D9 l l.length 0):Ahead l:=λi hi k hk=>h.ahead i hi k hk
theorem Q0z {l:List Nd} {i k:Nat} (hi:i<l.length) (hk:k<(nd l i).kids.length) (h: ¬(0<=(nd l i).kids.getD k 0/\(nd l i).kids.getD k 0<(i:Int))): ¬Hw l:=by rintro ⟨_,hA,_⟩;refine h (hA i hi _ ?_);rw [Yc,Y3 hk];exact F5 hk
theorem Q75 (l:List Nd): ∀(d i:Nat),i+d<=l.length-> ∃r,Jc l (i+d)=Jc l i++r
 | 0,i,_=>⟨[],by simp⟩
 |d+1,i,h=>by obtain ⟨r,hr⟩:=Q75 l d i (by omega);exact ⟨r++(nd l (i+d)).kids,by rw [<-La,Qf0 (by omega),hr,Qy]⟩
theorem Q8s {l:List Nd} {i k:Nat} (hi:i<l.length) (hk:k<(nd l i).kids.length) (h:(nd l i).kids.getD k 0∈seen l i k): ¬Hw l:=by
 rintro ⟨_,_,hN,_⟩;obtain ⟨r,hr⟩:=Q75 l (l.length-(i+1)) (i+1) (by omega);rw [show i+1+(l.length-(i+1))=l.length by omega]at hr;rw [hr]at hN;have h1:=(List.nodup_append.1 hN).1;rw [Qf0 hi]at h1;have h2:Jc l i++(nd l i).kids=seen l i (k+1)++(nd l i).kids.drop (k+1):=by unfold seen;rw [Qy,List.take_append_drop]
 rw [h2]at h1;have h3:=(List.nodup_append.1 h1).1;rw [Qvt hk]at h3;exact (List.nodup_append.1 h3).2.2 _ h _ (List.mem_singleton.2 rfl) rfl
theorem Wld {l:List Nd} (h:D9 l l.length 0):Hw l↔0<l.length/\(seen l l.length 0).length=l.length-1:=by
 rw [Qr4];constructor
 ·rintro ⟨h1,_,_,h2⟩;exact ⟨h1,h2⟩
 ·rintro ⟨h1,h2⟩;have:=h.nodup;rw [Qr4]at this;exact ⟨h1,h.whole,this,h2⟩
def Jr (P:Prop) (w:World) (e:Ending) (w':World):Prop:= ∃b:Bool,e= .returned (.bool b)/\(b=true↔P)/\Below w.heap.size w w'
theorem Jr.yes {P:Prop} {w w':World} {e:Ending} (he:e= .returned (.bool true)) (h:P) (hb:Below w.heap.size w w'):Jr P w e w':=⟨true,he,by simp [h],hb⟩
theorem Jr.no {P:Prop} {w w':World} {e:Ending} (he:e= .returned (.bool false)) (h: ¬P) (hb:Below w.heap.size w w'):Jr P w e w':=⟨false,he,by simp [h],hb⟩
end
inductive Under (l:List Nd):Nat->Nat->Prop
 |refl (i:Nat):Under l i i
 |step {i j:Nat} {k:Int} (hk:k∈(nd l i).kids) (h:Under l k.toNat j):Under l i j
theorem Under.le {l:List Nd} (hA:Ahead l) {i j:Nat} (h:Under l i j):i<l.length->j<=i:=by
 induction h with
 |refl i=>intro _;exact Qh _
 |step hk _ ih=>
  intro hi;have:=hA _ hi _ hk;have:=ih (by omega);omega
def mx (l:List Nd) (i j:Nat):Nat:=(((nd l i).kids.take j).map (λk=>hgt l k.toNat)).foldl (λh x=>max h (1+x)) 1
theorem Qp7 (l:List Nd) (i:Nat):mx l i 0=1:=by simp [mx]
theorem Qq6 {l:List Nd} {i j q:Nat} (hj:j<(nd l i).kids.length) (hq:(nd l i).kids.getD j 0=(q:Int)):mx l i (j+1)=max (mx l i j) (1+hgt l q):=by unfold mx;rw [Qi4 hj,Zp,List.foldl_append,hq];simp
theorem Qio {l:List Nd} (hA:Ahead l) {i:Nat} (hi:i<l.length):mx l i (nd l i).kids.length=hgt l i:=by unfold mx;rw [List.take_length,Qf4 hA hi]
theorem Qs2 (l:List Nd) (i:Nat): ∀(d j:Nat),mx l i j<=mx l i (j+d)
 | 0,j=>Qh _
 |d+1,j=>by
  refine F7 (Qs2 l i d j) ?_;rcases V7 (j+d) (nd l i).kids.length with h |h
  ·unfold mx;rw [<-La,Qi4 h,Zp,List.foldl_append];simp;omega
  ·unfold mx;rw [F6 h,F6 (by omega)];exact Qh _
theorem Qd7 {l:List Nd} (hA:Ahead l) {i j:Nat} (hi:i<l.length) (hj:j<(nd l i).kids.length): ∃q:Nat,(nd l i).kids.getD j 0=(q:Int)/\q<i/\(q:Int)∈(nd l i).kids:=by
 have hm:(nd l i).kids.getD j 0∈(nd l i).kids:=by rw [Yc,Y3 hj];exact F5 hj
 have:=hA i hi _ hm;refine ⟨((nd l i).kids.getD j 0).toNat,by omega,by omega,?_⟩;rw [Int.toNat_of_nonneg this.1];exact hm
theorem Wog {l:List Nd} (hA:Ahead l) {i j q:Nat} (hi:i<l.length) (hj:j<(nd l i).kids.length) (hq:(nd l i).kids.getD j 0=(q:Int)):1+hgt l q<=hgt l i:=by have h1:=Qq6 hj hq;have h2:=Qs2 l i ((nd l i).kids.length-(j+1)) (j+1);rw [show j+1+((nd l i).kids.length-(j+1))=(nd l i).kids.length by omega,Qio hA hi]at h2;omega
theorem Wjs (l:List Nd) (i j:Nat):1<=mx l i j:=by have:=Qs2 l i j 0;rw [Qp7,Bq]at this;exact this
theorem Wa8 {l:List Nd} (hA:Ahead l) {i:Nat} (hi:i<l.length):1<=hgt l i:=by rw [<-Qio hA hi];exact Wjs l i _
theorem Wl4 {l:List Nd} {i j:Nat} {k:Int} (h:Under l i j) (hk:k∈(nd l j).kids):Under l i k.toNat:=by
 induction h with
 |refl i=>exact .step hk (.refl _)
 |step hk' _ ih=>exact .step hk' (ih hk)
theorem Wdy {l:List Nd} (h:Hw l) {j:Nat} (hj:j<l.length-1): ∃i,i<l.length/\(j:Int)∈(nd l i).kids:=by
 obtain ⟨h0,hA,hN,hL⟩:=h;have hm:(j:Int)∈Jc l l.length:=by
  by_cases hm:(j:Int)∈Jc l l.length
  ·exact hm
  ·exfalso;have hr: ∀x∈Jc l l.length,0<=x/\x<((l.length-1:Nat):Int):=by intro x hx;obtain ⟨y,hy,hxy⟩:=List.mem_flatMap.1 hx;obtain ⟨q,hq,rfl⟩:=List.mem_iff_getElem.1 hy;rw [F9]at hq;rw [List.getElem_take,<-Uv (by omega)]at hxy;have:=hA q (by omega) x hxy;omega
   have h1:=Qon (l.length-1) ((j:Int)::Jc l l.length) (List.nodup_cons.2 ⟨hm,hN⟩) (λx hx=>by
    rcases List.mem_cons.1 hx with rfl |h'
    ·omega
    ·exact hr x h');rw [Qp,hL]at h1;omega
 obtain ⟨y,hy,hxy⟩:=List.mem_flatMap.1 hm;obtain ⟨q,hq,rfl⟩:=List.mem_iff_getElem.1 hy;rw [F9]at hq;rw [List.getElem_take,<-Uv (by omega)]at hxy;exact ⟨q,by omega,hxy⟩
theorem Qq9 {l:List Nd} (h:Hw l): ∀(d j:Nat),l.length-1-j<=d->j<l.length->Under l (l.length-1) j
 | 0,j,hd,hj=>by
  obtain rfl:j=l.length-1:=by omega
  exact .refl _
 |d+1,j,hd,hj=>by
  rcases V7 j (l.length-1)with g |g
  ·obtain ⟨i,hi,hk⟩:=Wdy h g;have:=h.2.1 i hi _ hk;have hu:=Qq9 h d i (by omega) hi;have:=Wl4 hu hk
   rwa [Ja]at this
  ·obtain rfl:j=l.length-1:=(by omega);exact .refl _
section
open Go.RowKit
theorem Qlf:(prog.info? 3).map (λi=>(i.zero,i.size,i.bytes))=some (some (.int .i64 0),1,8):=by kernel_rfl
def Built (w0 w:World) (v:Value) (xs:List Int):Prop:=
 w.ownsRow w0.heap.size 3 1 v xs.length (xs.map (Value.int .i64))/\Below w0.heap.size w0 w
theorem Built.rows {w0 w:World} {v:Value} {xs:List Int} (h:Built w0 w v xs): ∃a cap,v= .slice a xs.length cap/\Vd .i64 w a xs.length (λj=>xs.getD j 0):=Vd.own h.1
theorem Built.start (w:World) (h:Array Value) (hh:h= #[]):Built w (w.alloc (.cells h 3)) (.slice (some ⟨w.heap.size,0,none⟩) 0 0) []:=by subst hh;exact ⟨⟨rfl,.inr ⟨w.heap.size,0,#[],rfl,Qh _,by show (w.heap.push _)[_]? =_;simp,Qh _,by unfold maxLen;omega,rfl,rfl⟩⟩,Qag⟩
theorem Wb7 {ops:Array Oper} {rest:List Oper} {o:Oper} {a:Act} {Q:Exit->Act->World->Prop} (hgd:o.guard=none) (s x:Operand)
  (ho:o.op= .call {callee:=.builtin .append,args:= #[s,x],argTypes:= #[35,35]})
  (w0 w:World) (v:Value) (xs:List Int) (z:Int) (hs:a.eval s=v) (hx:a.eval x= .slice (some ⟨w.heap.size,0,none⟩) 1 1) (hb:Built w0 w v xs) (hlen:xs.length<=10000000)
  (h: ∀v' w',Built w0 w' v' (xs++[z])->wpList prog ops Q rest (a.put o.dst v') w'):
  wpList prog ops Q (o::rest) a (w.alloc (.cells #[.int .i64 z] 3)):=by
 obtain ⟨i0,hi,hz0,hz1,hz2⟩:=info_parts Qlf;refine wpList_append_own _ hgd s x 35 ho w0.heap.size 3 i0 (.int .i64 0) 1 8 underlying35 hi hz0 hz1 hz2 rfl (by decide) v xs.length (xs.map (Value.int .i64)) hs (hb.1.alloc _) ⟨w.heap.size,0,none⟩ 1 1 [.int .i64 z] hx rfl ?_ ?_ ?_ ?_ ?_ ?_
 ·intro j u hj
  match j,hj with
  | 0,hj=>simp at hj;subst hj;simp [Addr.add]
 ·intro u hu;simp at hu;subst hu;rfl
 ·unfold maxLen;omega
 ·omega
 ·have:=hb.2.size;simp;omega
 ·intro v' w' hown hgrow _;refine h v' w' ⟨by rw [Qf,Zp];exact hown,?_⟩;refine ((hb.2.alloc hb.2.size _)).grown hgrow (by have:=hb.2.size;simp;omega) ?_;intro k hk;exact (hb.1.lt k hk).1
theorem Built.quiet {w0 w w':World} {v:Value} {xs:List Int} (h:Built w0 w v xs) (hb:Below w.heap.size w w'):Built w0 w' v xs:=by
 refine ⟨⟨h.1.1,?_⟩,h.2.trans (hb.mono h.2.size)⟩;rcases h.1.2 with h1 |⟨g,cap,cur,h1,h2,h3,r⟩
 ·exact .inl h1
 ·refine .inr ⟨g,cap,cur,h1,h2,?_,r⟩;have hlt:g<w.heap.size:=by obtain ⟨hlt,_⟩:=Array.getElem?_eq_some_iff.1 h3;exact hlt
  rw [hb.block g hlt];exact h3
def pre:List Int->Int->Nat
 | [],_=>0
 |y::ys,x=>if y<x then pre ys x+1 else 0
theorem Wsq {xs:List Int} {x:Int}:(∃j,j<xs.length/\xs.getD j 0=x)↔x∈xs:=by
 constructor
 ·rintro ⟨j,hj,rfl⟩;rw [Yc,Y3 hj];exact F5 hj
 ·intro h;obtain ⟨j,hj,he⟩:=List.mem_iff_getElem.1 h;exact ⟨j,hj,by rw [Yc,Y3 hj];exact he⟩
theorem Wnb (xs:List Int) (j:Nat) (h:j<xs.length):xs.take (j+1)=xs.take j++[xs.getD j 0]:=by rw [List.take_add_one,Yc,Y3 h];rfl
def Now (B:Nat) (w:World) (v:Value) (xs:List Int):Prop:=w.ownsRow B 3 1 v xs.length (xs.map (Value.int .i64))
theorem Now.shape {B:Nat} {w:World} {v:Value} {xs:List Int} (h:Now B w v xs): ∃a cap,v= .slice a xs.length cap/\Vd .i64 w a xs.length (λj=>xs.getD j 0)/\(a=none->xs.length=0/\cap=0):=by
 obtain ⟨a,cap,rfl,hr⟩:=Vd.own h;refine ⟨a,cap,rfl,hr,?_⟩;rintro rfl;rcases h.2 with ⟨h1,h2⟩ |⟨g,cap',cur,h1,_⟩
 ·injection h1 with _ h3 h4;exact ⟨h3,h4⟩
 ·injection h1 with h2;cases h2
theorem Q25 (xs:List Int) (k t:Nat) (h:t<k):(xs.take k).getD t 0=xs.getD t 0:=by rw [Yc,Yc,List.getElem?_take,Qk h]
theorem Ro (xs:List Int) (k t:Nat):(xs.drop k).getD t 0=xs.getD (k+t) 0:=by rw [Yc,Yc,List.getElem?_drop]
theorem Wha (a b:Option Addr) (n c c':Nat) (f g:Nat->Int) (w:World) (hn:n<=100000) (ha:Vd .i64 w a n f) (hb:Vd .i64 w b n g):
  Calls prog 39 #[.slice a n c,.slice b n c'] w λe w'=>e= .returned (.bool (allEq n f g))/\ ∃q,w'=w.drewN q:=by
 have HA:=Qa ha;have HB:=Qa hb;have hr:((n:Int) != (n:Int))=false:=by simp
 clear ha hb;go_enter func39,ntmps39;go_wp2;go_loopw [5] (λi wr=> ∃k q:Nat,k<=n/\i= .int .i64 (k:Int)/\wr=w.drewN q/\Hid (∀j,j<k->f j=g j)) (λi _=>n-(intOf i).toNat)
 case atStart=>exact ⟨0,0,by omega,rfl,rfl,λj hj=>by omega⟩
 case round=>
  obtain ⟨k,q,hk,rfl,rfl,hE⟩:=hrel;by_cases hkn:k<n
  ·obtain ⟨x,off,rfl,hlt,hc⟩:=HA.out (by omega);obtain ⟨y,off',rfl,hlt',hc'⟩:=HB.out (by omega);have hcell:=hc k hkn;have hcell':=hc' k hkn;clear hc hc';have hki:(k:Int)<(n:Int):=(by omega);by_cases he:f k=g k
   ·have he':(f k != g k)=false:=(by simp [he]);have HE:=Qa he;clear he;go_wp2_with fail;go_quiet (fail);go_wp2_with fail;go_roundw
    case rel=>exact ⟨k+1,q+nq,by omega,by go_num,rfl,λj hj=>by
     rcases V7 j k with h |h
     ·exact hE j h
     ·rw [show j=k by omega];exact HE⟩
    case measure=>simp [intOf];omega
   ·have he':(f k != g k)=true:=(by simp [he]);have HE:=Qa he;clear he;go_wp2_with fail;go_quiet (fail);go_wp2_with fail;go_ret;refine ⟨?_,q+nq,by rw [World.drewN_drewN]⟩;rw [Q4a hkn HE.out];rfl
  ·have:k=n:=(by omega);subst this;go_wp2;go_ret;refine ⟨?_,q,rfl⟩;rw [Q44 hE.out];rfl
theorem Q8q (a:Option Addr) (n c:Nat) (f:Nat->Int) (x:Int) (w:World) (hn:n<=100000) (ha:Vd .i64 w a n f):
  Calls prog 40 #[.slice a n c,.int .i64 x] w λe w'=>e= .returned (.bool (decide (∃j,j<n/\f j=x)))/\w'=w:=by
 have HA:=Qa ha;clear ha;go_enter func40,ntmps40;go_wp2;go_loop [5] (λi=> ∃k:Nat,k<=n/\i= .int .i64 (k:Int)/\Hid (∀j,j<k->f j≠x)) (λi=>n-(intOf i).toNat)
 case atStart=>exact ⟨0,by omega,rfl,λj hj=>by omega⟩
 case round=>
  obtain ⟨k,hk,rfl,hE⟩:=hrel;by_cases hkn:k<n
  ·have hki:(k:Int)<(n:Int):=(by omega);obtain ⟨b,off,rfl,hlt,hc⟩:=HA.out (by omega);have hcell:=hc k hkn;clear hc;by_cases he:f k=x
   ·have he':(f k==x)=true:=(by simp [he]);have HE:=Qa he;clear he;go_wp2_with fail;go_ret;refine ⟨?_,rfl⟩;rw [decide_eq_true (⟨k,hkn,HE.out⟩: ∃j,j<n/\f j=x)];rfl
   ·have he':(f k==x)=false:=(by simp [he]);have HE:=Qa he;clear he;go_wp2_with fail;go_round
    case rel=>exact ⟨k+1,by omega,by go_num,λj hj=>by
     rcases V7 j k with h |h
     ·exact hE j h
     ·rw [show j=k by omega];exact HE⟩
    case measure=>simp [intOf];omega
  ·have:k=n:=(by omega);subst this;go_wp2;go_ret;refine ⟨?_,rfl⟩;rw [decide_eq_false (λ⟨j,hj,h⟩=>hE.out j hj h)];rfl
theorem Qto (a:Option Addr) (L cap:Nat) (xs:List Int) (x:Int) (w:World) (hL:L=xs.length) (hn:L<=100000) (ha:Vd .i64 w a L (λj=>xs.getD j 0)):
  Calls prog 40 #[.slice a L cap,.int .i64 x] w λe w'=>e= .returned (.bool (decide (x∈xs)))/\w'=w:=by
 refine (Q8q a L cap _ x w hn ha).mono ?_;rintro e w1 ⟨rfl,hw1⟩;refine ⟨?_,hw1⟩;rw [hL];congr 2;exact decide_eq_decide.2 Wsq
end
def Q7t (c:Code):Code:=c
theorem Qz (id:Nat) (ops:Array Oper):Code.region id ops false=Q7t (Code.region id ops false):=rfl
theorem Qn {P:Program} {c:Code} {Q:Exit->Act->World->Prop} {a:Act} {w:World} (h:c.wp P Q a w):(Q7t c).wp P Q a w:=h
section
open Go.RowKit
theorem Wit {P:Program} (w:World) (base:Nat) (t ty e:TypeId) (i:TypeInfo) (z:Value) (ht:P.underlying t=some (.slice e)) (hi:P.info? e=some i) (hz:i.zero=some z)
  (v:Value) (n:Nat) (xs:List Value) (hown:w.ownsRow base e i.size v n xs)
  (a:Addr) (m c:Nat) (news:List Value) (hm:0<m) (hl:news.length=m*i.size) (hnews: ∀j u,news[j]? =some u->w.cell? (a.add j)=some u) (h1: ∀u∈news,u.oneCell'=true)
  (h63:n+m<=maxLen) (hbytes:(n+m)*i.bytes<=140737488355328) (v':Value) (w':World) (hr:(Builtin.append_ #[t,t] ty #[v,.slice (some a) m c]).run P w= .ok v' w'):
  ∀k,v'.ownBlock=some k->v.ownBlock=some k\/k=w.heap.size:=by
 have hsmall:n+m<=9223372036854775807:=by simp only [maxLen]at h63;omega
 intro k hk;rcases hown.2 with ⟨rfl,rfl⟩ |⟨g,cap,cur,rfl,hbg,hg,hnc,hcm,hcs,htake⟩
 ·have h:=run_append_nil (P:=P) w t ty e i z ht hi hz a m c news hl hnews (by omega) (by omega) (by have hb:=hbytes;simp only [Bq]at hb;omega);rw [h]at hr;injection hr with e1 e2
  subst e1;right;simpa [Value.ownBlock] using hk.symm
 ·by_cases hroom:n+m<=cap
  ·have hfit:n*i.size+news.length<=cur.size:=(by rw [hl,hcs,<-Nat.add_mul];exact Nat.mul_le_mul_right _ hroom);have h:=run_append_room (P:=P) w t ty e i ht hi g n cap cur hg a m c news hl hnews h1 hroom hfit;rw [h]at hr;injection hr with e1 e2
   subst e1;left;exact hk
  ·have holds: ∀j u,xs[j]? =some u->w.cell? ((⟨g,0,none⟩:Addr).add j)=some u:=hown.cells (g:=g) rfl;have h:=run_append_grow (P:=P) w t ty e i z ht hi hz ⟨g,0,none⟩ n cap xs hown.1 holds a m c news hl hnews (by omega) (by omega) (growslice_fits (by omega) hbytes);rw [h]at hr;injection hr with e1 e2
   subst e1;right;simpa [Value.ownBlock] using hk.symm
theorem Wnp {P:Program} {w:World} {ops:Array Oper} {rest:List Oper} {o:Oper} {a:Act} {Q:Exit->Act->World->Prop} (hgd:o.guard=none) (s x:Operand) (t e:TypeId) (z:Value) (size bytes:Nat)
  (ht:P.underlying t=some (.slice e)) (hinfo:(P.info? e).map (λi=>(i.zero,i.size,i.bytes))=some (some z,size,bytes)) (hzs:z.cells.size=size) (hsz:0<size) (hby:bytes<=1000)
  (ho:o.op= .call {callee:=.builtin .append,args:= #[s,x],argTypes:= #[t,t]})
  (base:Nat) (v:Value) (n:Nat) (xs:List Value) (hs:a.eval s=v) (hown:w.ownsRow base e size v n xs)
  (ad:Addr) (m c:Nat) (news:List Value) (hx:a.eval x= .slice (some ad) m c) (hm:0<m) (hl:news.length=m*size) (hnews: ∀j u,news[j]? =some u->w.cell? (ad.add j)=some u) (h1: ∀u∈news,u.oneCell'=true)
  (hlen:n+m<=20000000) (hbase:base<=w.heap.size)
  (h: ∀v' w',w'.ownsRow base e size v' (n+m) (xs++news)->w.grownBy w' v.ownBlock->(∀k,v'.ownBlock=some k->v.ownBlock=some k\/k=w.heap.size)->wpList P ops Q rest (a.put o.dst v') w'):wpList P ops Q (o::rest) a w:=by
 obtain ⟨i0,hi,hz0,hz1,hz2⟩:=info_parts hinfo;subst hz1 hz2;have h63:n+m<=maxLen:=by unfold maxLen;omega
 have hbytes:(n+m)*i0.bytes<=140737488355328:=by have:(n+m)*i0.bytes<=20000000*1000:=Nat.mul_le_mul hlen hby;omega
 refine wpList_plain hgd λ_ hK=> ?_;obtain ⟨v',w',hr,h2,h3,_⟩:=run_append_own (P:=P) w base t o.type e i0 z i0.size i0.bytes ht hi hz0 rfl rfl hzs hsz v n xs hown ad m c news hl hnews h1 h63 hbytes hbase;have h5:=Wit w base t o.type e i0 z ht hi hz0 v n xs hown ad m c news hm hl hnews h1 h63 hbytes v' w' hr;unfold Oper.wp execOp;simp only [ho,resolve,invoke,builtin,Sem.run_bind,Sem.run_pure,Result.andThen_ok,List.map_toArray,Y6,Vi,hs,hx,hr];exact hK _ _ (h v' w' h2 h3 h5)
theorem Wke {w w':World} (h:Below w.heap.size w w') (row:Option Nat):w.grownBy w' row:=⟨h.os,h.tape,h.output,h.size,λk hk _=>h.block k hk⟩
theorem Dr {w w':World} {base e sz n:Nat} {v:Value} {xs:List Value} (h:w.ownsRow base e sz v n xs) (hb:Below w.heap.size w w'):w'.ownsRow base e sz v n xs:=
 h.kept (Wke hb none) (by cases hv:v.ownBlock<;>simp)
theorem Qb1 {w:World} {base base' e sz n:Nat} {v:Value} {xs:List Value} (h:w.ownsRow base e sz v n xs) (hb:base'<=base):w.ownsRow base' e sz v n xs:=by
 refine ⟨h.1,?_⟩;rcases h.2 with h1 |⟨g,cap,cur,h1,h2,r⟩
 ·exact .inl h1
 ·exact .inr ⟨g,cap,cur,h1,F7 hb h2,r⟩
theorem Gv (w:World) (g i:Nat) (u:Value):w.grownBy (w.setCell ⟨g,i,none⟩ u) (some g):=
 ⟨rfl,rfl,rfl,by simp [World.setCell],λk hk hne=>Below.heap_setCell w ⟨g,i,none⟩ u k (λe=>hne (by rw [e]))⟩
theorem Yr {w:World} {B e e' sz n g:Nat} {v:Value} {xs:List Value} {cs:Array Value} {fz:Nat×Nat} (h:w.ownsRow B e sz v n xs) (hg:w.heap[g]? =some (.cells cs e' fz)) (hne:e≠e'):v.ownBlock≠some g:=by
 intro hv;rcases h.2 with ⟨rfl,_⟩ |⟨g',cap,cur,rfl,h2,h3,_⟩
 ·simp [Value.ownBlock]at hv
 ·simp [Value.ownBlock]at hv;subst hv;rw [h3]at hg;injection hg with hg
  injection hg with _ e2
  exact hne e2
theorem Nr {w:World} {B B' e e' sz sz' n n':Nat} {v u:Value} {xs ys:List Value} (h:w.ownsRow B e sz v n xs) (h':w.ownsRow B' e' sz' u n' ys) (hne:e≠e'):v.ownBlock=none\/v.ownBlock≠u.ownBlock:=by
 rcases h'.2 with ⟨rfl,_⟩ |⟨g,cap,cur,rfl,_,h3,_⟩
 ·cases hv:v.ownBlock with
  |none=>exact .inl rfl
  |some k=>exact .inr (by simp [Value.ownBlock])
 ·exact .inr (Yr h h3 hne)
theorem Wa5 {w:World} {base e sz n g j:Nat} {v u:Value} {xs:List Value} (h:w.ownsRow base e sz v n xs) (hv:v.ownBlock=some g) (hj:j<n*sz):(w.setCell ⟨g,j,none⟩ u).ownsRow base e sz v n (xs.set j u):=by
 rcases h.2 with ⟨rfl,_⟩ |⟨g',cap,cur,rfl,h2,h3,h4,h5,h6,h7⟩
 ·simp [Value.ownBlock]at hv
 ·simp [Value.ownBlock]at hv;subst hv;refine ⟨by rw [List.length_set];exact h.1,.inr ⟨g',cap,cur.setIfInBounds j u,rfl,h2,?_,h4,h5,by simpa using h6,?_⟩⟩
  ·have:=(show Held w g' e cur from h3).set j u;exact this
  ·rw [Array.toList_setIfInBounds,<-h7,List.take_set]
end
end Go.Proofs.YtdncpkkhkbijfaaGreatDoor
