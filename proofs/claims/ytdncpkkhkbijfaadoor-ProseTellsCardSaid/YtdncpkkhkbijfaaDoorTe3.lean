import Derived.Test.YtdncpkkhkbijfaaDoorTe2
import Derived.Test.YtdncpkkhkbijfaaDoorRows
import Derived.Deep.Slices
import Derived.SizedLaws
import Derived.Deep.QuietTactic
import Derived.BigQuiet
open Go.Proofs.Tryd
set_option linter.all false
set_option maxHeartbeats 0
set_option maxRecDepth 100000
namespace Go.Proofs.YtdncpkkhkbijfaaDoor
section
open Go.ChangeShapes Go.WideShapes Go.ChangeAt Go.RowKit
def Nd.cs (x:Nd):Array Value:= #[.int .i64 x.kind,.slice x.ka x.kids.length x.kc,.int .i64 x.n,.string x.s,.int .i64 x.at_]
def Nd.v (x:Nd):Value:=.agg x.cs
structure Ok (w:World) (x:Nd):Prop where
 rows:Wo .i64 w x.ka x.kids.length (λj=>x.kids.getD j 0)
 cap:x.kids.length<=x.kc
 none:x.ka=none->x.kc=0
 len:x.kids.length<=140737488351232
 n0: -9223372036854775808<=x.n
 n1:x.n<=9223372036854775807
 s:x.s.size<=140737488351232
theorem Ok.below {w w':World} {x:Nd} (h:Ok w x) (hb:Below w.heap.size w w'):Ok w' x:=⟨h.rows.below hb,h.cap,h.none,h.len,h.n0,h.n1,h.s⟩
def D5 (w:World) (b o:Nat) (x:Nd):Prop:=
 w.cell? ⟨b,o,none⟩=some (.int .i64 x.kind)/\w.cell? ⟨b,o+1,none⟩=some (.slice x.ka x.kids.length x.kc)/\w.cell? ⟨b,o+2,none⟩=some (.int .i64 x.n)/\
 w.cell? ⟨b,o+3,none⟩=some (.string x.s)/\w.cell? ⟨b,o+4,none⟩=some (.int .i64 x.at_)
theorem D5.below {w w':World} {b o B:Nat} {x:Nd} (h:D5 w b o x) (hb:Below B w w') (hlt:b<B):D5 w' b o x:=by obtain ⟨h0,h1,h2,h3,h4⟩:=h;exact ⟨(hb.cell (p:=⟨b,o,none⟩) hlt).trans h0,(hb.cell (p:=⟨b,o+1,none⟩) hlt).trans h1,(hb.cell (p:=⟨b,o+2,none⟩) hlt).trans h2,(hb.cell (p:=⟨b,o+3,none⟩) hlt).trans h3,(hb.cell (p:=⟨b,o+4,none⟩) hlt).trans h4⟩
def Nodes (w:World) (a:Option Addr) (l:List Nd):Prop:=
 (0<l.length-> ∃b off,a=some ⟨b,off,none⟩/\b<w.heap.size/\ ∀j,j<l.length->D5 w b (off+j*5) (nd l j))/\ ∀j,j<l.length->Ok w (nd l j)
theorem Nodes.below {w w':World} {a:Option Addr} {l:List Nd} (h:Nodes w a l) (hb:Below w.heap.size w w'):Nodes w' a l:=by refine ⟨λhn=> ?_,λj hj=>(h.2 j hj).below hb⟩;obtain ⟨b,off,ha,hlt,hc⟩:=h.1 hn;exact ⟨b,off,ha,Uc hlt hb.size,λj hj=>(hc j hj).below hb hlt⟩
theorem Nodes.at_ {w:World} {a:Option Addr} {l:List Nd} (h:Nodes w a l) {j:Nat} (hj:j<l.length): ∃b off,a=some ⟨b,off,none⟩/\b<w.heap.size/\D5 w b (off+j*5) (nd l j):=by obtain ⟨b,off,ha,hlt,hc⟩:=h.1 (by omega);exact ⟨b,off,ha,hlt,hc j hj⟩
theorem Gd {l:List Nd} {i:Nat} (hi:i<l.length):nd l i=l[i]:=by unfold nd;rw [Yh,Za hi];rfl
def Mi (w:World) (a:Option Addr) (len cap:Nat) (l:List Nd):Prop:=l.length=len/\len<=cap/\len<=maxLen/\Nodes w a l
theorem Qhx {H:Type} {enc:TypeId×Value->H} {w:World} {base:Nat} {spare:Nat->Bool} {held:Bool} {fuel:Nat} {cs:List Value} {x:DataW H×List MemPlace}
  (h:DataW.trod enc prog w base spare held fuel 25 cs=some x): ∃(n:Nat) (y0 y1 y2 y3 y4:DataW H×List MemPlace) (c0 c1 c2 c3 c4:Value),cs=[c0,c1,c2,c3,c4]/\x.1= .agg [y0.1,y1.1,y2.1,y3.1,y4.1]/\
   DataW.trod enc prog w base spare held n 3 [c0]=some y0/\DataW.trod enc prog w base spare held n 23 [c1]=some y1/\DataW.trod enc prog w base spare held n 3 [c2]=some y2/\
   DataW.trod enc prog w base spare held n 9 [c3]=some y3/\DataW.trod enc prog w base spare held n 3 [c4]=some y4:=by
 obtain ⟨xs,n,_,hx,hl,hlen,hg⟩:=DataW.trod_struct underlying25 h;have Tw:prog.cellsOf 25=5:=by kernel_rfl
 have k3:prog.cellsOf 3=1:=by kernel_rfl
 have k25:prog.cellsOf 23=1:=by kernel_rfl
 have k9:prog.cellsOf 9=1:=by kernel_rfl
 rw [Tw]at hl
 match cs,hl with
 | [c0,c1,c2,c3,c4],_=>
  match xs,hlen with
  | [y0,y1,y2,y3,y4],_=>
   have g0:=hg 0 _ rfl;have g1:=hg 1 _ rfl;have g2:=hg 2 _ rfl;have g3:=hg 3 _ rfl;have g4:=hg 4 _ rfl;refine ⟨n,y0,y1,y2,y3,y4,c0,c1,c2,c3,c4,rfl,by rw [hx];rfl,?_,?_,?_,?_,?_⟩
   ·simpa [k3] using g0
   ·simpa [k25] using g1
   ·simpa [k3] using g2
   ·simpa [k9] using g3
   ·simpa [k3] using g4
theorem Qd6 {H:Type} {P:Program} {e:TypeId} {d:DataW H} {n:Nat} (hn:n∈d.weights P e): ∀{l:List (DataW H)},d∈l->n∈DataW.weightsAll P e l
 | [],h=>by cases h
 |x::r,h=>by
  simp only [DataW.weightsAll];rcases List.mem_cons.1 h with rfl |h'
  ·exact List.mem_append.2 (.inl hn)
  ·exact List.mem_append.2 (.inr (Qd6 hn h'))
theorem Qov {n:Int} (h:(Lit.int .i64 n).wf=true): -9223372036854775808<=n/\n<=9223372036854775807:=by
 have h1:IntKind.i64.min= -9223372036854775808:=by decide
 have h2:IntKind.i64.max=9223372036854775807:=by decide
 simp [Lit.wf,h1,h2]at h;exact h
theorem Qdf {H:Type} {enc:TypeId×Value->H} {w:World} {fuel:Nat} {cs:List Value} {x:DataW H×List MemPlace}
  (h:DataW.trod enc prog w 0 (λ_=>true) true fuel 25 cs=some x) (hw: ∀n∈x.1.weights prog 25,n<=reachBytes): ∃y:Nd,cs=y.cs.toList/\Ok w y:=by
 obtain ⟨n,y0,y1,y2,y3,y4,c0,c1,c2,c3,c4,rfl,hx1,h0,h1,h2,h3,h4⟩:=Qhx h;have hwe:DataW.weights prog 25 (DataW.agg [y0.1,y1.1,y2.1,y3.1,y4.1])=DataW.weightsEach prog [3,23,3,9,3] [y0.1,y1.1,y2.1,y3.1,y4.1]:=by simp only [DataW.weights,underlying25];rfl
 rw [hx1,hwe]at hw;have w1: ∀n∈y1.1.weights prog 23,n<=reachBytes:=λn hn=>hw n (DataW.weights_mem_each (j:=1) rfl rfl n hn);have w3: ∀n∈y3.1.weights prog 9,n<=reachBytes:=λn hn=>hw n (DataW.weights_mem_each (j:=3) rfl rfl n hn);obtain ⟨n0,e0,_,_⟩:=DataW.trod_int underlying3 h0;obtain ⟨n2,e2,_,f2⟩:=DataW.trod_int underlying3 h2;obtain ⟨s,e3,z3,f3⟩:=DataW.trod_string underlying9 h3;have f3:s.size<=140737488351232:=by have:=w3 s.size (by rw [z3];simp only [DataW.weights];rw [Kw];exact List.mem_singleton.2 rfl);exact this
 obtain ⟨n4,e4,_,_⟩:=DataW.trod_int underlying3 h4;simp only [List.cons.injEq,and_true]at e0 e2 e3 e4;subst e0 e2 e3 e4;have b2:=Qov f2;rcases open_ints underlying23 underlying3 (by kernel_rfl) h1 with ⟨hcs,_⟩ |⟨a,len,cap,zs,hcs,_,hl,hm,hz,z1,hcell,_⟩
 ·simp only [List.cons.injEq,and_true]at hcs;subst hcs;exact ⟨⟨n0,none,0,[],n2,s,n4⟩,rfl,⟨λh=>by simp at h,by simp,λ_=>rfl,Kr _,b2.1,b2.2,f3⟩⟩
 ·simp only [List.cons.injEq,and_true]at hcs;subst hcs;rw [Wy rfl]at hz;have hk:(zs.take len).length=len:=by rw [Vr];omega
  have b3:prog.bytesOf 3=8:=by kernel_rfl
  have hcap:cap<=140737488351232:=by have:=w1 (cap*8) (by rw [z1];simp only [DataW.weights,underlying23,b3];refine List.mem_cons.2 (.inl ?_);simp [lits,Vr,Xt];omega);unfold reachBytes at this;omega
  refine ⟨⟨n0,some a,cap,zs.take len,n2,s,n4⟩,?_,⟨?_,?_,?_,?_,b2.1,b2.2,f3⟩⟩
  ·show _=[_,Value.slice (some a) (zs.take len).length cap,_,_,_];rw [hk]
  ·intro hp;obtain ⟨b,off,rfl,hc⟩:=ints_at hcell (by show 0<_;have hp':0<(zs.take len).length:=hp;omega);refine ⟨b,off,rfl,Em (hc 0 (by have hp':0<(zs.take len).length:=hp;omega)),λj hj=> ?_⟩;have hj':j<len:=(by have hj2:j<(zs.take len).length:=hj;omega);rw [hc j (by omega)];show _=some (Value.int .i64 ((zs.take len).getD j 0));rw [Yh,Yh,List.getElem?_take_of_lt hj']
  ·show (zs.take len).length<=cap;omega
  ·intro h;cases h
  ·show (zs.take len).length<=_;omega
theorem Qkc {H:Type} {enc:TypeId×Value->H} {w:World} {fuel len cap:Nat} {a:Option Addr} {x:DataW H×List MemPlace}
  (h:DataW.trod enc prog w 0 (λ_=>true) true fuel 22 (Value.slice a len cap).cells.toList=some x) (hw: ∀n∈x.1.weights prog 22,n<=reachBytes): ∃l,Mi w a len cap l:=by
 have Tw:prog.cellsOf 25=5:=by kernel_rfl
 rcases Go.Deep.open_slice underlying22 h with ⟨hcs,_⟩ |⟨ad,l,cp,m,n,D,Pl,hcs,_,hl,hm,hmm,Cn,hx⟩
 ·simp [Value.cells]at hcs;obtain ⟨rfl,rfl,rfl⟩:=hcs;exact ⟨[],rfl,Yc _,by omega,λh=>by simp at h,λj hj=>by simp at hj⟩
 ·simp [Value.cells]at hcs;obtain ⟨rfl,rfl,rfl⟩:=hcs;rw [Wy rfl]at hmm;have hy: ∀i,∃y:Nd,i<len->Ok w y/\ ∀j,j<5->w.cell? ((ad.add (i*5)).add j)=y.cs[j]?:=by
   intro i;by_cases hi:i<len
   ·obtain ⟨cs',hc,ht⟩:=hx i (by omega);obtain ⟨y,rfl,hok⟩:=Qdf ht (λz hz=>hw z (by rw [Cn];simp only [DataW.weights,underlying22];refine List.mem_cons.2 (.inr (List.mem_append.2 (.inl ?_)));exact Qd6 hz (List.mem_map.2 ⟨i,List.mem_range.2 hi,rfl⟩)));rw [Tw]at hc;obtain ⟨_,hcl,hat⟩:=World.cells?_some hc;exact ⟨y,λ_=>⟨hok,λj hj=>by rw [hat j hj];simp⟩⟩
   ·exact ⟨Nd.zero,λh=>absurd h hi⟩
  obtain ⟨f,hf⟩:=Classical.axiomOfChoice hy;have hlen:((List.range len).map f).length=len:=by simp
  have hnd: ∀j,j<len->nd ((List.range len).map f) j=f j:=by intro j hj;rw [Gd (by simpa using hj)];simp
  refine ⟨(List.range len).map f,hlen,hl,by omega,?_,λj hj=> ?_⟩
  ·intro hp;rw [hlen]at hp;obtain ⟨b,off,spot⟩:=ad;have h00:=(hf 0 hp).2 0 (by omega);have h01:w.cell? ((Addr.add ⟨b,off,spot⟩ (0*5)).add 0)=some (.int .i64 (f 0).kind):=h00;have hspot:spot=none:=(by simpa [Addr.add] using World.cell?_spot h01);subst hspot;have hb:b<w.heap.size:=(by simpa [Addr.add] using Em h01);refine ⟨b,off,rfl,hb,λj hj=> ?_⟩;rw [hlen]at hj;rw [hnd j hj];have hc:=(hf j hj).2;have e: ∀i,((Addr.add ⟨b,off,none⟩ (j*5)).add i)=⟨b,off+j*5+i,none⟩:=by intro i;rw [Go.WideShapes.add_plain,Go.WideShapes.add_plain]
   refine ⟨?_,?_,?_,?_,?_⟩
   ·have:=hc 0 (by omega);rw [e]at this;exact this
   ·have:=hc 1 (by omega);rw [e]at this;exact this
   ·have:=hc 2 (by omega);rw [e]at this;exact this
   ·have:=hc 3 (by omega);rw [e]at this;exact this
   ·have:=hc 4 (by omega);rw [e]at this;exact this
  ·rw [hlen]at hj;rw [hnd j hj];exact (hf j hj).1
end
section
open Go.RowKit
theorem N7: ∀(n:Nat) (l:List Int),l.Nodup->(∀x∈l,0<=x/\x<(n:Int))->l.length<=n
 | 0,[],_,_=>Yc _
 | 0,x::r,_,h=>by have:=h x (by simp);omega
 |n+1,l,hn,h=>by
  by_cases hm:(n:Int)∈l
  ·have h1:=N7 n (l.erase (n:Int)) (hn.erase _) (λx hx=>by have h2:=(List.Nodup.mem_erase_iff hn).1 hx;have h3:=h x h2.2;have:=h2.1;omega);rw [List.length_erase_of_mem hm]at h1;omega
  ·have h1:=N7 n l hn (λx hx=>by have h3:=h x hx;have:x≠(n:Int):=λe=>hm (e▸hx);omega);omega
theorem Qrr {l:List Nd} {i:Nat} (hi:i<l.length):l.take (i+1)=l.take i++[nd l i]:=by rw [List.take_succ_eq_append_getElem hi,Gd hi]
theorem He {l:List Nd} {i:Nat} (hi:i<l.length):Zt l (i+1)=Zt l i++(nd l i).kids:=by unfold Zt;rw [Qrr hi,List.flatMap_append];simp
def seen (l:List Nd) (i k:Nat):List Int:=Zt l i++(nd l i).kids.take k
theorem Oy (l:List Nd) (i:Nat):seen l i 0=Zt l i:=by simp [seen]
theorem S9 {l:List Nd} {i:Nat} (hi:i<l.length):seen l i (nd l i).kids.length=seen l (i+1) 0:=by rw [Oy,He hi];unfold seen;rw [List.take_length]
theorem Ic {ks:List Int} {k:Nat} (hk:k<ks.length):ks.take (k+1)=ks.take k++[ks.getD k 0]:=by rw [List.take_succ_eq_append_getElem hk,Yh,Za hk];rfl
theorem Nf {l:List Nd} {i k:Nat} (hk:k<(nd l i).kids.length):seen l i (k+1)=seen l i k++[(nd l i).kids.getD k 0]:=by unfold seen;rw [Ic hk,Yg]
structure Zj (l:List Nd) (i k:Nat):Prop where
 ahead: ∀i',i'<i-> ∀x∈(nd l i').kids,0<=x/\x<(i':Int)
 here: ∀x∈(nd l i).kids.take k,0<=x/\x<(i:Int)
 nodup:(seen l i k).Nodup
theorem Zj.start (l:List Nd):Zj l 0 0:=⟨λi h=>by omega,λx hx=>by simp at hx,by simp [seen,Zt]⟩
theorem Zj.range {l:List Nd} {i k:Nat} (h:Zj l i k) (hi:i<=l.length): ∀x∈seen l i k,0<=x/\x<(i:Int):=by
 intro x hx;rcases List.mem_append.1 hx with h1 |h1
 ·obtain ⟨y,hy,hxy⟩:=List.mem_flatMap.1 h1;obtain ⟨j,hj,rfl⟩:=List.mem_iff_getElem.1 hy;rw [Vr]at hj;rw [List.getElem_take,<-Gd (by omega)]at hxy;have:=h.ahead j (by omega) x hxy;omega
 ·exact h.here x h1
theorem Zj.len {l:List Nd} {i k:Nat} (h:Zj l i k) (hi:i<=l.length):(seen l i k).length<=i:=N7 i _ h.nodup (h.range hi)
theorem Zj.next {l:List Nd} {i k:Nat} (h:Zj l i k) (hk:k<(nd l i).kids.length) (h0:0<=(nd l i).kids.getD k 0) (h1:(nd l i).kids.getD k 0<(i:Int)) (hn:(nd l i).kids.getD k 0 ∉ seen l i k):Zj l i (k+1):=by
 refine ⟨h.ahead,λx hx=> ?_,?_⟩
 ·rw [Ic hk]at hx;rcases List.mem_append.1 hx with h2 |h2
  ·exact h.here x h2
  ·rw [Sm]at h2;rw [h2];exact ⟨h0,h1⟩
 ·rw [Nf hk];refine List.nodup_append.2 ⟨h.nodup,by simp,λa ha b hb=> ?_⟩;rw [Sm]at hb;subst hb;exact λe=>hn (e▸ha)
theorem Zj.turn {l:List Nd} {i:Nat} (h:Zj l i (nd l i).kids.length) (hi:i<l.length):Zj l (i+1) 0:=by
 refine ⟨λi' hi' x hx=> ?_,λx hx=>by simp at hx,?_⟩
 ·rcases Xa i' i with g |g
  ·exact h.ahead i' g x hx
  ·obtain rfl:i'=i:=(by omega);exact h.here x (by rw [List.take_length];exact hx)
 ·rw [<-S9 hi];exact h.nodup
theorem Zj.whole {l:List Nd} (h:Zj l l.length 0):Ahead l:=λi hi k hk=>h.ahead i hi k hk
theorem Ng {l:List Nd} {i k:Nat} (hi:i<l.length) (hk:k<(nd l i).kids.length) (h: ¬(0<=(nd l i).kids.getD k 0/\(nd l i).kids.getD k 0<(i:Int))): ¬Y5 l:=by rintro ⟨_,hA,_⟩;refine h (hA i hi _ ?_);rw [Yh,Za hk];exact Ca hk
theorem Qb4 (l:List Nd): ∀(d i:Nat),i+d<=l.length-> ∃r,Zt l (i+d)=Zt l i++r
 | 0,i,_=>⟨[],by simp⟩
 |d+1,i,h=>by obtain ⟨r,hr⟩:=Qb4 l d i (by omega);exact ⟨r++(nd l (i+d)).kids,by rw [<-Gg,He (by omega),hr,Yg]⟩
theorem Qe1 {l:List Nd} {i k:Nat} (hi:i<l.length) (hk:k<(nd l i).kids.length) (h:(nd l i).kids.getD k 0∈seen l i k): ¬Y5 l:=by
 rintro ⟨_,_,hN,_⟩;obtain ⟨r,hr⟩:=Qb4 l (l.length-(i+1)) (i+1) (by omega);rw [show i+1+(l.length-(i+1))=l.length by omega]at hr;rw [hr]at hN;have h1:=(List.nodup_append.1 hN).1;rw [He hi]at h1;have h2:Zt l i++(nd l i).kids=seen l i (k+1)++(nd l i).kids.drop (k+1):=by unfold seen;rw [Yg,List.take_append_drop]
 rw [h2]at h1;have h3:=(List.nodup_append.1 h1).1;rw [Nf hk]at h3;exact (List.nodup_append.1 h3).2.2 _ h _ (List.mem_singleton.2 rfl) rfl
theorem Qen {l:List Nd} (h:Zj l l.length 0):Y5 l↔0<l.length/\(seen l l.length 0).length=l.length-1:=by
 rw [Oy];constructor
 ·rintro ⟨h1,_,_,h2⟩;exact ⟨h1,h2⟩
 ·rintro ⟨h1,h2⟩;have:=h.nodup;rw [Oy]at this;exact ⟨h1,h.whole,this,h2⟩
def Zi (P:Prop) (w:World) (e:Ending) (w':World):Prop:= ∃b:Bool,e= .returned (.bool b)/\(b=true↔P)/\Below w.heap.size w w'
theorem Zi.yes {P:Prop} {w w':World} {e:Ending} (he:e= .returned (.bool true)) (h:P) (hb:Below w.heap.size w w'):Zi P w e w':=⟨true,he,by simp [h],hb⟩
theorem Zi.no {P:Prop} {w w':World} {e:Ending} (he:e= .returned (.bool false)) (h: ¬P) (hb:Below w.heap.size w w'):Zi P w e w':=⟨false,he,by simp [h],hb⟩
end
inductive Under (l:List Nd):Nat->Nat->Prop
 |refl (i:Nat):Under l i i
 |step {i j:Nat} {k:Int} (hk:k∈(nd l i).kids) (h:Under l k.toNat j):Under l i j
theorem Under.le {l:List Nd} (hA:Ahead l) {i j:Nat} (h:Under l i j):i<l.length->j<=i:=by
 induction h with
 |refl i=>intro _;exact Yc _
 |step hk _ ih=>
  intro hi;have:=hA _ hi _ hk;have:=ih (by omega);omega
def mx (l:List Nd) (i j:Nat):Nat:=(((nd l i).kids.take j).map (λk=>hgt l k.toNat)).foldl (λh x=>max h (1+x)) 1
theorem Hu (l:List Nd) (i:Nat):mx l i 0=1:=by simp [mx]
theorem L8 {l:List Nd} {i j q:Nat} (hj:j<(nd l i).kids.length) (hq:(nd l i).kids.getD j 0=(q:Int)):mx l i (j+1)=max (mx l i j) (1+hgt l q):=by unfold mx;rw [Ic hj,J9,List.foldl_append,hq];simp
theorem Es {l:List Nd} (hA:Ahead l) {i:Nat} (hi:i<l.length):mx l i (nd l i).kids.length=hgt l i:=by unfold mx;rw [List.take_length,Td hA hi]
theorem Px (l:List Nd) (i:Nat): ∀(d j:Nat),mx l i j<=mx l i (j+d)
 | 0,j=>Yc _
 |d+1,j=>by
  refine Xw (Px l i d j) ?_;rcases Xa (j+d) (nd l i).kids.length with h |h
  ·unfold mx;rw [<-Gg,Ic h,J9,List.foldl_append];simp;omega
  ·unfold mx;rw [Ac h,Ac (by omega)];exact Yc _
theorem Cj {l:List Nd} (hA:Ahead l) {i j:Nat} (hi:i<l.length) (hj:j<(nd l i).kids.length): ∃q:Nat,(nd l i).kids.getD j 0=(q:Int)/\q<i/\(q:Int)∈(nd l i).kids:=by
 have hm:(nd l i).kids.getD j 0∈(nd l i).kids:=by rw [Yh,Za hj];exact Ca hj
 have:=hA i hi _ hm;refine ⟨((nd l i).kids.getD j 0).toNat,by omega,by omega,?_⟩;rw [Int.toNat_of_nonneg this.1];exact hm
theorem Qqt {l:List Nd} (hA:Ahead l) {i j q:Nat} (hi:i<l.length) (hj:j<(nd l i).kids.length) (hq:(nd l i).kids.getD j 0=(q:Int)):1+hgt l q<=hgt l i:=by have h1:=L8 hj hq;have h2:=Px l i ((nd l i).kids.length-(j+1)) (j+1);rw [show j+1+((nd l i).kids.length-(j+1))=(nd l i).kids.length by omega,Es hA hi]at h2;omega
theorem Qlj (l:List Nd) (i j:Nat):1<=mx l i j:=by have:=Px l i j 0;rw [Hu,Fw]at this;exact this
theorem Qkl {l:List Nd} (hA:Ahead l) {i:Nat} (hi:i<l.length):1<=hgt l i:=by rw [<-Es hA hi];exact Qlj l i _
theorem Qlm {l:List Nd} {i j:Nat} {k:Int} (h:Under l i j) (hk:k∈(nd l j).kids):Under l i k.toNat:=by
 induction h with
 |refl i=>exact .step hk (.refl _)
 |step hk' _ ih=>exact .step hk' (ih hk)
theorem Qiw {l:List Nd} (h:Y5 l) {j:Nat} (hj:j<l.length-1): ∃i,i<l.length/\(j:Int)∈(nd l i).kids:=by
 obtain ⟨h0,hA,hN,hL⟩:=h;have hm:(j:Int)∈Zt l l.length:=by
  by_cases hm:(j:Int)∈Zt l l.length
  ·exact hm
  ·exfalso;have hr: ∀x∈Zt l l.length,0<=x/\x<((l.length-1:Nat):Int):=by intro x hx;obtain ⟨y,hy,hxy⟩:=List.mem_flatMap.1 hx;obtain ⟨q,hq,rfl⟩:=List.mem_iff_getElem.1 hy;rw [Vr]at hq;rw [List.getElem_take,<-Gd (by omega)]at hxy;have:=hA q (by omega) x hxy;omega
   have h1:=N7 (l.length-1) ((j:Int)::Zt l l.length) (List.nodup_cons.2 ⟨hm,hN⟩) (λx hx=>by
    rcases List.mem_cons.1 hx with rfl |h'
    ·omega
    ·exact hr x h');rw [Qf,hL]at h1;omega
 obtain ⟨y,hy,hxy⟩:=List.mem_flatMap.1 hm;obtain ⟨q,hq,rfl⟩:=List.mem_iff_getElem.1 hy;rw [Vr]at hq;rw [List.getElem_take,<-Gd (by omega)]at hxy;exact ⟨q,by omega,hxy⟩
theorem Py {l:List Nd} (h:Y5 l): ∀(d j:Nat),l.length-1-j<=d->j<l.length->Under l (l.length-1) j
 | 0,j,hd,hj=>by
  obtain rfl:j=l.length-1:=by omega
  exact .refl _
 |d+1,j,hd,hj=>by
  rcases Xa j (l.length-1)with g |g
  ·obtain ⟨i,hi,hk⟩:=Qiw h g;have:=h.2.1 i hi _ hk;have hu:=Py h d i (by omega) hi;have:=Qlm hu hk
   rwa [Jo]at this
  ·obtain rfl:j=l.length-1:=(by omega);exact .refl _
section
open Go.RowKit
theorem Qby:(prog.info? 3).map (λi=>(i.zero,i.size,i.bytes))=some (some (.int .i64 0),1,8):=by kernel_rfl
def Built (w0 w:World) (v:Value) (xs:List Int):Prop:=
 w.ownsRow w0.heap.size 3 1 v xs.length (xs.map (Value.int .i64))/\Below w0.heap.size w0 w
theorem Built.rows {w0 w:World} {v:Value} {xs:List Int} (h:Built w0 w v xs): ∃a cap,v= .slice a xs.length cap/\Wo .i64 w a xs.length (λj=>xs.getD j 0):=Wo.own h.1
theorem Built.start (w:World) (h:Array Value) (hh:h= #[]):Built w (w.alloc (.cells h 3)) (.slice (some ⟨w.heap.size,0,none⟩) 0 0) []:=by subst hh;exact ⟨⟨rfl,.inr ⟨w.heap.size,0,#[],rfl,Yc _,by show (w.heap.push _)[_]? =_;simp,Yc _,by unfold maxLen;omega,rfl,rfl⟩⟩,Qn⟩
theorem Qkd {ops:Array Oper} {rest:List Oper} {o:Oper} {a:Act} {Q:Exit->Act->World->Prop} (hgd:o.guard=none) (s x:Operand)
  (ho:o.op= .call {callee:=.builtin .append,args:= #[s,x],argTypes:= #[23,23]})
  (w0 w:World) (v:Value) (xs:List Int) (z:Int) (hs:a.eval s=v) (hx:a.eval x= .slice (some ⟨w.heap.size,0,none⟩) 1 1) (hb:Built w0 w v xs) (hlen:xs.length<=10000000)
  (h: ∀v' w',Built w0 w' v' (xs++[z])->wpList prog ops Q rest (a.put o.dst v') w'):
  wpList prog ops Q (o::rest) a (w.alloc (.cells #[.int .i64 z] 3)):=by
 obtain ⟨i0,hi,hz0,hz1,hz2⟩:=info_parts Qby;refine wpList_append_own _ hgd s x 23 ho w0.heap.size 3 i0 (.int .i64 0) 1 8 underlying23 hi hz0 hz1 hz2 rfl (by decide) v xs.length (xs.map (Value.int .i64)) hs (hb.1.alloc _) ⟨w.heap.size,0,none⟩ 1 1 [.int .i64 z] hx rfl ?_ ?_ ?_ ?_ ?_ ?_
 ·intro j u hj
  match j,hj with
  | 0,hj=>simp at hj;subst hj;simp [Addr.add]
 ·intro u hu;simp at hu;subst hu;rfl
 ·unfold maxLen;omega
 ·omega
 ·have:=hb.2.size;simp;omega
 ·intro v' w' hown hgrow _;refine h v' w' ⟨by rw [Qd,J9];exact hown,?_⟩;refine ((hb.2.alloc hb.2.size _)).grown hgrow (by have:=hb.2.size;simp;omega) ?_;intro k hk;exact (hb.1.lt k hk).1
theorem Built.quiet {w0 w w':World} {v:Value} {xs:List Int} (h:Built w0 w v xs) (hb:Below w.heap.size w w'):Built w0 w' v xs:=by
 refine ⟨⟨h.1.1,?_⟩,h.2.trans (hb.mono h.2.size)⟩;rcases h.1.2 with h1 |⟨g,cap,cur,h1,h2,h3,r⟩
 ·exact .inl h1
 ·refine .inr ⟨g,cap,cur,h1,h2,?_,r⟩;have hlt:g<w.heap.size:=by obtain ⟨hlt,_⟩:=Array.getElem?_eq_some_iff.1 h3;exact hlt
  rw [hb.block g hlt];exact h3
theorem Ql7 {xs:List Int} {x:Int}:(∃j,j<xs.length/\xs.getD j 0=x)↔x∈xs:=by
 constructor
 ·rintro ⟨j,hj,rfl⟩;rw [Yh,Za hj];exact Ca hj
 ·intro h;obtain ⟨j,hj,he⟩:=List.mem_iff_getElem.1 h;exact ⟨j,hj,by rw [Yh,Za hj];exact he⟩
theorem Nl (xs:List Int) (k t:Nat) (h:t<k):(xs.take k).getD t 0=xs.getD t 0:=by rw [Yh,Yh,List.getElem?_take,Wy h]
theorem Ao (xs:List Int) (k t:Nat):(xs.drop k).getD t 0=xs.getD (k+t) 0:=by rw [Yh,Yh,List.getElem?_drop]
theorem Qni (a:Option Addr) (n c:Nat) (f:Nat->Int) (x:Int) (w:World) (hn:n<=100000) (ha:Wo .i64 w a n f):
  Calls prog 38 #[.slice a n c,.int .i64 x] w λe w'=>e= .returned (.bool (decide (∃j,j<n/\f j=x)))/\w'=w:=by
 have HA:=Qa ha;clear ha;go_enter func38,ntmps38;go_wp2;go_loop [5] (λi=> ∃k:Nat,k<=n/\i= .int .i64 (k:Int)/\Hid (∀j,j<k->f j≠x)) (λi=>n-(intOf i).toNat)
 case atStart=>exact ⟨0,by omega,rfl,λj hj=>by omega⟩
 case round=>
  obtain ⟨k,hk,rfl,hE⟩:=hrel;by_cases hkn:k<n
  ·have hki:(k:Int)<(n:Int):=(by omega);obtain ⟨b,off,rfl,hlt,hc⟩:=HA.out (by omega);have hcell:=hc k hkn;clear hc;by_cases he:f k=x
   ·have he':(f k==x)=true:=(by simp [he]);have HE:=Qa he;clear he;go_wp2_with fail;go_ret;refine ⟨?_,rfl⟩;rw [decide_eq_true (⟨k,hkn,HE.out⟩: ∃j,j<n/\f j=x)];rfl
   ·have he':(f k==x)=false:=(by simp [he]);have HE:=Qa he;clear he;go_wp2_with fail;go_round
    case rel=>exact ⟨k+1,by omega,by go_num,λj hj=>by
     rcases Xa j k with h |h
     ·exact hE j h
     ·rw [show j=k by omega];exact HE⟩
    case measure=>simp [intOf];omega
  ·have:k=n:=(by omega);subst this;go_wp2;go_ret;refine ⟨?_,rfl⟩;rw [decide_eq_false (λ⟨j,hj,h⟩=>hE.out j hj h)];rfl
theorem Qeu (a:Option Addr) (L cap:Nat) (xs:List Int) (x:Int) (w:World) (hL:L=xs.length) (hn:L<=100000) (ha:Wo .i64 w a L (λj=>xs.getD j 0)):
  Calls prog 38 #[.slice a L cap,.int .i64 x] w λe w'=>e= .returned (.bool (decide (x∈xs)))/\w'=w:=by
 refine (Qni a L cap _ x w hn ha).mono ?_;rintro e w1 ⟨rfl,hw1⟩;refine ⟨?_,hw1⟩;rw [hL];congr 2;exact decide_eq_decide.2 Ql7
end
def Qe2 (c:Code):Code:=c
theorem Vk (id:Nat) (ops:Array Oper):Code.region id ops false=Qe2 (Code.region id ops false):=rfl
theorem Vp {P:Program} {c:Code} {Q:Exit->Act->World->Prop} {a:Act} {w:World} (h:c.wp P Q a w):(Qe2 c).wp P Q a w:=h
end Go.Proofs.YtdncpkkhkbijfaaDoor
