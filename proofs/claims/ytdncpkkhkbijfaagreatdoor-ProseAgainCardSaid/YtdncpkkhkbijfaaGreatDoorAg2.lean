import Derived.Test.YtdncpkkhkbijfaaGreatDoorAg1
import Derived.WalkKit
import Derived.Lib.Join
import Derived.Lib.ItoaLen
import Derived.Lib.Small
import Derived.ProofKit
import Derived.Deep.OwnRows
import Derived.Deep.Draws
import Derived.OpenShut
import Derived.Laws.AppendOwnNone
import Derived.Test.YtdncpkkhkbijfaaGreatDoorRows
import Derived.Deep.Slices
import Derived.SizedLaws
import Derived.Deep.QuietTactic
import Derived.BigQuiet
open Go.Proofs.Tryz
set_option linter.all false
set_option maxHeartbeats 0
set_option maxRecDepth 100000
namespace Go.Proofs.YtdncpkkhkbijfaaGreatDoor
def bt (l:List UInt8) (k:Nat):Nat:=(l.getD k 0).toNat
def cut (l:List UInt8) (a b:Nat):List UInt8:=(l.take b).drop a
theorem Wqo {l:List UInt8} {k:Nat} (h:k<l.length):l.take (k+1)=l.take k++[l.getD k 0]:=by rw [List.take_succ_eq_append_getElem h,Yc,Y3 h];rfl
theorem Ql9 {l:List UInt8} {n k:Nat} (h:k<n):bt (l.take n) k=bt l k:=by unfold bt;rw [Yc,Yc,List.getElem?_take_of_lt h]
theorem Qa3 (s:ByteArray):s.data.toList.length=s.size:=Au
theorem Hq {s:ByteArray} {l:List UInt8} (h:l=s.data.toList) {k:Nat} (hk:k<s.size):bt l k=s[k].toNat:=by subst h;unfold bt;rw [Yc,Y3 (show k<s.data.toList.length from (Au (xs:=s.data)).symm▸hk)];rfl
theorem Qce (s:ByteArray) (k:Nat):(s.extract 0 k).data.toList=s.data.toList.take k:=by simp [ByteArray.data_extract]
theorem size_extract (s:ByteArray) (k:Nat) (h:k<=s.size):(s.extract 0 k).size=k:=by rw [ByteArray.size_extract];omega
theorem Wg4 (s:ByteArray) (a b:Nat):s.extract a b=⟨(cut s.data.toList a b).toArray⟩:=by apply ByteArray.ext;apply Array.toList_inj.1;unfold cut;rw [ByteArray.data_extract];simp [List.drop_take]
def Ib (n:Nat):Bool:=n==32||n==9||n==10||n==13
def isLt (n:Nat):Bool:=(decide (97<=n)&&decide (n<=122))||(decide (65<=n)&&decide (n<=90))||n==95
def Yn (n:Nat):Bool:=decide (48<=n)&&decide (n<=57)
def Vt (n:Nat):Bool:=isLt n||Yn n
def Yh:Bool->List UInt8->Nat
 |_,[]=>0
 |true,c::cs=>if c.toNat=10 then 1+Yh false cs else 1+Yh true cs
 |false,c::cs=>if c.toNat=35 then 1+Yh true cs else if Ib c.toNat then 1+Yh false cs else 0
def rn (p:Nat->Bool):List UInt8->Nat
 | []=>0
 |c::cs=>if p c.toNat then 1+rn p cs else 0
def Y4 (a b:Nat):Nat:=
 if a=124\/a=38 then (if b=a then 2 else 0)
 else if a=43\/a=45\/a=42 then (if b=37 then 2 else 1)
 else if a=61\/a=33\/a=60\/a=62 then (if b=61 then 2 else 1)
 else if a=47\/a=37\/a=40\/a=41\/a=123\/a=125\/a=91\/a=93\/a=44\/a=59 then 1 else 0
def k0:List UInt8->Nat
 | []=>4
 |c::_=>if isLt c.toNat then 1 else if Yn c.toNat then 2 else 4
def ln:List UInt8->Nat
 | []=>0
 |c::cs=>if isLt c.toNat then rn Vt (c::cs)else if Yn c.toNat then rn Yn (c::cs)else Y4 c.toNat (bt cs 0)
def Ug (c:UInt8):Nat:=(c.toNat+208)%256
def M9 (o:Option Nat) (c:UInt8):Option Nat:=match o with
 |none=>none
 |some n=>if n*10+Ug c<=9223372036854775807 then some (n*10+Ug c)else none
def num (l:List UInt8):Option Nat:=l.foldl M9 (some 0)
def keys:List (List UInt8):=[[102,110],[118,97,114],[105,102],[101,108,115,101],[119,104,105,108,101],[102,111,114],[98,114,101,97,107],[99,111,110,116,105,110,117,101],[114,101,116,117,114,110],[112,114,105,110,116],[108,101,110],[110,101,119],[116,114,117,101],[102,97,108,115,101],[110,105,108],[105,110,116],[98,111,111,108],[97,114,114]]
def isKey (t:List UInt8):Bool:=keys.any (λk=>t==k)
def Kw (k n:Nat) (t:List UInt8):Nat:=
 if n=0 then 6 else if k=2 then (if (num t).isSome then 0 else 7)else if k=1/\isKey t=true then 0 else if k=1/\32<n then 3 else 0
def Bl (k:Nat) (t:List UInt8):Nat:=if k=1/\isKey t=true then 3 else k
def Kv (k:Nat) (t:List UInt8):Nat:=if k=2 then (num t).getD 0 else 0
def er (r:List UInt8):Nat:=Kw (k0 r) (ln r) (r.take (ln r))
structure Tk where
 kind:Nat
 text:List UInt8
 n:Nat
 place:Nat
def tk (r:List UInt8) (p:Nat):Tk:=⟨Bl (k0 r) (r.take (ln r)),r.take (ln r),Kv (k0 r) (r.take (ln r)),p⟩
def off (r:List UInt8):Nat:=ln r+Yh false (r.drop (ln r))
def Iw (r:List UInt8):List UInt8:=r.drop (off r)
def Qdd:Nat->List UInt8->Nat->Except (Nat×Nat) (List Tk)
 | 0,_,_=>.ok []
 |f+1,r,p=>match r with
  | []=>.ok [⟨0,[],0,p⟩]
  |c::cs=>if er (c::cs)=0 then (Qdd f (Iw (c::cs)) (p+off (c::cs))).map (λL=>tk (c::cs) p::L)else .error (er (c::cs),p)
def S (r:List UInt8) (p:Nat):Except (Nat×Nat) (List Tk):=Qdd (r.length+1) r p
def T (l:List UInt8) (p:Nat):Except (Nat×Nat) (List Tk):=S (l.drop (Yh false l)) (p+Yh false l)
theorem Qeo: ∀(b:Bool) (l:List UInt8),Yh b l<=l.length
 |_,[]=>by cases ‹Bool› <;>exact Qh _
 |true,c::cs=>by have h1:=Qeo false cs;have h2:=Qeo true cs;unfold Yh;split<;>(rw [Qp];omega)
 |false,c::cs=>by
  have h1:=Qeo false cs;have h2:=Qeo true cs;unfold Yh;rw [Qp];split
  ·omega
  ·split<;>omega
theorem Qgz (p:Nat->Bool): ∀l:List UInt8,rn p l<=l.length
 | []=>Qh _
 |c::cs=>by have h:=Qgz p cs;unfold rn;rw [Qp];split<;>omega
theorem Wra (a b:Nat):Y4 a b<=2:=by
 unfold Y4
 repeat' split
 all_goals omega
theorem Q9m (a:Nat):Y4 a 0<=1:=by
 unfold Y4
 repeat' split
 all_goals omega
theorem Qgf: ∀l:List UInt8,ln l<=l.length
 | []=>Qh _
 |c::cs=>by
  show (if isLt c.toNat then rn Vt (c::cs)else if Yn c.toNat then rn Yn (c::cs)else Y4 c.toNat (bt cs 0))<=_;split
  ·exact Qgz _ _
  ·split
   ·exact Qgz _ _
   ·cases cs with
    |nil=>exact Q9m c.toNat
    |cons d ds=>have:=Wra c.toNat (bt (d::ds) 0);rw [Qp,Qp];omega
theorem Qj3 (r:List UInt8):off r<=r.length:=by have h1:=Qgf r;have h2:=Qeo false (r.drop (ln r));rw [Vf]at h2;unfold off;omega
theorem Qhd {r:List UInt8} (h:er r=0):0<ln r:=by
 unfold er Kw at h;by_cases e:ln r=0
 ·rw [Qk e]at h;omega
 ·omega
theorem Qky {r:List UInt8} (h:er r=0):0<off r:=by have:=Qhd h;unfold off;omega
theorem Qgs (r:List UInt8):(Iw r).length=r.length-off r:=Vf
theorem Qyf: ∀(f g:Nat) (r:List UInt8) (p:Nat),r.length<f->r.length<g->Qdd f r p=Qdd g r p
 | 0,_,_,_,h,_=>by omega
 |_,0,_,_,_,h=>by omega
 |f+1,g+1,[],p,_,_=>rfl
 |f+1,g+1,c::cs,p,hf,hg=>by
  show (if er (c::cs)=0 then (Qdd f (Iw (c::cs)) (p+off (c::cs))).map (λL=>tk (c::cs) p::L)else .error (er (c::cs),p))=if er (c::cs)=0 then (Qdd g (Iw (c::cs)) (p+off (c::cs))).map (λL=>tk (c::cs) p::L)else .error (er (c::cs),p);by_cases h:er (c::cs)=0
  ·rw [Qk h,Qk h,Qyf f g]
   ·have:=Qky h;rw [Qgs];rw [Qp]at hf ⊢;omega
   ·have:=Qky h;rw [Qgs];rw [Qp]at hg ⊢;omega
  ·rw [Qd h,Qd h]
theorem Q48 (p:Nat):S [] p= .ok [⟨0,[],0,p⟩]:=rfl
theorem Qhl {r:List UInt8} (p:Nat) (hr:r≠[]) (h:er r≠0):S r p= .error (er r,p):=by
 cases r with
 |nil=>exact absurd rfl hr
 |cons c cs=>exact Qd h
theorem Qnz {r:List UInt8} (p:Nat) (hr:r≠[]) (h:er r=0):S r p=(S (Iw r) (p+off r)).map (λL=>tk r p::L):=by
 cases r with
 |nil=>exact absurd rfl hr
 |cons c cs=>
  have e:S (c::cs) p=(Qdd ((c::cs).length) (Iw (c::cs)) (p+off (c::cs))).map (λL=>tk (c::cs) p::L):=Qk h;rw [e];unfold S;rw [Qyf]
  ·have:=Qky h;have:=Qj3 (c::cs);rw [Qgs];omega
  ·omega
theorem Qv5 {Q:List UInt8->Prop} (h0:Q []) (hb: ∀r,r≠[]->er r≠0->Q r) (ht: ∀r,r≠[]->er r=0->Q (Iw r)->Q r): ∀r,Q r:=by
 have key: ∀n r,List.length r<=n->Q r:=by
  intro n
  induction n with
  |zero=>intro r hr;cases r with
   |nil=>exact h0
   |cons c cs=>rw [Qp]at hr;omega
  |succ n ih=>
   intro r hr;by_cases e:r=[]
   ·rw [e];exact h0
   ·by_cases g:er r=0
    ·refine ht r e g (ih _ ?_);have:=Qky g;rw [Qgs];omega
    ·exact hb r e g
 exact λr=>key r.length r (Qh _)
theorem Qp0 {r:List UInt8} {p:Nat} {L:List Tk} (h:S r p= .ok L):
  (r=[]/\L=[⟨0,[],0,p⟩])\/(r≠[]/\er r=0/\ ∃M,L=tk r p::M/\S (Iw r) (p+off r)= .ok M):=by
 by_cases e:r=[]
 ·subst e;rw [Q48]at h;injection h with h
  exact .inl ⟨rfl,h.symm⟩
 ·by_cases g:er r=0
  ·rw [Qnz p e g]at h;cases hn:S (Iw r) (p+off r)with
   |error x=>rw [hn]at h;cases h
   |ok M=>
    rw [hn]at h;injection h with h
    exact .inr ⟨e,g,M,h.symm,rfl⟩
  ·rw [Qhl p e g]at h;cases h
theorem Q6p {r:List UInt8} {p:Nat} {L:List Tk} (h:S r p= .ok L):0<L.length:=by
 rcases Qp0 h with ⟨_,e⟩ |⟨_,_,M,e,_⟩
 ·rw [e];exact Nat.zero_lt_one
 ·rw [e,Qp];omega
theorem Wfc {r:List UInt8}: ∀{p e q:Nat},S r p= .error (e,q)->e≠0/\p<=q/\q<p+r.length:=by
 refine Qv5 (Q:=λr=> ∀{p e q:Nat},S r p= .error (e,q)->e≠0/\p<=q/\q<p+r.length) ?_ ?_ ?_ r
 ·intro p e q h;cases h
 ·intro r hr hb p e q h;rw [Qhl p hr hb]at h;injection h with h
  injection h with h1 h2
  have:0<r.length:=List.length_pos_iff.2 hr;exact ⟨by omega,by omega,by omega⟩
 ·intro r hr hb ih p e q h;rw [Qnz p hr hb]at h;cases hn:S (Iw r) (p+off r)with
  |error x=>
   rw [hn]at h;injection h with h
   subst h;obtain ⟨h1,h2,h3⟩:=ih hn;rw [Qgs]at h3;have:=Qj3 r;exact ⟨h1,by omega,by omega⟩
  |ok M=>rw [hn]at h;cases h
theorem Wo8 {r:List UInt8}: ∀{p:Nat} {L:List Tk},S r p= .ok L->L.length<=r.length+1:=by
 refine Qv5 (Q:=λr=> ∀{p:Nat} {L:List Tk},S r p= .ok L->L.length<=r.length+1) ?_ ?_ ?_ r
 ·intro p L h;injection h with h;subst h;exact Qh _
 ·intro r hr hb p L h;rw [Qhl p hr hb]at h;cases h
 ·intro r hr hb ih p L h;rcases Qp0 h with ⟨e,_⟩ |⟨_,_,M,e,hM⟩
  ·exact absurd e hr
  ·have:=ih hM;rw [Qgs]at this;have:=Qky hb;have:=Qj3 r;rw [e,Qp];omega
theorem Wrk {a b:Nat} (h:a=35\/Ib a=true):Y4 a b=0:=by
 unfold Ib at h;simp at h;unfold Y4
 repeat' split
 all_goals omega
theorem Wkm {r:List UInt8} (h:0<ln r):Yh false r=0:=by
 cases r with
 |nil=>rfl
 |cons c cs=>
  have hn: ¬(c.toNat=35\/Ib c.toNat=true):=by intro g;have g':=g;unfold Ib at g';simp at g';have h1:isLt c.toNat=false:=(by unfold isLt;simp;omega);have h2:Yn c.toNat=false:=(by unfold Yn;simp;omega);have e:ln (c::cs)=Y4 c.toNat (bt cs 0):=(by simp [ln,h1,h2]);rw [e,Wrk g]at h;omega
  have n1: ¬c.toNat=35:=λg=>hn (.inl g);have n2: ¬Ib c.toNat=true:=λg=>hn (.inr g);simp only [Yh,Qd n1,Qd n2]
structure Nd where
 kind:Int
 ka:Option Addr
 kc:Nat
 kids:List Int
 n:Int
 s:ByteArray
 at_:Int
def Nd.zero:Nd:=⟨0,none,0,[],0,⟨#[]⟩,0⟩
def nd (l:List Nd) (i:Nat):Nd:=l.getD i Nd.zero
def Nd.t (x:Nd):List UInt8:=x.s.data.toList
def Ahead (l:List Nd):Prop:= ∀i,i<l.length-> ∀k∈(nd l i).kids,0<=k/\k<(i:Int)
def fold {α:Type} (f:Nd->List α->α) (l:List Nd):Nat->Nat->α
 | 0,i=>f (nd l i) []
 |g+1,i=>f (nd l i) ((nd l i).kids.map (λk=>fold f l g k.toNat))
def val {α:Type} (f:Nd->List α->α) (l:List Nd) (i:Nat):α:=fold f l i i
theorem Qwz {α:Type} {f:Nd->List α->α} {l:List Nd} (hA:Ahead l): ∀n i,i<n->i<l.length-> ∀g,i<=g->fold f l g i=val f l i:=by
 intro n
 induction n with
 |zero=>intro i h;omega
 |succ n ih=>
  intro i hn hi g hg;have hk:=hA i hi;cases i with
  |zero=>
   have h0:(nd l 0).kids=[]:=by
    cases h:(nd l 0).kids with
    |nil=>rfl
    |cons a r=>have:=hk a (by rw [h];simp);omega
   cases g with
   |zero=>rfl
   |succ g=>unfold val;simp only [fold,h0,Vi]
  |succ i=>
   cases g with
   |zero=>omega
   |succ g=>
    unfold val;simp only [fold];congr 1;apply List.map_congr_left;intro k hk';have:=hk k hk';have hl:k.toNat<l.length:=(by omega);rw [ih k.toNat (by omega) hl g (by omega),ih k.toNat (by omega) hl i (by omega)]
theorem Qo8 {α:Type} {f:Nd->List α->α} {l:List Nd} (hA:Ahead l) {i:Nat} (hi:i<l.length):val f l i=f (nd l i) ((nd l i).kids.map (λk=>val f l k.toNat)):=by rw [<-Qwz hA (i+1) i (by omega) hi (i+1) (by omega)];simp only [fold];congr 1;apply List.map_congr_left;intro k hk;have:=hA i hi k hk;exact Qwz hA (k.toNat+1) k.toNat (by omega) (by omega) i (by omega)
def hgf (_:Nd) (hs:List Nat):Nat:=hs.foldl (λh x=>max h (1+x)) 1
def hgt (l:List Nd) (i:Nat):Nat:=val hgf l i
def szf (_:Nd) (zs:List Nat):Nat:=1+zs.sum
def sz (l:List Nd) (i:Nat):Nat:=val szf l i
def Hg (n:Nat):Bool:=(decide (97<=n)&&decide (n<=122))||(decide (65<=n)&&decide (n<=90))||n==95
def Cm (n:Nat):Bool:=decide (48<=n)&&decide (n<=57)
def Nl:List (List UInt8):=[[102,110],[118,97,114],[105,102],[101,108,115,101],[119,104,105,108,101],[102,111,114],[98,114,101,97,107],[99,111,110,116,105,110,117,101],[114,101,116,117,114,110],[112,114,105,110,116],[108,101,110],[110,101,119],[116,114,117,101],[102,97,108,115,101],[110,105,108],[105,110,116],[98,111,111,108],[97,114,114]]
def Tg (t:List UInt8):Bool:=Nl.any (λk=>t==k)
def Xa (t:List UInt8):Bool:=decide (0<t.length)&&decide (t.length<=32)&& !Cm (bt t 0)&&t.all (λc=>Hg c.toNat||Cm c.toNat)&& !Tg t
def Quo:List (List UInt8):=[[],[],[],[110,105,108],[],[],[110,101,103],[110,111,116],[97,116],[108,101,110],[110,101,119],[99,97,108,108],[118,97,114],[115,101,116],[112,117,116],[105,102],[119,104,105,108,101],[102,111,114],[98,114,101,97,107],[99,111,110,116,105,110,117,101],[114,101,116,117,114,110],[112,114,105,110,116],[100,111],[98,108,111,99,107],[],[102,110],[112,114,111,103]]
def Xu:List (List UInt8):=[[],[124,124],[38,38],[61,61],[33,61],[60],[60,61],[62],[62,61],[43],[45],[43,37],[45,37],[42],[47],[37],[42,37]]
def Qhb:List (List UInt8):=[[],[105,110,116],[98,111,111,108],[97,114,114]]
def Qat (op:Int):List UInt8:=if 0<=op/\op<=16 then Xu.getD op.toNat []else []
def Ud (k:Int):List UInt8:=if 0<=k/\k<=3 then Qhb.getD k.toNat []else []
def Q6 (k:Int):Bool:=decide (1<=k)&&decide (k<=11)
def Jv (k:Int):Bool:=decide (12<=k)&&decide (k<=22)
def named (k:Int):Bool:=decide (k∈[(4:Int),11,12,13,14,17,24,25])
def Ej (k n:Int):Bool:=
 if k=1 then decide (0<=n)else if k=2 then decide (n=0)||decide (n=1)else if k=5 then decide (1<=n)&&decide (n<=16)
 else if k=24\/k=25 then decide (1<=n)&&decide (n<=3)else decide (n=0)
def exprs (ks:List Int) (n:Nat):Bool:=decide (n<=ks.length)&&(ks.take n).all Q6
def Jd (ks:List Int) (k:Int) (m:Nat):Bool:=ks.all (λx=>x==k)&&decide (ks.length<=m)
def Y9 (k:Int) (ks:List Int):Bool:=
 if k=5\/k=8\/k=14 then decide (ks.length=2)&&exprs ks 2
 else if k=6\/k=7\/k=9\/k=10\/k=12\/k=13\/k=20\/k=21 then decide (ks.length=1)&&exprs ks 1
 else if k=11 then decide (ks.length<=8)&&exprs ks ks.length
 else if k=15 then exprs ks 1&&decide (2<=ks.length)&&Jd (ks.drop 1) 23 2
 else if k=16 then exprs ks 1&&decide (ks.length=2)&&Jd (ks.drop 1) 23 1
 else if k=17 then exprs ks 2&&decide (ks.length=3)&&Jd (ks.drop 2) 23 1
 else if k=22 then decide (ks.length=1)&&decide (ks.getD 0 0=11)
 else if k=23 then ks.all Jv
 else if k=25 then decide (1<=ks.length)&&Jd (ks.take (ks.length-1)) 24 8&&decide (ks.getD (ks.length-1) 0=23)
 else if k=26 then Jd ks 25 200
 else decide (ks.length=0)
def ownB (x:Nd):Bool:=
 decide (1<=x.kind)&&decide (x.kind<=26)&&decide (0<=x.at_)&&(if named x.kind then Xa x.t else decide (x.t=[]))&&Ej x.kind x.n
def kk (l:List Nd) (x:Nd):List Int:=x.kids.map (λk=>(nd l k.toNat).kind)
def J7 (l:List Nd) (x:Nd):Bool:=ownB x&&Y9 x.kind (kk l x)
def Jc (l:List Nd) (i:Nat):List Int:=(l.take i).flatMap (λx=>x.kids)
def Hw (l:List Nd):Prop:=0<l.length/\Ahead l/\(Jc l l.length).Nodup/\(Jc l l.length).length=l.length-1
def Fits (l:List Nd):Prop:= ∀i,i<l.length->J7 l (nd l i)=true
def Rt (l:List Nd):Prop:=Hw l/\Fits l/\hgt l (l.length-1)<=200
def Cw (x:Nd):List UInt8:=if x.kind=1 then Lib.itoa x.n else if x.kind=2 then Lib.formatBool (x.n==1)else if x.kind=5 then Qat x.n else Quo.getD x.kind.toNat []
def C9 (x:Nd):List UInt8:=if x.kind=24\/x.kind=25 then Ud x.n else []
def hd (x:Nd):List UInt8:=Lib.join ([Cw x,x.t,C9 x].filter (λt=> !t.isEmpty)) [32]
def txf (x:Nd) (ts:List (List UInt8)):List UInt8:=if x.kind<=4 then hd x else [40]++hd x++ts.flatMap (λt=>32::t)++[41]
def tx (l:List Nd) (i:Nat):List UInt8:=val txf l i
theorem Qf4 {l:List Nd} (hA:Ahead l) {i:Nat} (hi:i<l.length):hgt l i=((nd l i).kids.map (λk=>hgt l k.toNat)).foldl (λh x=>max h (1+x)) 1:=Qo8 hA hi
theorem Qng {l:List Nd} (hA:Ahead l) {i:Nat} (hi:i<l.length):sz l i=1+((nd l i).kids.map (λk=>sz l k.toNat)).sum:=Qo8 hA hi
theorem Qtm {l:List Nd} (hA:Ahead l) {i:Nat} (hi:i<l.length):tx l i=txf (nd l i) ((nd l i).kids.map (λk=>tx l k.toNat)):=Qo8 hA hi
section
open Go.RowKit
theorem Qa {p:Prop} (h:p):Hid p:=h
def Vd (k:IntKind) (w:World) (a:Option Addr) (n:Nat) (f:Nat->Int):Prop:=
 0<n-> ∃b off,a=some ⟨b,off,none⟩/\b<w.heap.size/\ ∀j,j<n->w.cell? ⟨b,off+j,none⟩=some (.int k (f j))
theorem Vd.below {k:IntKind} {w w':World} {a:Option Addr} {n:Nat} {f:Nat->Int} (h:Vd k w a n f) (hb:Below w.heap.size w w'):Vd k w' a n f:=by intro hn;obtain ⟨b,off,ha,hlt,hc⟩:=h hn;exact ⟨b,off,ha,Fe hlt hb.size,λj hj=>(hb.cell (p:=⟨b,off+j,none⟩) hlt).trans (hc j hj)⟩
theorem Vd.congr {k:IntKind} {w:World} {a:Option Addr} {n:Nat} {f g:Nat->Int} (h:Vd k w a n f) (e: ∀j,j<n->f j=g j):Vd k w a n g:=by intro hn;obtain ⟨b,off,ha,hlt,hc⟩:=h hn;exact ⟨b,off,ha,hlt,λj hj=>by rw [hc j hj,e j hj]⟩
def Mine (k:IntKind) (t:TypeId) (w:World) (g n:Nat) (f:Nat->Int):Prop:=
 ∃c:Array Value,w.heap[g]? =some (.cells c t (0,0))/\n<=c.size/\ ∀j,j<n->c[j]? =some (.int k (f j))
theorem Mine.lt {k:IntKind} {t:TypeId} {w:World} {g n:Nat} {f:Nat->Int} (h:Mine k t w g n f):g<w.heap.size:=by obtain ⟨c,hb,_,_⟩:=h;obtain ⟨hlt,_⟩:=Array.getElem?_eq_some_iff.1 hb;exact hlt
theorem Mine.cell {k:IntKind} {t:TypeId} {w:World} {g n:Nat} {f:Nat->Int} (h:Mine k t w g n f) {j:Nat} (hj:j<n):w.cell? ⟨g,j,none⟩=some (.int k (f j)):=by obtain ⟨c,hb,_,hc⟩:=h;simp [World.cell?,hb,hc j hj]
theorem Mine.frozen {k:IntKind} {t:TypeId} {w:World} {g n:Nat} {f:Nat->Int} (h:Mine k t w g n f) (j:Nat):w.frozen? ⟨g,j,none⟩=false:=by obtain ⟨c,hb,_,_⟩:=h;simp [World.frozen?,hb]
theorem Mine.block {k:IntKind} {t:TypeId} {w w':World} {g n:Nat} {f:Nat->Int} (h:Mine k t w g n f) (e:w'.heap[g]? =w.heap[g]?):Mine k t w' g n f:=by obtain ⟨c,hb,hn,hc⟩:=h;exact ⟨c,e.trans hb,hn,hc⟩
theorem Mine.below {k:IntKind} {t:TypeId} {w w':World} {g n:Nat} {f:Nat->Int} (h:Mine k t w g n f) (hb:Below w.heap.size w w'):Mine k t w' g n f:=h.block (hb.block g h.lt)
theorem Mine.congr {k:IntKind} {t:TypeId} {w:World} {g n:Nat} {f f':Nat->Int} (h:Mine k t w g n f) (e: ∀j,j<n->f j=f' j):Mine k t w g n f':=by obtain ⟨c,hb,hn,hc⟩:=h;exact ⟨c,hb,hn,λj hj=>by rw [hc j hj,e j hj]⟩
theorem Mine.set {k:IntKind} {t:TypeId} {w:World} {g n:Nat} {f:Nat->Int} (h:Mine k t w g n f) (i:Nat) (x:Int):Mine k t (w.setCell ⟨g,i,none⟩ (.int k x)) g n (λj=>if j=i then x else f j):=by
 obtain ⟨c,hb,hn,hc⟩:=h;refine ⟨c.setIfInBounds i (.int k x),?_,by simpa using hn,λj hj=> ?_⟩
 ·simp [World.setCell,Array.getElem?_modify,hb]
 ·rw [Array.getElem?_setIfInBounds];by_cases e:j=i
  ·subst e;simp [show j<c.size by omega]
  ·rw [Qd (λh=>e h.symm)];show c[j]? =some (.int k (if j=i then x else f j));rw [Qd e];exact hc j hj
theorem Mine.rows {k:IntKind} {t:TypeId} {w:World} {g n:Nat} {f:Nat->Int} (h:Mine k t w g n f):Vd k w (some ⟨g,0,none⟩) n f:=
 λ_=>⟨g,0,rfl,h.lt,λj hj=>by rw [Bq];exact h.cell hj⟩
theorem Mine.made (w:World) (k:IntKind) (t:TypeId) (n:Nat):Mine k t (w.alloc (.cells (madeCells #[.int k 0] n) t)) w.heap.size n (λ_=>0):=by obtain ⟨c,hb,hn,hc⟩:=World.rowIs_made w (.int k 0) n t;exact ⟨c,hb,by omega,hc⟩
theorem Mine.own {k:IntKind} {t:TypeId} {w:World} {base n:Nat} {v:Value} {xs:List Int} (h:w.ownsRow base t 1 v n (xs.map (Value.int k))) (f:Nat->Int) (hf: ∀j,j<n->f j=xs.getD j 0) (hv:v≠ .slice none 0 0):
  ∃g cap,v= .slice (some ⟨g,0,none⟩) n cap/\base<=g/\n=xs.length/\Mine k t w g n f:=by
 obtain ⟨hl,h2⟩:=h;rw [Zr,Nat.mul_one]at hl;rcases h2 with ⟨h2,_⟩ |⟨g,cap,cur,rfl,hg,hh,h1,_,hs,ht⟩
 ·exact absurd h2 hv
 ·refine ⟨g,cap,rfl,hg,hl.symm,cur,hh,by omega,λj hj=> ?_⟩;rw [Nat.mul_one]at ht;have e:(cur.toList.take n)[j]? =(xs.map (Value.int k))[j]?:=by rw [ht]
  rw [List.getElem?_take]at e;simp only [hj,if_true]at e;rw [hf j hj,<-Array.getElem?_toList,e,Ng,Yc,Y3 (by omega)];rfl
theorem Vd.own {k:IntKind} {t:TypeId} {w:World} {base n:Nat} {v:Value} {xs:List Int} (h:w.ownsRow base t 1 v n (xs.map (Value.int k))):
  ∃a cap,v= .slice a xs.length cap/\Vd k w a xs.length (λj=>xs.getD j 0):=by
 by_cases hv:v= .slice none 0 0
 ·subst hv;obtain ⟨hl,h2⟩:=h;rcases h2 with ⟨_,h2⟩ |⟨g,cap,cur,h3,_⟩
  ·subst h2;rw [Zr]at hl;have:xs.length=0:=(by omega);rw [this];exact ⟨none,0,rfl,λh=>by omega⟩
  ·cases h3
 ·obtain ⟨g,cap,rfl,_,hn,hm⟩:=Mine.own h (λj=>xs.getD j 0) (λ_ _=>rfl) hv;subst hn;exact ⟨_,cap,rfl,hm.rows⟩
theorem Vd.drewN {k:IntKind} {w:World} {a:Option Addr} {n:Nat} {f:Nat->Int} (h:Vd k w a n f) (q:Nat):Vd k (w.drewN q) a n f:=h
theorem Wq (w:World) (q:Nat) (B:Nat):Below B w (w.drewN q):=⟨rfl,rfl,rfl,Qh _,λ_ _=>rfl⟩
def allEq (n:Nat) (f g:Nat->Int):Bool:=(List.range n).all (λj=>f j==g j)
theorem Q44 {n:Nat} {f g:Nat->Int} (h: ∀j,j<n->f j=g j):allEq n f g=true:=by simp only [allEq,Ou,List.mem_range,beq_iff_eq];exact h
theorem Q4a {n k:Nat} {f g:Nat->Int} (hk:k<n) (h:f k≠g k):allEq n f g=false:=by rw [Bool.eq_false_iff];intro hh;simp only [allEq,Ou,List.mem_range,beq_iff_eq]at hh;exact h (hh k hk)
structure But (g:Nat) (w w':World):Prop where
 os:w'.os=w.os
 tape:w'.tape=w.tape
 output:w'.output=w.output
 size:w'.heap.size=w.heap.size
 block: ∀k,k≠g->w'.heap[k]? =w.heap[k]?
theorem But.refl (g:Nat) (w:World):But g w w:=⟨rfl,rfl,rfl,rfl,λ_ _=>rfl⟩
theorem But.trans {g:Nat} {a b c:World} (h:But g a b) (k:But g b c):But g a c:=
 ⟨k.os.trans h.os,k.tape.trans h.tape,k.output.trans h.output,k.size.trans h.size,λi hi=>(k.block i hi).trans (h.block i hi)⟩
theorem But.setCell (g i:Nat) (v:Value) (w:World):But g w (w.setCell ⟨g,i,none⟩ v):=
 ⟨rfl,rfl,rfl,by simp [World.setCell],λk hk=>Below.heap_setCell _ _ _ _ hk⟩
theorem But.drew {g:Nat} {w w':World} (h:But g w w'):But g w w'.drew:=⟨h.os,h.tape,h.output,h.size,h.block⟩
theorem But.below {g B:Nat} {w0 w w':World} (h:But g w w') (hb:Below B w0 w) (hg:B<=g):Below B w0 w':=
 hb.trans ⟨h.os,h.tape,h.output,by rw [h.size];exact Qh _,λk hk=>h.block k (by omega)⟩
end
section
open Go.ChangeShapes Go.WideShapes Go.ChangeAt Go.RowKit
theorem Wp1 {w:World} {p:Addr} {v:Value} (h:w.cell? p=some v):p.block<w.heap.size:=by apply Nat.lt_of_not_le;intro hle;have e:w.heap[p.block]? =none:=Array.getElem?_eq_none hle;simp [World.cell?,e]at h
end
section
open Go.RowKit
def Held (w:World) (g:Nat) (t:TypeId) (cs:Array Value):Prop:=w.heap[g]? =some (.cells cs t (0,0))
theorem Held.lt {w:World} {g:Nat} {t:TypeId} {cs:Array Value} (h:Held w g t cs):g<w.heap.size:=by obtain ⟨hlt,_⟩:=Array.getElem?_eq_some_iff.1 h;exact hlt
theorem Held.cell {w:World} {g:Nat} {t:TypeId} {cs:Array Value} (h:Held w g t cs) (j:Nat):w.cell? ⟨g,j,none⟩=cs[j]?:=by unfold Held at h;simp [World.cell?,h]
theorem Held.at_ {w:World} {g:Nat} {t:TypeId} {cs:Array Value} (h:Held w g t cs) {j:Nat} {v:Value} (hv:cs[j]? =some v):w.cell? ⟨g,j,none⟩=some v:=(h.cell j).trans hv
theorem Held.frozen {w:World} {g:Nat} {t:TypeId} {cs:Array Value} (h:Held w g t cs) (j:Nat):w.frozen? ⟨g,j,none⟩=false:=by unfold Held at h;simp [World.frozen?,h]
theorem Held.block {w w':World} {g:Nat} {t:TypeId} {cs:Array Value} (h:Held w g t cs) (e:w'.heap[g]? =w.heap[g]?):Held w' g t cs:=e.trans h
theorem Held.below {w w':World} {g B:Nat} {t:TypeId} {cs:Array Value} (h:Held w g t cs) (hb:Below B w w') (hg:g<B):Held w' g t cs:=h.block (hb.block g hg)
theorem Held.since {w w':World} {g:Nat} {t:TypeId} {cs:Array Value} (h:Held w g t cs) (hb:Below w.heap.size w w'):Held w' g t cs:=h.below hb h.lt
theorem Held.drew {w:World} {g:Nat} {t:TypeId} {cs:Array Value} (h:Held w g t cs):Held w.drew g t cs:=h
theorem Held.new (w:World) (t:TypeId) (cs:Array Value):Held (w.alloc (.cells cs t)) w.heap.size t cs:=by show (w.heap.push _)[w.heap.size]? =_;simp
theorem Held.alloc {w:World} {g:Nat} {t:TypeId} {cs:Array Value} (h:Held w g t cs) (o:Obj):Held (w.alloc o) g t cs:=by have hlt:=h.lt;show (w.heap.push o)[g]? =_;rw [Array.getElem?_push,Qd (by omega)];exact h
theorem Held.set {w:World} {g:Nat} {t:TypeId} {cs:Array Value} (h:Held w g t cs) (i:Nat) (v:Value):Held (w.setCell ⟨g,i,none⟩ v) g t (cs.setIfInBounds i v):=by unfold Held at h ⊢;simp [World.setCell,Array.getElem?_modify,h]
theorem Held.off {w:World} {g g':Nat} {t:TypeId} {cs:Array Value} (h:Held w g t cs) (hne:g≠g') (i:Nat) (v:Value):Held (w.setCell ⟨g',i,none⟩ v) g t cs:=
 h.block (by simp [World.setCell,Array.getElem?_modify,Ne.symm hne])
def Xi (t:TypeId) (sz:Nat) (w0 w:World) (v:Value) (n:Nat) (xs:List Value):Prop:=w.ownsRow w0.heap.size t sz v n xs/\Below w0.heap.size w0 w
theorem Xi.drewN {t:TypeId} {sz n:Nat} {w0 w:World} {v:Value} {xs:List Value} (h:Xi t sz w0 w v n xs) (q:Nat):Xi t sz w0 (w.drewN q) v n xs:=⟨h.1,⟨h.2.os,h.2.tape,h.2.output,h.2.size,h.2.block⟩⟩
theorem Xi.nil (t:TypeId) (sz:Nat) (w:World):Xi t sz w w (.slice none 0 0) 0 []:=⟨⟨by simp,.inl ⟨rfl,rfl⟩⟩,Below.refl _ _⟩
theorem Xi.quiet {t:TypeId} {sz n:Nat} {w0 w w':World} {v:Value} {xs:List Value} (h:Xi t sz w0 w v n xs) (hb:Below w.heap.size w w'):Xi t sz w0 w' v n xs:=by
 refine ⟨⟨h.1.1,?_⟩,h.2.trans (hb.mono h.2.size)⟩;rcases h.1.2 with h1 |⟨g,cap,cur,h1,h2,h3,r⟩
 ·exact .inl h1
 ·refine .inr ⟨g,cap,cur,h1,h2,?_,r⟩;obtain ⟨hlt,_⟩:=Array.getElem?_eq_some_iff.1 h3;rw [hb.block g hlt];exact h3
theorem Xi.apart {t:TypeId} {sz n:Nat} {w w1 w2 w3:World} {v:Value} {xs:List Value} (h:Xi t sz w1 w2 v n xs) (hb:Below w.heap.size w w1) (hk: ∀k,w1.heap.size<=k->w3.heap[k]? =w2.heap[k]?) (h3:Below w.heap.size w w3):Xi t sz w w3 v n xs:=by
 refine ⟨⟨h.1.1,?_⟩,h3⟩;rcases h.1.2 with h1 |⟨g,cap,cur,h1,h2,h4,r⟩
 ·exact .inl h1
 ·exact .inr ⟨g,cap,cur,h1,F7 hb.size h2,(hk g h2).trans h4,r⟩
theorem Xi.shape {t:TypeId} {sz n:Nat} {w0 w:World} {v:Value} {xs:List Value} (h:Xi t sz w0 w v n xs):
  ∃a cap,v= .slice a n cap/\n<=cap/\(0<n-> ∃g,a=some ⟨g,0,none⟩/\g<w.heap.size/\ ∀j u,xs[j]? =some u->w.cell? ⟨g,j,none⟩=some u):=by
 rcases h.1.2 with ⟨rfl,rfl⟩ |⟨g,cap,cur,rfl,h2,h3,h4,h5,h6,h7⟩
 ·exact ⟨none,0,rfl,Qh _,λh=>by omega⟩
 ·refine ⟨_,cap,rfl,h4,λ_=>⟨g,rfl,(Array.getElem?_eq_some_iff.1 h3).1,λj u hj=> ?_⟩⟩;rw [<-h7]at hj;have hj':j<n*sz:=by obtain ⟨hl,_⟩:=List.getElem?_eq_some_iff.1 hj;rw [F9]at hl;omega
  rw [List.getElem?_take_of_lt hj',Array.getElem?_toList]at hj;simp [World.cell?,h3,hj]
theorem Wgy {P:Program} {ops:Array Oper} {rest:List Oper} {o:Oper} {a:Act} {Q:Exit->Act->World->Prop} (hgd:o.guard=none) (s x:Operand) (T t:TypeId) (z:Value) (sz bytes:Nat)
  (ht:P.underlying T=some (.slice t)) (hinfo:(P.info? t).map (λi=>(i.zero,i.size,i.bytes))=some (some z,sz,bytes)) (hzs:z.cells.size=sz) (hsz:0<sz) (hby:bytes<=1000)
  (ho:o.op= .call {callee:=.builtin .append,args:= #[s,x],argTypes:= #[T,T]})
  (w0 w:World) (v:Value) (n:Nat) (xs news:List Value) (cs:Array Value) (hs:a.eval s=v) (hx:a.eval x= .slice (some ⟨w.heap.size,0,none⟩) 1 1) (hb:Xi t sz w0 w v n xs) (hlen:n<=10000000)
  (hcs:cs=news.toArray) (hl:news.length=sz) (h1: ∀u∈news,u.oneCell'=true)
  (h: ∀v' w',Xi t sz w0 w' v' (n+1) (xs++news)->wpList P ops Q rest (a.put o.dst v') w'):
  wpList P ops Q (o::rest) a (w.alloc (.cells cs t)):=by
 obtain ⟨i0,hi,hz0,hz1,hz2⟩:=info_parts hinfo;refine wpList_append_own _ hgd s x T ho w0.heap.size t i0 z sz bytes ht hi hz0 hz1 hz2 hzs hsz v n xs hs (hb.1.alloc _) ⟨w.heap.size,0,none⟩ 1 1 news hx (by omega) ?_ h1 ?_ ?_ ?_ ?_
 ·intro j u hj;have hc:=(Held.new w t cs).cell j;have he:(⟨w.heap.size,0,none⟩:Addr).add j=⟨w.heap.size,j,none⟩:=by
   simp only [Addr.add];split
   ·rename_i h0;rw [h0]
   ·rw [Bq]
  rw [he,hc,hcs];simpa using hj
 ·unfold maxLen;omega
 ·have:(n+1)*bytes<=10000001*1000:=Nat.mul_le_mul (by omega) hby;omega
 ·have:=hb.2.size;simp;omega
 ·intro v' w' hown hgrow _;refine h v' w' ⟨hown,?_⟩;refine ((hb.2.alloc hb.2.size _)).grown hgrow (by have:=hb.2.size;simp;omega) ?_;intro k hk;exact (hb.1.lt k hk).1
theorem Xi.lt {t:TypeId} {sz n:Nat} {w0 w:World} {v:Value} {xs:List Value} (h:Xi t sz w0 w v n xs) (k:Nat) (hk:v.ownBlock=some k):k<w.heap.size:=(h.1.lt k hk).2
theorem Qnr {P:Program} {ops:Array Oper} {rest:List Oper} {o:Oper} {a:Act} {Q:Exit->Act->World->Prop} (hgd:o.guard=none) (s x:Operand) (T t:TypeId) (z:Value) (sz bytes:Nat)
  (ht:P.underlying T=some (.slice t)) (hinfo:(P.info? t).map (λi=>(i.zero,i.size,i.bytes))=some (some z,sz,bytes)) (hzs:z.cells.size=sz) (hsz:0<sz) (hby:bytes<=1000)
  (ho:o.op= .call {callee:=.builtin .append,args:= #[s,x],argTypes:= #[T,T]})
  (w0 w:World) (v:Value) (n:Nat) (xs news:List Value) (cs:Array Value) (hs:a.eval s=v) (hx:a.eval x= .slice (some ⟨w.heap.size,0,none⟩) 1 1) (hb:Xi t sz w0 w v n xs) (hlen:n<=10000000)
  (hcs:cs=news.toArray) (hl:news.length=sz) (h1: ∀u∈news,u.oneCell'=true)
  (h: ∀v' w',Xi t sz w0 w' v' (n+1) (xs++news)->(∀k,k<w.heap.size->v.ownBlock≠some k->w'.heap[k]? =w.heap[k]?)->wpList P ops Q rest (a.put o.dst v') w'):
  wpList P ops Q (o::rest) a (w.alloc (.cells cs t)):=by
 obtain ⟨i0,hi,hz0,hz1,hz2⟩:=info_parts hinfo;refine wpList_append_own _ hgd s x T ho w0.heap.size t i0 z sz bytes ht hi hz0 hz1 hz2 hzs hsz v n xs hs (hb.1.alloc _) ⟨w.heap.size,0,none⟩ 1 1 news hx (by omega) ?_ h1 ?_ ?_ ?_ ?_
 ·intro j u hj;have hc:=(Held.new w t cs).cell j;have he:(⟨w.heap.size,0,none⟩:Addr).add j=⟨w.heap.size,j,none⟩:=by
   simp only [Addr.add];split
   ·rename_i h0;rw [h0]
   ·rw [Bq]
  rw [he,hc,hcs];simpa using hj
 ·unfold maxLen;omega
 ·have:(n+1)*bytes<=10000001*1000:=Nat.mul_le_mul (by omega) hby;omega
 ·have:=hb.2.size;simp;omega
 ·intro v' w' hown hgrow _;have hkeep: ∀k,k<w.heap.size->v.ownBlock≠some k->w'.heap[k]? =w.heap[k]?:=by intro k hk hne;rw [hgrow.block k (by simp;omega) (λe=>hne e.symm)];show (w.heap.push _)[k]? =_;rw [Array.getElem?_push,Qd (by omega)]
  refine h v' w' ⟨hown,?_⟩ hkeep;refine ((hb.2.alloc hb.2.size _)).grown hgrow (by have:=hb.2.size;simp;omega) ?_;intro k hk;exact (hb.1.lt k hk).1
end
section
open Go.ChangeShapes Go.WideShapes Go.ChangeAt Go.RowKit
def Nd.cs (x:Nd):Array Value:= #[.int .i64 x.kind,.slice x.ka x.kids.length x.kc,.int .i64 x.n,.string x.s,.int .i64 x.at_]
def Nd.v (x:Nd):Value:=.agg x.cs
structure Ok (w:World) (x:Nd):Prop where
 rows:Vd .i64 w x.ka x.kids.length (λj=>x.kids.getD j 0)
 cap:x.kids.length<=x.kc
 none:x.ka=none->x.kc=0
 len:x.kids.length<=140737488351232
 n0: -9223372036854775808<=x.n
 n1:x.n<=9223372036854775807
 s:x.s.size<=140737488351232
theorem Ok.below {w w':World} {x:Nd} (h:Ok w x) (hb:Below w.heap.size w w'):Ok w' x:=⟨h.rows.below hb,h.cap,h.none,h.len,h.n0,h.n1,h.s⟩
def Qes (w:World) (b o:Nat) (x:Nd):Prop:=
 w.cell? ⟨b,o,none⟩=some (.int .i64 x.kind)/\w.cell? ⟨b,o+1,none⟩=some (.slice x.ka x.kids.length x.kc)/\w.cell? ⟨b,o+2,none⟩=some (.int .i64 x.n)/\
 w.cell? ⟨b,o+3,none⟩=some (.string x.s)/\w.cell? ⟨b,o+4,none⟩=some (.int .i64 x.at_)
theorem Qes.below {w w':World} {b o B:Nat} {x:Nd} (h:Qes w b o x) (hb:Below B w w') (hlt:b<B):Qes w' b o x:=by obtain ⟨h0,h1,h2,h3,h4⟩:=h;exact ⟨(hb.cell (p:=⟨b,o,none⟩) hlt).trans h0,(hb.cell (p:=⟨b,o+1,none⟩) hlt).trans h1,(hb.cell (p:=⟨b,o+2,none⟩) hlt).trans h2,(hb.cell (p:=⟨b,o+3,none⟩) hlt).trans h3,(hb.cell (p:=⟨b,o+4,none⟩) hlt).trans h4⟩
def Nodes (w:World) (a:Option Addr) (l:List Nd):Prop:=
 (0<l.length-> ∃b off,a=some ⟨b,off,none⟩/\b<w.heap.size/\ ∀j,j<l.length->Qes w b (off+j*5) (nd l j))/\ ∀j,j<l.length->Ok w (nd l j)
theorem Nodes.below {w w':World} {a:Option Addr} {l:List Nd} (h:Nodes w a l) (hb:Below w.heap.size w w'):Nodes w' a l:=by refine ⟨λhn=> ?_,λj hj=>(h.2 j hj).below hb⟩;obtain ⟨b,off,ha,hlt,hc⟩:=h.1 hn;exact ⟨b,off,ha,Fe hlt hb.size,λj hj=>(hc j hj).below hb hlt⟩
theorem Nodes.at_ {w:World} {a:Option Addr} {l:List Nd} (h:Nodes w a l) {j:Nat} (hj:j<l.length): ∃b off,a=some ⟨b,off,none⟩/\b<w.heap.size/\Qes w b (off+j*5) (nd l j):=by obtain ⟨b,off,ha,hlt,hc⟩:=h.1 (by omega);exact ⟨b,off,ha,hlt,hc j hj⟩
theorem Uv {l:List Nd} {i:Nat} (hi:i<l.length):nd l i=l[i]:=by unfold nd;rw [Yc,Y3 hi];rfl
end
section
open Go.RowKit
theorem Qon: ∀(n:Nat) (l:List Int),l.Nodup->(∀x∈l,0<=x/\x<(n:Int))->l.length<=n
 | 0,[],_,_=>Qh _
 | 0,x::r,_,h=>by have:=h x (by simp);omega
 |n+1,l,hn,h=>by
  by_cases hm:(n:Int)∈l
  ·have h1:=Qon n (l.erase (n:Int)) (hn.erase _) (λx hx=>by have h2:=(List.Nodup.mem_erase_iff hn).1 hx;have h3:=h x h2.2;have:=h2.1;omega);rw [List.length_erase_of_mem hm]at h1;omega
  ·have h1:=Qon n l hn (λx hx=>by have h3:=h x hx;have:x≠(n:Int):=λe=>hm (e▸hx);omega);omega
theorem Wei {l:List Nd} {i:Nat} (hi:i<l.length):l.take (i+1)=l.take i++[nd l i]:=by rw [List.take_succ_eq_append_getElem hi,Uv hi]
theorem Qf0 {l:List Nd} {i:Nat} (hi:i<l.length):Jc l (i+1)=Jc l i++(nd l i).kids:=by unfold Jc;rw [Wei hi,List.flatMap_append];simp
def seen (l:List Nd) (i k:Nat):List Int:=Jc l i++(nd l i).kids.take k
theorem Qr4 (l:List Nd) (i:Nat):seen l i 0=Jc l i:=by simp [seen]
theorem Q3c {l:List Nd} {i:Nat} (hi:i<l.length):seen l i (nd l i).kids.length=seen l (i+1) 0:=by rw [Qr4,Qf0 hi];unfold seen;rw [List.take_length]
theorem Qi4 {ks:List Int} {k:Nat} (hk:k<ks.length):ks.take (k+1)=ks.take k++[ks.getD k 0]:=by rw [List.take_succ_eq_append_getElem hk,Yc,Y3 hk];rfl
theorem Qvt {l:List Nd} {i k:Nat} (hk:k<(nd l i).kids.length):seen l i (k+1)=seen l i k++[(nd l i).kids.getD k 0]:=by unfold seen;rw [Qi4 hk,Qy]
structure D9 (l:List Nd) (i k:Nat):Prop where
 ahead: ∀i',i'<i-> ∀x∈(nd l i').kids,0<=x/\x<(i':Int)
 here: ∀x∈(nd l i).kids.take k,0<=x/\x<(i:Int)
 nodup:(seen l i k).Nodup
theorem D9.start (l:List Nd):D9 l 0 0:=⟨λi h=>by omega,λx hx=>by simp at hx,by simp [seen,Jc]⟩
theorem D9.range {l:List Nd} {i k:Nat} (h:D9 l i k) (hi:i<=l.length): ∀x∈seen l i k,0<=x/\x<(i:Int):=by
 intro x hx;rcases List.mem_append.1 hx with h1 |h1
 ·obtain ⟨y,hy,hxy⟩:=List.mem_flatMap.1 h1;obtain ⟨j,hj,rfl⟩:=List.mem_iff_getElem.1 hy;rw [F9]at hj;rw [List.getElem_take,<-Uv (by omega)]at hxy;have:=h.ahead j (by omega) x hxy;omega
 ·exact h.here x h1
theorem D9.len {l:List Nd} {i k:Nat} (h:D9 l i k) (hi:i<=l.length):(seen l i k).length<=i:=Qon i _ h.nodup (h.range hi)
theorem D9.next {l:List Nd} {i k:Nat} (h:D9 l i k) (hk:k<(nd l i).kids.length) (h0:0<=(nd l i).kids.getD k 0) (h1:(nd l i).kids.getD k 0<(i:Int)) (hn:(nd l i).kids.getD k 0 ∉ seen l i k):D9 l i (k+1):=by
 refine ⟨h.ahead,λx hx=> ?_,?_⟩
 ·rw [Qi4 hk]at hx;rcases List.mem_append.1 hx with h2 |h2
  ·exact h.here x h2
  ·rw [Qqh]at h2;rw [h2];exact ⟨h0,h1⟩
 ·rw [Qvt hk];refine List.nodup_append.2 ⟨h.nodup,by simp,λa ha b hb=> ?_⟩;rw [Qqh]at hb;subst hb;exact λe=>hn (e▸ha)
theorem D9.turn {l:List Nd} {i:Nat} (h:D9 l i (nd l i).kids.length) (hi:i<l.length):D9 l (i+1) 0:=by
 refine ⟨λi' hi' x hx=> ?_,λx hx=>by simp at hx,?_⟩
 ·rcases V7 i' i with g |g
  ·exact h.ahead i' g x hx
  ·obtain rfl:i'=i:=(by omega);exact h.here x (by rw [List.take_length];exact hx)
 ·rw [<-Q3c hi];exact h.nodup
theorem D9.whole {l:List Nd} (h:D9 l l.length 0):Ahead l:=λi hi k hk=>h.ahead i hi k hk
theorem Q0z {l:List Nd} {i k:Nat} (hi:i<l.length) (hk:k<(nd l i).kids.length) (h: ¬(0<=(nd l i).kids.getD k 0/\(nd l i).kids.getD k 0<(i:Int))): ¬Hw l:=by rintro ⟨_,hA,_⟩;refine h (hA i hi _ ?_);rw [Yc,Y3 hk];exact F5 hk
theorem Q75 (l:List Nd): ∀(d i:Nat),i+d<=l.length-> ∃r,Jc l (i+d)=Jc l i++r
 | 0,i,_=>⟨[],by simp⟩
 |d+1,i,h=>by obtain ⟨r,hr⟩:=Q75 l d i (by omega);exact ⟨r++(nd l (i+d)).kids,by rw [<-La,Qf0 (by omega),hr,Qy]⟩
theorem Q8s {l:List Nd} {i k:Nat} (hi:i<l.length) (hk:k<(nd l i).kids.length) (h:(nd l i).kids.getD k 0∈seen l i k): ¬Hw l:=by
 rintro ⟨_,_,hN,_⟩;obtain ⟨r,hr⟩:=Q75 l (l.length-(i+1)) (i+1) (by omega);rw [show i+1+(l.length-(i+1))=l.length by omega]at hr;rw [hr]at hN;have h1:=(List.nodup_append.1 hN).1;rw [Qf0 hi]at h1;have h2:Jc l i++(nd l i).kids=seen l i (k+1)++(nd l i).kids.drop (k+1):=by unfold seen;rw [Qy,List.take_append_drop]
 rw [h2]at h1;have h3:=(List.nodup_append.1 h1).1;rw [Qvt hk]at h3;exact (List.nodup_append.1 h3).2.2 _ h _ (List.mem_singleton.2 rfl) rfl
theorem Wld {l:List Nd} (h:D9 l l.length 0):Hw l↔0<l.length/\(seen l l.length 0).length=l.length-1:=by
 rw [Qr4];constructor
 ·rintro ⟨h1,_,_,h2⟩;exact ⟨h1,h2⟩
 ·rintro ⟨h1,h2⟩;have:=h.nodup;rw [Qr4]at this;exact ⟨h1,h.whole,this,h2⟩
def Jr (P:Prop) (w:World) (e:Ending) (w':World):Prop:= ∃b:Bool,e= .returned (.bool b)/\(b=true↔P)/\Below w.heap.size w w'
theorem Jr.yes {P:Prop} {w w':World} {e:Ending} (he:e= .returned (.bool true)) (h:P) (hb:Below w.heap.size w w'):Jr P w e w':=⟨true,he,by simp [h],hb⟩
theorem Jr.no {P:Prop} {w w':World} {e:Ending} (he:e= .returned (.bool false)) (h: ¬P) (hb:Below w.heap.size w w'):Jr P w e w':=⟨false,he,by simp [h],hb⟩
end
inductive Under (l:List Nd):Nat->Nat->Prop
 |refl (i:Nat):Under l i i
 |step {i j:Nat} {k:Int} (hk:k∈(nd l i).kids) (h:Under l k.toNat j):Under l i j
theorem Under.le {l:List Nd} (hA:Ahead l) {i j:Nat} (h:Under l i j):i<l.length->j<=i:=by
 induction h with
 |refl i=>intro _;exact Qh _
 |step hk _ ih=>
  intro hi;have:=hA _ hi _ hk;have:=ih (by omega);omega
def mx (l:List Nd) (i j:Nat):Nat:=(((nd l i).kids.take j).map (λk=>hgt l k.toNat)).foldl (λh x=>max h (1+x)) 1
theorem Qp7 (l:List Nd) (i:Nat):mx l i 0=1:=by simp [mx]
theorem Qq6 {l:List Nd} {i j q:Nat} (hj:j<(nd l i).kids.length) (hq:(nd l i).kids.getD j 0=(q:Int)):mx l i (j+1)=max (mx l i j) (1+hgt l q):=by unfold mx;rw [Qi4 hj,Zp,List.foldl_append,hq];simp
theorem Qio {l:List Nd} (hA:Ahead l) {i:Nat} (hi:i<l.length):mx l i (nd l i).kids.length=hgt l i:=by unfold mx;rw [List.take_length,Qf4 hA hi]
theorem Qs2 (l:List Nd) (i:Nat): ∀(d j:Nat),mx l i j<=mx l i (j+d)
 | 0,j=>Qh _
 |d+1,j=>by
  refine F7 (Qs2 l i d j) ?_;rcases V7 (j+d) (nd l i).kids.length with h |h
  ·unfold mx;rw [<-La,Qi4 h,Zp,List.foldl_append];simp;omega
  ·unfold mx;rw [F6 h,F6 (by omega)];exact Qh _
theorem Qd7 {l:List Nd} (hA:Ahead l) {i j:Nat} (hi:i<l.length) (hj:j<(nd l i).kids.length): ∃q:Nat,(nd l i).kids.getD j 0=(q:Int)/\q<i/\(q:Int)∈(nd l i).kids:=by
 have hm:(nd l i).kids.getD j 0∈(nd l i).kids:=by rw [Yc,Y3 hj];exact F5 hj
 have:=hA i hi _ hm;refine ⟨((nd l i).kids.getD j 0).toNat,by omega,by omega,?_⟩;rw [Int.toNat_of_nonneg this.1];exact hm
theorem Wog {l:List Nd} (hA:Ahead l) {i j q:Nat} (hi:i<l.length) (hj:j<(nd l i).kids.length) (hq:(nd l i).kids.getD j 0=(q:Int)):1+hgt l q<=hgt l i:=by have h1:=Qq6 hj hq;have h2:=Qs2 l i ((nd l i).kids.length-(j+1)) (j+1);rw [show j+1+((nd l i).kids.length-(j+1))=(nd l i).kids.length by omega,Qio hA hi]at h2;omega
theorem Wjs (l:List Nd) (i j:Nat):1<=mx l i j:=by have:=Qs2 l i j 0;rw [Qp7,Bq]at this;exact this
theorem Wa8 {l:List Nd} (hA:Ahead l) {i:Nat} (hi:i<l.length):1<=hgt l i:=by rw [<-Qio hA hi];exact Wjs l i _
theorem Wl4 {l:List Nd} {i j:Nat} {k:Int} (h:Under l i j) (hk:k∈(nd l j).kids):Under l i k.toNat:=by
 induction h with
 |refl i=>exact .step hk (.refl _)
 |step hk' _ ih=>exact .step hk' (ih hk)
theorem Wdy {l:List Nd} (h:Hw l) {j:Nat} (hj:j<l.length-1): ∃i,i<l.length/\(j:Int)∈(nd l i).kids:=by
 obtain ⟨h0,hA,hN,hL⟩:=h;have hm:(j:Int)∈Jc l l.length:=by
  by_cases hm:(j:Int)∈Jc l l.length
  ·exact hm
  ·exfalso;have hr: ∀x∈Jc l l.length,0<=x/\x<((l.length-1:Nat):Int):=by intro x hx;obtain ⟨y,hy,hxy⟩:=List.mem_flatMap.1 hx;obtain ⟨q,hq,rfl⟩:=List.mem_iff_getElem.1 hy;rw [F9]at hq;rw [List.getElem_take,<-Uv (by omega)]at hxy;have:=hA q (by omega) x hxy;omega
   have h1:=Qon (l.length-1) ((j:Int)::Jc l l.length) (List.nodup_cons.2 ⟨hm,hN⟩) (λx hx=>by
    rcases List.mem_cons.1 hx with rfl |h'
    ·omega
    ·exact hr x h');rw [Qp,hL]at h1;omega
 obtain ⟨y,hy,hxy⟩:=List.mem_flatMap.1 hm;obtain ⟨q,hq,rfl⟩:=List.mem_iff_getElem.1 hy;rw [F9]at hq;rw [List.getElem_take,<-Uv (by omega)]at hxy;exact ⟨q,by omega,hxy⟩
theorem Qq9 {l:List Nd} (h:Hw l): ∀(d j:Nat),l.length-1-j<=d->j<l.length->Under l (l.length-1) j
 | 0,j,hd,hj=>by
  obtain rfl:j=l.length-1:=by omega
  exact .refl _
 |d+1,j,hd,hj=>by
  rcases V7 j (l.length-1)with g |g
  ·obtain ⟨i,hi,hk⟩:=Wdy h g;have:=h.2.1 i hi _ hk;have hu:=Qq9 h d i (by omega) hi;have:=Wl4 hu hk
   rwa [Ja]at this
  ·obtain rfl:j=l.length-1:=(by omega);exact .refl _
section
open Go.RowKit
theorem Qlf:(prog.info? 3).map (λi=>(i.zero,i.size,i.bytes))=some (some (.int .i64 0),1,8):=by kernel_rfl
def Built (w0 w:World) (v:Value) (xs:List Int):Prop:=
 w.ownsRow w0.heap.size 3 1 v xs.length (xs.map (Value.int .i64))/\Below w0.heap.size w0 w
theorem Built.rows {w0 w:World} {v:Value} {xs:List Int} (h:Built w0 w v xs): ∃a cap,v= .slice a xs.length cap/\Vd .i64 w a xs.length (λj=>xs.getD j 0):=Vd.own h.1
theorem Wb7 {ops:Array Oper} {rest:List Oper} {o:Oper} {a:Act} {Q:Exit->Act->World->Prop} (hgd:o.guard=none) (s x:Operand)
  (ho:o.op= .call {callee:=.builtin .append,args:= #[s,x],argTypes:= #[35,35]})
  (w0 w:World) (v:Value) (xs:List Int) (z:Int) (hs:a.eval s=v) (hx:a.eval x= .slice (some ⟨w.heap.size,0,none⟩) 1 1) (hb:Built w0 w v xs) (hlen:xs.length<=10000000)
  (h: ∀v' w',Built w0 w' v' (xs++[z])->wpList prog ops Q rest (a.put o.dst v') w'):
  wpList prog ops Q (o::rest) a (w.alloc (.cells #[.int .i64 z] 3)):=by
 obtain ⟨i0,hi,hz0,hz1,hz2⟩:=info_parts Qlf;refine wpList_append_own _ hgd s x 35 ho w0.heap.size 3 i0 (.int .i64 0) 1 8 underlying35 hi hz0 hz1 hz2 rfl (by decide) v xs.length (xs.map (Value.int .i64)) hs (hb.1.alloc _) ⟨w.heap.size,0,none⟩ 1 1 [.int .i64 z] hx rfl ?_ ?_ ?_ ?_ ?_ ?_
 ·intro j u hj
  match j,hj with
  | 0,hj=>simp at hj;subst hj;simp [Addr.add]
 ·intro u hu;simp at hu;subst hu;rfl
 ·unfold maxLen;omega
 ·omega
 ·have:=hb.2.size;simp;omega
 ·intro v' w' hown hgrow _;refine h v' w' ⟨by rw [Qf,Zp];exact hown,?_⟩;refine ((hb.2.alloc hb.2.size _)).grown hgrow (by have:=hb.2.size;simp;omega) ?_;intro k hk;exact (hb.1.lt k hk).1
def pre:List Int->Int->Nat
 | [],_=>0
 |y::ys,x=>if y<x then pre ys x+1 else 0
theorem Wnb (xs:List Int) (j:Nat) (h:j<xs.length):xs.take (j+1)=xs.take j++[xs.getD j 0]:=by rw [List.take_add_one,Yc,Y3 h];rfl
theorem Wa4 (xs ys:List Int):(decide (xs.length=ys.length)&&allEq xs.length (λj=>xs.getD j 0) (λj=>ys.getD j 0))=decide (xs=ys):=by
 by_cases h:xs=ys
 ·subst h;rw [Q44 (λj _=>rfl)];simp
 ·rw [decide_eq_false h];by_cases hl:xs.length=ys.length
  ·have: ∃k,k<xs.length/\xs.getD k 0≠ys.getD k 0:=by apply Classical.byContradiction;intro hn;apply h;apply List.ext_getElem hl;intro i h1 h2;apply Classical.byContradiction;intro he;apply hn;refine ⟨i,h1,?_⟩;rw [Yc,Yc,Y3 h1,Y3 h2];exact he
   obtain ⟨k,hk,he⟩:=this;rw [Q4a hk he];simp
  ·simp [hl]
def Now (B:Nat) (w:World) (v:Value) (xs:List Int):Prop:=w.ownsRow B 3 1 v xs.length (xs.map (Value.int .i64))
theorem Now.shape {B:Nat} {w:World} {v:Value} {xs:List Int} (h:Now B w v xs): ∃a cap,v= .slice a xs.length cap/\Vd .i64 w a xs.length (λj=>xs.getD j 0)/\(a=none->xs.length=0/\cap=0):=by
 obtain ⟨a,cap,rfl,hr⟩:=Vd.own h;refine ⟨a,cap,rfl,hr,?_⟩;rintro rfl;rcases h.2 with ⟨h1,h2⟩ |⟨g,cap',cur,h1,_⟩
 ·injection h1 with _ h3 h4;exact ⟨h3,h4⟩
 ·injection h1 with h2;cases h2
theorem Q25 (xs:List Int) (k t:Nat) (h:t<k):(xs.take k).getD t 0=xs.getD t 0:=by rw [Yc,Yc,List.getElem?_take,Qk h]
theorem Ro (xs:List Int) (k t:Nat):(xs.drop k).getD t 0=xs.getD (k+t) 0:=by rw [Yc,Yc,List.getElem?_drop]
theorem Whd (a b:Option Addr) (n m c c':Nat) (w:World) (hn:n<=100000) (hm:m<=100000) (h:n≠m):
  Calls prog 39 #[.slice a n c,.slice b m c'] w λe w'=>e= .returned (.bool false)/\ ∃q,w'=w.drewN q:=by
 have h':((n:Int) != (m:Int))=true:=by simp;omega
 go_enter func39,ntmps39;go_wp2;go_ret;exact ⟨rfl,0,rfl⟩
theorem Wha (a b:Option Addr) (n c c':Nat) (f g:Nat->Int) (w:World) (hn:n<=100000) (ha:Vd .i64 w a n f) (hb:Vd .i64 w b n g):
  Calls prog 39 #[.slice a n c,.slice b n c'] w λe w'=>e= .returned (.bool (allEq n f g))/\ ∃q,w'=w.drewN q:=by
 have HA:=Qa ha;have HB:=Qa hb;have hr:((n:Int) != (n:Int))=false:=by simp
 clear ha hb;go_enter func39,ntmps39;go_wp2;go_loopw [5] (λi wr=> ∃k q:Nat,k<=n/\i= .int .i64 (k:Int)/\wr=w.drewN q/\Hid (∀j,j<k->f j=g j)) (λi _=>n-(intOf i).toNat)
 case atStart=>exact ⟨0,0,by omega,rfl,rfl,λj hj=>by omega⟩
 case round=>
  obtain ⟨k,q,hk,rfl,rfl,hE⟩:=hrel;by_cases hkn:k<n
  ·obtain ⟨x,off,rfl,hlt,hc⟩:=HA.out (by omega);obtain ⟨y,off',rfl,hlt',hc'⟩:=HB.out (by omega);have hcell:=hc k hkn;have hcell':=hc' k hkn;clear hc hc';have hki:(k:Int)<(n:Int):=(by omega);by_cases he:f k=g k
   ·have he':(f k != g k)=false:=(by simp [he]);have HE:=Qa he;clear he;go_wp2_with fail;go_quiet (fail);go_wp2_with fail;go_roundw
    case rel=>exact ⟨k+1,q+nq,by omega,by go_num,rfl,λj hj=>by
     rcases V7 j k with h |h
     ·exact hE j h
     ·rw [show j=k by omega];exact HE⟩
    case measure=>simp [intOf];omega
   ·have he':(f k != g k)=true:=(by simp [he]);have HE:=Qa he;clear he;go_wp2_with fail;go_quiet (fail);go_wp2_with fail;go_ret;refine ⟨?_,q+nq,by rw [World.drewN_drewN]⟩;rw [Q4a hkn HE.out];rfl
  ·have:k=n:=(by omega);subst this;go_wp2;go_ret;refine ⟨?_,q,rfl⟩;rw [Q44 hE.out];rfl
theorem Wmf (a b:Option Addr) (n m c c':Nat) (f g:Nat->Int) (w:World) (hn:n<=100000) (hm:m<=100000) (ha:Vd .i64 w a n f) (hb:Vd .i64 w b m g):
  Calls prog 39 #[.slice a n c,.slice b m c'] w λe w'=>e= .returned (.bool (decide (n=m)&&allEq n f g))/\ ∃q,w'=w.drewN q:=by
 by_cases h:n=m
 ·subst h;simp only [decide_true,Bool.true_and];exact Wha a b n c c' f g w hn ha hb
 ·simp only [h,decide_false,Bool.false_and];exact Whd a b n m c c' w hn hm h
theorem Wqd (a b:Option Addr) (n m c c':Nat) (xs ys:List Int) (w:World) (hx:n=xs.length) (hy:m=ys.length) (hn:n<=100000) (hm:m<=100000) (ha:Vd .i64 w a n (λj=>xs.getD j 0)) (hb:Vd .i64 w b m (λj=>ys.getD j 0)):
  Calls prog 39 #[.slice a n c,.slice b m c'] w λe w'=>e= .returned (.bool (decide (xs=ys)))/\ ∃q,w'=w.drewN q:=by
 refine (Wmf a b n m c c' _ _ w hn hm ha hb).mono ?_;rintro e w1 ⟨rfl,hw1⟩;refine ⟨?_,hw1⟩;rw [hx,hy,Wa4]
end
def Q7t (c:Code):Code:=c
theorem Qz (id:Nat) (ops:Array Oper):Code.region id ops false=Q7t (Code.region id ops false):=rfl
theorem Qn {P:Program} {c:Code} {Q:Exit->Act->World->Prop} {a:Act} {w:World} (h:c.wp P Q a w):(Q7t c).wp P Q a w:=h
section
open Go.RowKit
theorem Wit {P:Program} (w:World) (base:Nat) (t ty e:TypeId) (i:TypeInfo) (z:Value) (ht:P.underlying t=some (.slice e)) (hi:P.info? e=some i) (hz:i.zero=some z)
  (v:Value) (n:Nat) (xs:List Value) (hown:w.ownsRow base e i.size v n xs)
  (a:Addr) (m c:Nat) (news:List Value) (hm:0<m) (hl:news.length=m*i.size) (hnews: ∀j u,news[j]? =some u->w.cell? (a.add j)=some u) (h1: ∀u∈news,u.oneCell'=true)
  (h63:n+m<=maxLen) (hbytes:(n+m)*i.bytes<=140737488355328) (v':Value) (w':World) (hr:(Builtin.append_ #[t,t] ty #[v,.slice (some a) m c]).run P w= .ok v' w'):
  ∀k,v'.ownBlock=some k->v.ownBlock=some k\/k=w.heap.size:=by
 have hsmall:n+m<=9223372036854775807:=by simp only [maxLen]at h63;omega
 intro k hk;rcases hown.2 with ⟨rfl,rfl⟩ |⟨g,cap,cur,rfl,hbg,hg,hnc,hcm,hcs,htake⟩
 ·have h:=run_append_nil (P:=P) w t ty e i z ht hi hz a m c news hl hnews (by omega) (by omega) (by have hb:=hbytes;simp only [Bq]at hb;omega);rw [h]at hr;injection hr with e1 e2
  subst e1;right;simpa [Value.ownBlock] using hk.symm
 ·by_cases hroom:n+m<=cap
  ·have hfit:n*i.size+news.length<=cur.size:=(by rw [hl,hcs,<-Nat.add_mul];exact Nat.mul_le_mul_right _ hroom);have h:=run_append_room (P:=P) w t ty e i ht hi g n cap cur hg a m c news hl hnews h1 hroom hfit;rw [h]at hr;injection hr with e1 e2
   subst e1;left;exact hk
  ·have holds: ∀j u,xs[j]? =some u->w.cell? ((⟨g,0,none⟩:Addr).add j)=some u:=hown.cells (g:=g) rfl;have h:=run_append_grow (P:=P) w t ty e i z ht hi hz ⟨g,0,none⟩ n cap xs hown.1 holds a m c news hl hnews (by omega) (by omega) (growslice_fits (by omega) hbytes);rw [h]at hr;injection hr with e1 e2
   subst e1;right;simpa [Value.ownBlock] using hk.symm
theorem Wnp {P:Program} {w:World} {ops:Array Oper} {rest:List Oper} {o:Oper} {a:Act} {Q:Exit->Act->World->Prop} (hgd:o.guard=none) (s x:Operand) (t e:TypeId) (z:Value) (size bytes:Nat)
  (ht:P.underlying t=some (.slice e)) (hinfo:(P.info? e).map (λi=>(i.zero,i.size,i.bytes))=some (some z,size,bytes)) (hzs:z.cells.size=size) (hsz:0<size) (hby:bytes<=1000)
  (ho:o.op= .call {callee:=.builtin .append,args:= #[s,x],argTypes:= #[t,t]})
  (base:Nat) (v:Value) (n:Nat) (xs:List Value) (hs:a.eval s=v) (hown:w.ownsRow base e size v n xs)
  (ad:Addr) (m c:Nat) (news:List Value) (hx:a.eval x= .slice (some ad) m c) (hm:0<m) (hl:news.length=m*size) (hnews: ∀j u,news[j]? =some u->w.cell? (ad.add j)=some u) (h1: ∀u∈news,u.oneCell'=true)
  (hlen:n+m<=20000000) (hbase:base<=w.heap.size)
  (h: ∀v' w',w'.ownsRow base e size v' (n+m) (xs++news)->w.grownBy w' v.ownBlock->(∀k,v'.ownBlock=some k->v.ownBlock=some k\/k=w.heap.size)->wpList P ops Q rest (a.put o.dst v') w'):wpList P ops Q (o::rest) a w:=by
 obtain ⟨i0,hi,hz0,hz1,hz2⟩:=info_parts hinfo;subst hz1 hz2;have h63:n+m<=maxLen:=by unfold maxLen;omega
 have hbytes:(n+m)*i0.bytes<=140737488355328:=by have:(n+m)*i0.bytes<=20000000*1000:=Nat.mul_le_mul hlen hby;omega
 refine wpList_plain hgd λ_ hK=> ?_;obtain ⟨v',w',hr,h2,h3,_⟩:=run_append_own (P:=P) w base t o.type e i0 z i0.size i0.bytes ht hi hz0 rfl rfl hzs hsz v n xs hown ad m c news hl hnews h1 h63 hbytes hbase;have h5:=Wit w base t o.type e i0 z ht hi hz0 v n xs hown ad m c news hm hl hnews h1 h63 hbytes v' w' hr;unfold Oper.wp execOp;simp only [ho,resolve,invoke,builtin,Sem.run_bind,Sem.run_pure,Result.andThen_ok,List.map_toArray,Y6,Vi,hs,hx,hr];exact hK _ _ (h v' w' h2 h3 h5)
theorem Wke {w w':World} (h:Below w.heap.size w w') (row:Option Nat):w.grownBy w' row:=⟨h.os,h.tape,h.output,h.size,λk hk _=>h.block k hk⟩
theorem Dr {w w':World} {base e sz n:Nat} {v:Value} {xs:List Value} (h:w.ownsRow base e sz v n xs) (hb:Below w.heap.size w w'):w'.ownsRow base e sz v n xs:=
 h.kept (Wke hb none) (by cases hv:v.ownBlock<;>simp)
theorem Qb1 {w:World} {base base' e sz n:Nat} {v:Value} {xs:List Value} (h:w.ownsRow base e sz v n xs) (hb:base'<=base):w.ownsRow base' e sz v n xs:=by
 refine ⟨h.1,?_⟩;rcases h.2 with h1 |⟨g,cap,cur,h1,h2,r⟩
 ·exact .inl h1
 ·exact .inr ⟨g,cap,cur,h1,F7 hb h2,r⟩
theorem Gv (w:World) (g i:Nat) (u:Value):w.grownBy (w.setCell ⟨g,i,none⟩ u) (some g):=
 ⟨rfl,rfl,rfl,by simp [World.setCell],λk hk hne=>Below.heap_setCell w ⟨g,i,none⟩ u k (λe=>hne (by rw [e]))⟩
theorem Yr {w:World} {B e e' sz n g:Nat} {v:Value} {xs:List Value} {cs:Array Value} {fz:Nat×Nat} (h:w.ownsRow B e sz v n xs) (hg:w.heap[g]? =some (.cells cs e' fz)) (hne:e≠e'):v.ownBlock≠some g:=by
 intro hv;rcases h.2 with ⟨rfl,_⟩ |⟨g',cap,cur,rfl,h2,h3,_⟩
 ·simp [Value.ownBlock]at hv
 ·simp [Value.ownBlock]at hv;subst hv;rw [h3]at hg;injection hg with hg
  injection hg with _ e2
  exact hne e2
theorem Nr {w:World} {B B' e e' sz sz' n n':Nat} {v u:Value} {xs ys:List Value} (h:w.ownsRow B e sz v n xs) (h':w.ownsRow B' e' sz' u n' ys) (hne:e≠e'):v.ownBlock=none\/v.ownBlock≠u.ownBlock:=by
 rcases h'.2 with ⟨rfl,_⟩ |⟨g,cap,cur,rfl,_,h3,_⟩
 ·cases hv:v.ownBlock with
  |none=>exact .inl rfl
  |some k=>exact .inr (by simp [Value.ownBlock])
 ·exact .inr (Yr h h3 hne)
theorem Wa5 {w:World} {base e sz n g j:Nat} {v u:Value} {xs:List Value} (h:w.ownsRow base e sz v n xs) (hv:v.ownBlock=some g) (hj:j<n*sz):(w.setCell ⟨g,j,none⟩ u).ownsRow base e sz v n (xs.set j u):=by
 rcases h.2 with ⟨rfl,_⟩ |⟨g',cap,cur,rfl,h2,h3,h4,h5,h6,h7⟩
 ·simp [Value.ownBlock]at hv
 ·simp [Value.ownBlock]at hv;subst hv;refine ⟨by rw [List.length_set];exact h.1,.inr ⟨g',cap,cur.setIfInBounds j u,rfl,h2,?_,h4,h5,by simpa using h6,?_⟩⟩
  ·have:=(show Held w g' e cur from h3).set j u;exact this
  ·rw [Array.toList_setIfInBounds,<-h7,List.take_set]
end
end Go.Proofs.YtdncpkkhkbijfaaGreatDoor
