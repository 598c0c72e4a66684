import Derived.Test.YtdncpkkhkbijfaaGreatDoorBa1
import Derived.WalkKit
import Derived.Lib.Join
import Derived.Lib.ItoaLen
import Derived.Lib.Small
import Derived.ProofKit
import Derived.Deep.OwnRows
import Derived.Deep.Draws
import Derived.OpenShut
import Derived.Laws.AppendOwnNone
set_option linter.all false
set_option maxHeartbeats 0
set_option maxRecDepth 100000
namespace Go.Proofs.YtdncpkkhkbijfaaGreatDoor
def bt (l:List UInt8) (k:Nat):Nat:=(l.getD k 0).toNat
def cut (l:List UInt8) (a b:Nat):List UInt8:=(l.take b).drop a
theorem Wqo {l:List UInt8} {k:Nat} (h:k<l.length):l.take (k+1)=l.take k++[l.getD k 0]:=by rw [List.take_succ_eq_append_getElem h,Yc,Y3 h];rfl
theorem Ql9 {l:List UInt8} {n k:Nat} (h:k<n):bt (l.take n) k=bt l k:=by unfold bt;rw [Yc,Yc,List.getElem?_take_of_lt h]
theorem Qa3 (s:ByteArray):s.data.toList.length=s.size:=Au
theorem Hq {s:ByteArray} {l:List UInt8} (h:l=s.data.toList) {k:Nat} (hk:k<s.size):bt l k=s[k].toNat:=by subst h;unfold bt;rw [Yc,Y3 (show k<s.data.toList.length from (Au (xs:=s.data)).symm▸hk)];rfl
theorem Wg4 (s:ByteArray) (a b:Nat):s.extract a b=⟨(cut s.data.toList a b).toArray⟩:=by apply ByteArray.ext;apply Array.toList_inj.1;unfold cut;rw [ByteArray.data_extract];simp [List.drop_take]
def Ib (n:Nat):Bool:=n==32||n==9||n==10||n==13
def isLt (n:Nat):Bool:=(decide (97<=n)&&decide (n<=122))||(decide (65<=n)&&decide (n<=90))||n==95
def Yn (n:Nat):Bool:=decide (48<=n)&&decide (n<=57)
def Vt (n:Nat):Bool:=isLt n||Yn n
def Yh:Bool->List UInt8->Nat
 |_,[]=>0
 |true,c::cs=>if c.toNat=10 then 1+Yh false cs else 1+Yh true cs
 |false,c::cs=>if c.toNat=35 then 1+Yh true cs else if Ib c.toNat then 1+Yh false cs else 0
def rn (p:Nat->Bool):List UInt8->Nat
 | []=>0
 |c::cs=>if p c.toNat then 1+rn p cs else 0
def Y4 (a b:Nat):Nat:=
 if a=124\/a=38 then (if b=a then 2 else 0)
 else if a=43\/a=45\/a=42 then (if b=37 then 2 else 1)
 else if a=61\/a=33\/a=60\/a=62 then (if b=61 then 2 else 1)
 else if a=47\/a=37\/a=40\/a=41\/a=123\/a=125\/a=91\/a=93\/a=44\/a=59 then 1 else 0
def k0:List UInt8->Nat
 | []=>4
 |c::_=>if isLt c.toNat then 1 else if Yn c.toNat then 2 else 4
def ln:List UInt8->Nat
 | []=>0
 |c::cs=>if isLt c.toNat then rn Vt (c::cs)else if Yn c.toNat then rn Yn (c::cs)else Y4 c.toNat (bt cs 0)
def Ug (c:UInt8):Nat:=(c.toNat+208)%256
def M9 (o:Option Nat) (c:UInt8):Option Nat:=match o with
 |none=>none
 |some n=>if n*10+Ug c<=9223372036854775807 then some (n*10+Ug c)else none
def num (l:List UInt8):Option Nat:=l.foldl M9 (some 0)
def keys:List (List UInt8):=[[102,110],[118,97,114],[105,102],[101,108,115,101],[119,104,105,108,101],[102,111,114],[98,114,101,97,107],[99,111,110,116,105,110,117,101],[114,101,116,117,114,110],[112,114,105,110,116],[108,101,110],[110,101,119],[116,114,117,101],[102,97,108,115,101],[110,105,108],[105,110,116],[98,111,111,108],[97,114,114]]
def isKey (t:List UInt8):Bool:=keys.any (λk=>t==k)
def Kw (k n:Nat) (t:List UInt8):Nat:=
 if n=0 then 6 else if k=2 then (if (num t).isSome then 0 else 7)else if k=1/\isKey t=true then 0 else if k=1/\32<n then 3 else 0
def Bl (k:Nat) (t:List UInt8):Nat:=if k=1/\isKey t=true then 3 else k
def Kv (k:Nat) (t:List UInt8):Nat:=if k=2 then (num t).getD 0 else 0
def er (r:List UInt8):Nat:=Kw (k0 r) (ln r) (r.take (ln r))
structure Tk where
 kind:Nat
 text:List UInt8
 n:Nat
 place:Nat
def tk (r:List UInt8) (p:Nat):Tk:=⟨Bl (k0 r) (r.take (ln r)),r.take (ln r),Kv (k0 r) (r.take (ln r)),p⟩
def off (r:List UInt8):Nat:=ln r+Yh false (r.drop (ln r))
def Iw (r:List UInt8):List UInt8:=r.drop (off r)
def Qdd:Nat->List UInt8->Nat->Except (Nat×Nat) (List Tk)
 | 0,_,_=>.ok []
 |f+1,r,p=>match r with
  | []=>.ok [⟨0,[],0,p⟩]
  |c::cs=>if er (c::cs)=0 then (Qdd f (Iw (c::cs)) (p+off (c::cs))).map (λL=>tk (c::cs) p::L)else .error (er (c::cs),p)
def S (r:List UInt8) (p:Nat):Except (Nat×Nat) (List Tk):=Qdd (r.length+1) r p
def T (l:List UInt8) (p:Nat):Except (Nat×Nat) (List Tk):=S (l.drop (Yh false l)) (p+Yh false l)
theorem Qeo: ∀(b:Bool) (l:List UInt8),Yh b l<=l.length
 |_,[]=>by cases ‹Bool› <;>exact Qh _
 |true,c::cs=>by have h1:=Qeo false cs;have h2:=Qeo true cs;unfold Yh;split<;>(rw [Qp];omega)
 |false,c::cs=>by
  have h1:=Qeo false cs;have h2:=Qeo true cs;unfold Yh;rw [Qp];split
  ·omega
  ·split<;>omega
theorem Qgz (p:Nat->Bool): ∀l:List UInt8,rn p l<=l.length
 | []=>Qh _
 |c::cs=>by have h:=Qgz p cs;unfold rn;rw [Qp];split<;>omega
theorem Wra (a b:Nat):Y4 a b<=2:=by
 unfold Y4
 repeat' split
 all_goals omega
theorem Q9m (a:Nat):Y4 a 0<=1:=by
 unfold Y4
 repeat' split
 all_goals omega
theorem Qgf: ∀l:List UInt8,ln l<=l.length
 | []=>Qh _
 |c::cs=>by
  show (if isLt c.toNat then rn Vt (c::cs)else if Yn c.toNat then rn Yn (c::cs)else Y4 c.toNat (bt cs 0))<=_;split
  ·exact Qgz _ _
  ·split
   ·exact Qgz _ _
   ·cases cs with
    |nil=>exact Q9m c.toNat
    |cons d ds=>have:=Wra c.toNat (bt (d::ds) 0);rw [Qp,Qp];omega
theorem Qj3 (r:List UInt8):off r<=r.length:=by have h1:=Qgf r;have h2:=Qeo false (r.drop (ln r));rw [Vf]at h2;unfold off;omega
theorem Qhd {r:List UInt8} (h:er r=0):0<ln r:=by
 unfold er Kw at h;by_cases e:ln r=0
 ·rw [Qk e]at h;omega
 ·omega
theorem Qky {r:List UInt8} (h:er r=0):0<off r:=by have:=Qhd h;unfold off;omega
theorem Qgs (r:List UInt8):(Iw r).length=r.length-off r:=Vf
theorem Qyf: ∀(f g:Nat) (r:List UInt8) (p:Nat),r.length<f->r.length<g->Qdd f r p=Qdd g r p
 | 0,_,_,_,h,_=>by omega
 |_,0,_,_,_,h=>by omega
 |f+1,g+1,[],p,_,_=>rfl
 |f+1,g+1,c::cs,p,hf,hg=>by
  show (if er (c::cs)=0 then (Qdd f (Iw (c::cs)) (p+off (c::cs))).map (λL=>tk (c::cs) p::L)else .error (er (c::cs),p))=if er (c::cs)=0 then (Qdd g (Iw (c::cs)) (p+off (c::cs))).map (λL=>tk (c::cs) p::L)else .error (er (c::cs),p);by_cases h:er (c::cs)=0
  ·rw [Qk h,Qk h,Qyf f g]
   ·have:=Qky h;rw [Qgs];rw [Qp]at hf ⊢;omega
   ·have:=Qky h;rw [Qgs];rw [Qp]at hg ⊢;omega
  ·rw [Qd h,Qd h]
theorem Q48 (p:Nat):S [] p= .ok [⟨0,[],0,p⟩]:=rfl
theorem Qhl {r:List UInt8} (p:Nat) (hr:r≠[]) (h:er r≠0):S r p= .error (er r,p):=by
 cases r with
 |nil=>exact absurd rfl hr
 |cons c cs=>exact Qd h
theorem Qnz {r:List UInt8} (p:Nat) (hr:r≠[]) (h:er r=0):S r p=(S (Iw r) (p+off r)).map (λL=>tk r p::L):=by
 cases r with
 |nil=>exact absurd rfl hr
 |cons c cs=>
  have e:S (c::cs) p=(Qdd ((c::cs).length) (Iw (c::cs)) (p+off (c::cs))).map (λL=>tk (c::cs) p::L):=Qk h;rw [e];unfold S;rw [Qyf]
  ·have:=Qky h;have:=Qj3 (c::cs);rw [Qgs];omega
  ·omega
theorem Qv5 {Q:List UInt8->Prop} (h0:Q []) (hb: ∀r,r≠[]->er r≠0->Q r) (ht: ∀r,r≠[]->er r=0->Q (Iw r)->Q r): ∀r,Q r:=by
 have key: ∀n r,List.length r<=n->Q r:=by
  intro n
  induction n with
  |zero=>intro r hr;cases r with
   |nil=>exact h0
   |cons c cs=>rw [Qp]at hr;omega
  |succ n ih=>
   intro r hr;by_cases e:r=[]
   ·rw [e];exact h0
   ·by_cases g:er r=0
    ·refine ht r e g (ih _ ?_);have:=Qky g;rw [Qgs];omega
    ·exact hb r e g
 exact λr=>key r.length r (Qh _)
theorem Qp0 {r:List UInt8} {p:Nat} {L:List Tk} (h:S r p= .ok L):
  (r=[]/\L=[⟨0,[],0,p⟩])\/(r≠[]/\er r=0/\ ∃M,L=tk r p::M/\S (Iw r) (p+off r)= .ok M):=by
 by_cases e:r=[]
 ·subst e;rw [Q48]at h;injection h with h
  exact .inl ⟨rfl,h.symm⟩
 ·by_cases g:er r=0
  ·rw [Qnz p e g]at h;cases hn:S (Iw r) (p+off r)with
   |error x=>rw [hn]at h;cases h
   |ok M=>
    rw [hn]at h;injection h with h
    exact .inr ⟨e,g,M,h.symm,rfl⟩
  ·rw [Qhl p e g]at h;cases h
theorem Q6p {r:List UInt8} {p:Nat} {L:List Tk} (h:S r p= .ok L):0<L.length:=by
 rcases Qp0 h with ⟨_,e⟩ |⟨_,_,M,e,_⟩
 ·rw [e];exact Nat.zero_lt_one
 ·rw [e,Qp];omega
theorem Wfc {r:List UInt8}: ∀{p e q:Nat},S r p= .error (e,q)->e≠0/\p<=q/\q<p+r.length:=by
 refine Qv5 (Q:=λr=> ∀{p e q:Nat},S r p= .error (e,q)->e≠0/\p<=q/\q<p+r.length) ?_ ?_ ?_ r
 ·intro p e q h;cases h
 ·intro r hr hb p e q h;rw [Qhl p hr hb]at h;injection h with h
  injection h with h1 h2
  have:0<r.length:=List.length_pos_iff.2 hr;exact ⟨by omega,by omega,by omega⟩
 ·intro r hr hb ih p e q h;rw [Qnz p hr hb]at h;cases hn:S (Iw r) (p+off r)with
  |error x=>
   rw [hn]at h;injection h with h
   subst h;obtain ⟨h1,h2,h3⟩:=ih hn;rw [Qgs]at h3;have:=Qj3 r;exact ⟨h1,by omega,by omega⟩
  |ok M=>rw [hn]at h;cases h
theorem Wo8 {r:List UInt8}: ∀{p:Nat} {L:List Tk},S r p= .ok L->L.length<=r.length+1:=by
 refine Qv5 (Q:=λr=> ∀{p:Nat} {L:List Tk},S r p= .ok L->L.length<=r.length+1) ?_ ?_ ?_ r
 ·intro p L h;injection h with h;subst h;exact Qh _
 ·intro r hr hb p L h;rw [Qhl p hr hb]at h;cases h
 ·intro r hr hb ih p L h;rcases Qp0 h with ⟨e,_⟩ |⟨_,_,M,e,hM⟩
  ·exact absurd e hr
  ·have:=ih hM;rw [Qgs]at this;have:=Qky hb;have:=Qj3 r;rw [e,Qp];omega
theorem Wrk {a b:Nat} (h:a=35\/Ib a=true):Y4 a b=0:=by
 unfold Ib at h;simp at h;unfold Y4
 repeat' split
 all_goals omega
theorem Wkm {r:List UInt8} (h:0<ln r):Yh false r=0:=by
 cases r with
 |nil=>rfl
 |cons c cs=>
  have hn: ¬(c.toNat=35\/Ib c.toNat=true):=by intro g;have g':=g;unfold Ib at g';simp at g';have h1:isLt c.toNat=false:=(by unfold isLt;simp;omega);have h2:Yn c.toNat=false:=(by unfold Yn;simp;omega);have e:ln (c::cs)=Y4 c.toNat (bt cs 0):=(by simp [ln,h1,h2]);rw [e,Wrk g]at h;omega
  have n1: ¬c.toNat=35:=λg=>hn (.inl g);have n2: ¬Ib c.toNat=true:=λg=>hn (.inr g);simp only [Yh,Qd n1,Qd n2]
structure Nd where
 kind:Int
 ka:Option Addr
 kc:Nat
 kids:List Int
 n:Int
 s:ByteArray
 at_:Int
def Nd.zero:Nd:=⟨0,none,0,[],0,⟨#[]⟩,0⟩
def nd (l:List Nd) (i:Nat):Nd:=l.getD i Nd.zero
def Nd.t (x:Nd):List UInt8:=x.s.data.toList
def Ahead (l:List Nd):Prop:= ∀i,i<l.length-> ∀k∈(nd l i).kids,0<=k/\k<(i:Int)
def fold {α:Type} (f:Nd->List α->α) (l:List Nd):Nat->Nat->α
 | 0,i=>f (nd l i) []
 |g+1,i=>f (nd l i) ((nd l i).kids.map (λk=>fold f l g k.toNat))
def val {α:Type} (f:Nd->List α->α) (l:List Nd) (i:Nat):α:=fold f l i i
theorem Qwz {α:Type} {f:Nd->List α->α} {l:List Nd} (hA:Ahead l): ∀n i,i<n->i<l.length-> ∀g,i<=g->fold f l g i=val f l i:=by
 intro n
 induction n with
 |zero=>intro i h;omega
 |succ n ih=>
  intro i hn hi g hg;have hk:=hA i hi;cases i with
  |zero=>
   have h0:(nd l 0).kids=[]:=by
    cases h:(nd l 0).kids with
    |nil=>rfl
    |cons a r=>have:=hk a (by rw [h];simp);omega
   cases g with
   |zero=>rfl
   |succ g=>unfold val;simp only [fold,h0,Vi]
  |succ i=>
   cases g with
   |zero=>omega
   |succ g=>
    unfold val;simp only [fold];congr 1;apply List.map_congr_left;intro k hk';have:=hk k hk';have hl:k.toNat<l.length:=(by omega);rw [ih k.toNat (by omega) hl g (by omega),ih k.toNat (by omega) hl i (by omega)]
theorem Qo8 {α:Type} {f:Nd->List α->α} {l:List Nd} (hA:Ahead l) {i:Nat} (hi:i<l.length):val f l i=f (nd l i) ((nd l i).kids.map (λk=>val f l k.toNat)):=by rw [<-Qwz hA (i+1) i (by omega) hi (i+1) (by omega)];simp only [fold];congr 1;apply List.map_congr_left;intro k hk;have:=hA i hi k hk;exact Qwz hA (k.toNat+1) k.toNat (by omega) (by omega) i (by omega)
def hgf (_:Nd) (hs:List Nat):Nat:=hs.foldl (λh x=>max h (1+x)) 1
def hgt (l:List Nd) (i:Nat):Nat:=val hgf l i
def szf (_:Nd) (zs:List Nat):Nat:=1+zs.sum
def sz (l:List Nd) (i:Nat):Nat:=val szf l i
def Hg (n:Nat):Bool:=(decide (97<=n)&&decide (n<=122))||(decide (65<=n)&&decide (n<=90))||n==95
def Cm (n:Nat):Bool:=decide (48<=n)&&decide (n<=57)
def Nl:List (List UInt8):=[[102,110],[118,97,114],[105,102],[101,108,115,101],[119,104,105,108,101],[102,111,114],[98,114,101,97,107],[99,111,110,116,105,110,117,101],[114,101,116,117,114,110],[112,114,105,110,116],[108,101,110],[110,101,119],[116,114,117,101],[102,97,108,115,101],[110,105,108],[105,110,116],[98,111,111,108],[97,114,114]]
def Tg (t:List UInt8):Bool:=Nl.any (λk=>t==k)
def Xa (t:List UInt8):Bool:=decide (0<t.length)&&decide (t.length<=32)&& !Cm (bt t 0)&&t.all (λc=>Hg c.toNat||Cm c.toNat)&& !Tg t
def Quo:List (List UInt8):=[[],[],[],[110,105,108],[],[],[110,101,103],[110,111,116],[97,116],[108,101,110],[110,101,119],[99,97,108,108],[118,97,114],[115,101,116],[112,117,116],[105,102],[119,104,105,108,101],[102,111,114],[98,114,101,97,107],[99,111,110,116,105,110,117,101],[114,101,116,117,114,110],[112,114,105,110,116],[100,111],[98,108,111,99,107],[],[102,110],[112,114,111,103]]
def Xu:List (List UInt8):=[[],[124,124],[38,38],[61,61],[33,61],[60],[60,61],[62],[62,61],[43],[45],[43,37],[45,37],[42],[47],[37],[42,37]]
def Qhb:List (List UInt8):=[[],[105,110,116],[98,111,111,108],[97,114,114]]
def Qat (op:Int):List UInt8:=if 0<=op/\op<=16 then Xu.getD op.toNat []else []
def Ud (k:Int):List UInt8:=if 0<=k/\k<=3 then Qhb.getD k.toNat []else []
def Q6 (k:Int):Bool:=decide (1<=k)&&decide (k<=11)
def Jv (k:Int):Bool:=decide (12<=k)&&decide (k<=22)
def named (k:Int):Bool:=decide (k∈[(4:Int),11,12,13,14,17,24,25])
def Ej (k n:Int):Bool:=
 if k=1 then decide (0<=n)else if k=2 then decide (n=0)||decide (n=1)else if k=5 then decide (1<=n)&&decide (n<=16)
 else if k=24\/k=25 then decide (1<=n)&&decide (n<=3)else decide (n=0)
def exprs (ks:List Int) (n:Nat):Bool:=decide (n<=ks.length)&&(ks.take n).all Q6
def Jd (ks:List Int) (k:Int) (m:Nat):Bool:=ks.all (λx=>x==k)&&decide (ks.length<=m)
def Y9 (k:Int) (ks:List Int):Bool:=
 if k=5\/k=8\/k=14 then decide (ks.length=2)&&exprs ks 2
 else if k=6\/k=7\/k=9\/k=10\/k=12\/k=13\/k=20\/k=21 then decide (ks.length=1)&&exprs ks 1
 else if k=11 then decide (ks.length<=8)&&exprs ks ks.length
 else if k=15 then exprs ks 1&&decide (2<=ks.length)&&Jd (ks.drop 1) 23 2
 else if k=16 then exprs ks 1&&decide (ks.length=2)&&Jd (ks.drop 1) 23 1
 else if k=17 then exprs ks 2&&decide (ks.length=3)&&Jd (ks.drop 2) 23 1
 else if k=22 then decide (ks.length=1)&&decide (ks.getD 0 0=11)
 else if k=23 then ks.all Jv
 else if k=25 then decide (1<=ks.length)&&Jd (ks.take (ks.length-1)) 24 8&&decide (ks.getD (ks.length-1) 0=23)
 else if k=26 then Jd ks 25 200
 else decide (ks.length=0)
def ownB (x:Nd):Bool:=
 decide (1<=x.kind)&&decide (x.kind<=26)&&decide (0<=x.at_)&&(if named x.kind then Xa x.t else decide (x.t=[]))&&Ej x.kind x.n
def kk (l:List Nd) (x:Nd):List Int:=x.kids.map (λk=>(nd l k.toNat).kind)
def J7 (l:List Nd) (x:Nd):Bool:=ownB x&&Y9 x.kind (kk l x)
def Jc (l:List Nd) (i:Nat):List Int:=(l.take i).flatMap (λx=>x.kids)
def Hw (l:List Nd):Prop:=0<l.length/\Ahead l/\(Jc l l.length).Nodup/\(Jc l l.length).length=l.length-1
def Fits (l:List Nd):Prop:= ∀i,i<l.length->J7 l (nd l i)=true
def Rt (l:List Nd):Prop:=Hw l/\Fits l/\hgt l (l.length-1)<=200
def Cw (x:Nd):List UInt8:=if x.kind=1 then Lib.itoa x.n else if x.kind=2 then Lib.formatBool (x.n==1)else if x.kind=5 then Qat x.n else Quo.getD x.kind.toNat []
def C9 (x:Nd):List UInt8:=if x.kind=24\/x.kind=25 then Ud x.n else []
def hd (x:Nd):List UInt8:=Lib.join ([Cw x,x.t,C9 x].filter (λt=> !t.isEmpty)) [32]
def txf (x:Nd) (ts:List (List UInt8)):List UInt8:=if x.kind<=4 then hd x else [40]++hd x++ts.flatMap (λt=>32::t)++[41]
def tx (l:List Nd) (i:Nat):List UInt8:=val txf l i
theorem Qf4 {l:List Nd} (hA:Ahead l) {i:Nat} (hi:i<l.length):hgt l i=((nd l i).kids.map (λk=>hgt l k.toNat)).foldl (λh x=>max h (1+x)) 1:=Qo8 hA hi
theorem Qng {l:List Nd} (hA:Ahead l) {i:Nat} (hi:i<l.length):sz l i=1+((nd l i).kids.map (λk=>sz l k.toNat)).sum:=Qo8 hA hi
theorem Qtm {l:List Nd} (hA:Ahead l) {i:Nat} (hi:i<l.length):tx l i=txf (nd l i) ((nd l i).kids.map (λk=>tx l k.toNat)):=Qo8 hA hi
section
open Go.RowKit
theorem Qa {p:Prop} (h:p):Hid p:=h
def Vd (k:IntKind) (w:World) (a:Option Addr) (n:Nat) (f:Nat->Int):Prop:=
 0<n-> ∃b off,a=some ⟨b,off,none⟩/\b<w.heap.size/\ ∀j,j<n->w.cell? ⟨b,off+j,none⟩=some (.int k (f j))
theorem Vd.below {k:IntKind} {w w':World} {a:Option Addr} {n:Nat} {f:Nat->Int} (h:Vd k w a n f) (hb:Below w.heap.size w w'):Vd k w' a n f:=by intro hn;obtain ⟨b,off,ha,hlt,hc⟩:=h hn;exact ⟨b,off,ha,Fe hlt hb.size,λj hj=>(hb.cell (p:=⟨b,off+j,none⟩) hlt).trans (hc j hj)⟩
theorem Vd.congr {k:IntKind} {w:World} {a:Option Addr} {n:Nat} {f g:Nat->Int} (h:Vd k w a n f) (e: ∀j,j<n->f j=g j):Vd k w a n g:=by intro hn;obtain ⟨b,off,ha,hlt,hc⟩:=h hn;exact ⟨b,off,ha,hlt,λj hj=>by rw [hc j hj,e j hj]⟩
def Mine (k:IntKind) (t:TypeId) (w:World) (g n:Nat) (f:Nat->Int):Prop:=
 ∃c:Array Value,w.heap[g]? =some (.cells c t (0,0))/\n<=c.size/\ ∀j,j<n->c[j]? =some (.int k (f j))
theorem Mine.lt {k:IntKind} {t:TypeId} {w:World} {g n:Nat} {f:Nat->Int} (h:Mine k t w g n f):g<w.heap.size:=by obtain ⟨c,hb,_,_⟩:=h;obtain ⟨hlt,_⟩:=Array.getElem?_eq_some_iff.1 hb;exact hlt
theorem Mine.cell {k:IntKind} {t:TypeId} {w:World} {g n:Nat} {f:Nat->Int} (h:Mine k t w g n f) {j:Nat} (hj:j<n):w.cell? ⟨g,j,none⟩=some (.int k (f j)):=by obtain ⟨c,hb,_,hc⟩:=h;simp [World.cell?,hb,hc j hj]
theorem Mine.frozen {k:IntKind} {t:TypeId} {w:World} {g n:Nat} {f:Nat->Int} (h:Mine k t w g n f) (j:Nat):w.frozen? ⟨g,j,none⟩=false:=by obtain ⟨c,hb,_,_⟩:=h;simp [World.frozen?,hb]
theorem Mine.block {k:IntKind} {t:TypeId} {w w':World} {g n:Nat} {f:Nat->Int} (h:Mine k t w g n f) (e:w'.heap[g]? =w.heap[g]?):Mine k t w' g n f:=by obtain ⟨c,hb,hn,hc⟩:=h;exact ⟨c,e.trans hb,hn,hc⟩
theorem Mine.below {k:IntKind} {t:TypeId} {w w':World} {g n:Nat} {f:Nat->Int} (h:Mine k t w g n f) (hb:Below w.heap.size w w'):Mine k t w' g n f:=h.block (hb.block g h.lt)
theorem Mine.congr {k:IntKind} {t:TypeId} {w:World} {g n:Nat} {f f':Nat->Int} (h:Mine k t w g n f) (e: ∀j,j<n->f j=f' j):Mine k t w g n f':=by obtain ⟨c,hb,hn,hc⟩:=h;exact ⟨c,hb,hn,λj hj=>by rw [hc j hj,e j hj]⟩
theorem Mine.set {k:IntKind} {t:TypeId} {w:World} {g n:Nat} {f:Nat->Int} (h:Mine k t w g n f) (i:Nat) (x:Int):Mine k t (w.setCell ⟨g,i,none⟩ (.int k x)) g n (λj=>if j=i then x else f j):=by
 obtain ⟨c,hb,hn,hc⟩:=h;refine ⟨c.setIfInBounds i (.int k x),?_,by simpa using hn,λj hj=> ?_⟩
 ·simp [World.setCell,Array.getElem?_modify,hb]
 ·rw [Array.getElem?_setIfInBounds];by_cases e:j=i
  ·subst e;simp [show j<c.size by omega]
  ·rw [Qd (λh=>e h.symm)];show c[j]? =some (.int k (if j=i then x else f j));rw [Qd e];exact hc j hj
theorem Mine.rows {k:IntKind} {t:TypeId} {w:World} {g n:Nat} {f:Nat->Int} (h:Mine k t w g n f):Vd k w (some ⟨g,0,none⟩) n f:=
 λ_=>⟨g,0,rfl,h.lt,λj hj=>by rw [Bq];exact h.cell hj⟩
theorem Mine.made (w:World) (k:IntKind) (t:TypeId) (n:Nat):Mine k t (w.alloc (.cells (madeCells #[.int k 0] n) t)) w.heap.size n (λ_=>0):=by obtain ⟨c,hb,hn,hc⟩:=World.rowIs_made w (.int k 0) n t;exact ⟨c,hb,by omega,hc⟩
theorem Mine.own {k:IntKind} {t:TypeId} {w:World} {base n:Nat} {v:Value} {xs:List Int} (h:w.ownsRow base t 1 v n (xs.map (Value.int k))) (f:Nat->Int) (hf: ∀j,j<n->f j=xs.getD j 0) (hv:v≠ .slice none 0 0):
  ∃g cap,v= .slice (some ⟨g,0,none⟩) n cap/\base<=g/\n=xs.length/\Mine k t w g n f:=by
 obtain ⟨hl,h2⟩:=h;rw [Zr,Nat.mul_one]at hl;rcases h2 with ⟨h2,_⟩ |⟨g,cap,cur,rfl,hg,hh,h1,_,hs,ht⟩
 ·exact absurd h2 hv
 ·refine ⟨g,cap,rfl,hg,hl.symm,cur,hh,by omega,λj hj=> ?_⟩;rw [Nat.mul_one]at ht;have e:(cur.toList.take n)[j]? =(xs.map (Value.int k))[j]?:=by rw [ht]
  rw [List.getElem?_take]at e;simp only [hj,if_true]at e;rw [hf j hj,<-Array.getElem?_toList,e,Ng,Yc,Y3 (by omega)];rfl
theorem Vd.own {k:IntKind} {t:TypeId} {w:World} {base n:Nat} {v:Value} {xs:List Int} (h:w.ownsRow base t 1 v n (xs.map (Value.int k))):
  ∃a cap,v= .slice a xs.length cap/\Vd k w a xs.length (λj=>xs.getD j 0):=by
 by_cases hv:v= .slice none 0 0
 ·subst hv;obtain ⟨hl,h2⟩:=h;rcases h2 with ⟨_,h2⟩ |⟨g,cap,cur,h3,_⟩
  ·subst h2;rw [Zr]at hl;have:xs.length=0:=(by omega);rw [this];exact ⟨none,0,rfl,λh=>by omega⟩
  ·cases h3
 ·obtain ⟨g,cap,rfl,_,hn,hm⟩:=Mine.own h (λj=>xs.getD j 0) (λ_ _=>rfl) hv;subst hn;exact ⟨_,cap,rfl,hm.rows⟩
theorem Wq (w:World) (q:Nat) (B:Nat):Below B w (w.drewN q):=⟨rfl,rfl,rfl,Qh _,λ_ _=>rfl⟩
def allEq (n:Nat) (f g:Nat->Int):Bool:=(List.range n).all (λj=>f j==g j)
theorem Q44 {n:Nat} {f g:Nat->Int} (h: ∀j,j<n->f j=g j):allEq n f g=true:=by simp only [allEq,Ou,List.mem_range,beq_iff_eq];exact h
theorem Q4a {n k:Nat} {f g:Nat->Int} (hk:k<n) (h:f k≠g k):allEq n f g=false:=by rw [Bool.eq_false_iff];intro hh;simp only [allEq,Ou,List.mem_range,beq_iff_eq]at hh;exact h (hh k hk)
structure But (g:Nat) (w w':World):Prop where
 os:w'.os=w.os
 tape:w'.tape=w.tape
 output:w'.output=w.output
 size:w'.heap.size=w.heap.size
 block: ∀k,k≠g->w'.heap[k]? =w.heap[k]?
theorem But.refl (g:Nat) (w:World):But g w w:=⟨rfl,rfl,rfl,rfl,λ_ _=>rfl⟩
theorem But.trans {g:Nat} {a b c:World} (h:But g a b) (k:But g b c):But g a c:=
 ⟨k.os.trans h.os,k.tape.trans h.tape,k.output.trans h.output,k.size.trans h.size,λi hi=>(k.block i hi).trans (h.block i hi)⟩
theorem But.setCell (g i:Nat) (v:Value) (w:World):But g w (w.setCell ⟨g,i,none⟩ v):=
 ⟨rfl,rfl,rfl,by simp [World.setCell],λk hk=>Below.heap_setCell _ _ _ _ hk⟩
theorem But.drew {g:Nat} {w w':World} (h:But g w w'):But g w w'.drew:=⟨h.os,h.tape,h.output,h.size,h.block⟩
theorem But.below {g B:Nat} {w0 w w':World} (h:But g w w') (hb:Below B w0 w) (hg:B<=g):Below B w0 w':=
 hb.trans ⟨h.os,h.tape,h.output,by rw [h.size];exact Qh _,λk hk=>h.block k (by omega)⟩
end
section
open Go.ChangeShapes Go.WideShapes Go.ChangeAt Go.RowKit
theorem Wp1 {w:World} {p:Addr} {v:Value} (h:w.cell? p=some v):p.block<w.heap.size:=by apply Nat.lt_of_not_le;intro hle;have e:w.heap[p.block]? =none:=Array.getElem?_eq_none hle;simp [World.cell?,e]at h
end
section
open Go.RowKit
def Held (w:World) (g:Nat) (t:TypeId) (cs:Array Value):Prop:=w.heap[g]? =some (.cells cs t (0,0))
theorem Held.lt {w:World} {g:Nat} {t:TypeId} {cs:Array Value} (h:Held w g t cs):g<w.heap.size:=by obtain ⟨hlt,_⟩:=Array.getElem?_eq_some_iff.1 h;exact hlt
theorem Held.cell {w:World} {g:Nat} {t:TypeId} {cs:Array Value} (h:Held w g t cs) (j:Nat):w.cell? ⟨g,j,none⟩=cs[j]?:=by unfold Held at h;simp [World.cell?,h]
theorem Held.at_ {w:World} {g:Nat} {t:TypeId} {cs:Array Value} (h:Held w g t cs) {j:Nat} {v:Value} (hv:cs[j]? =some v):w.cell? ⟨g,j,none⟩=some v:=(h.cell j).trans hv
theorem Held.frozen {w:World} {g:Nat} {t:TypeId} {cs:Array Value} (h:Held w g t cs) (j:Nat):w.frozen? ⟨g,j,none⟩=false:=by unfold Held at h;simp [World.frozen?,h]
theorem Held.block {w w':World} {g:Nat} {t:TypeId} {cs:Array Value} (h:Held w g t cs) (e:w'.heap[g]? =w.heap[g]?):Held w' g t cs:=e.trans h
theorem Held.below {w w':World} {g B:Nat} {t:TypeId} {cs:Array Value} (h:Held w g t cs) (hb:Below B w w') (hg:g<B):Held w' g t cs:=h.block (hb.block g hg)
theorem Held.since {w w':World} {g:Nat} {t:TypeId} {cs:Array Value} (h:Held w g t cs) (hb:Below w.heap.size w w'):Held w' g t cs:=h.below hb h.lt
theorem Held.drew {w:World} {g:Nat} {t:TypeId} {cs:Array Value} (h:Held w g t cs):Held w.drew g t cs:=h
theorem Held.new (w:World) (t:TypeId) (cs:Array Value):Held (w.alloc (.cells cs t)) w.heap.size t cs:=by show (w.heap.push _)[w.heap.size]? =_;simp
theorem Held.alloc {w:World} {g:Nat} {t:TypeId} {cs:Array Value} (h:Held w g t cs) (o:Obj):Held (w.alloc o) g t cs:=by have hlt:=h.lt;show (w.heap.push o)[g]? =_;rw [Array.getElem?_push,Qd (by omega)];exact h
theorem Held.set {w:World} {g:Nat} {t:TypeId} {cs:Array Value} (h:Held w g t cs) (i:Nat) (v:Value):Held (w.setCell ⟨g,i,none⟩ v) g t (cs.setIfInBounds i v):=by unfold Held at h ⊢;simp [World.setCell,Array.getElem?_modify,h]
theorem Held.off {w:World} {g g':Nat} {t:TypeId} {cs:Array Value} (h:Held w g t cs) (hne:g≠g') (i:Nat) (v:Value):Held (w.setCell ⟨g',i,none⟩ v) g t cs:=
 h.block (by simp [World.setCell,Array.getElem?_modify,Ne.symm hne])
def Xi (t:TypeId) (sz:Nat) (w0 w:World) (v:Value) (n:Nat) (xs:List Value):Prop:=w.ownsRow w0.heap.size t sz v n xs/\Below w0.heap.size w0 w
theorem Xi.drewN {t:TypeId} {sz n:Nat} {w0 w:World} {v:Value} {xs:List Value} (h:Xi t sz w0 w v n xs) (q:Nat):Xi t sz w0 (w.drewN q) v n xs:=⟨h.1,⟨h.2.os,h.2.tape,h.2.output,h.2.size,h.2.block⟩⟩
theorem Xi.nil (t:TypeId) (sz:Nat) (w:World):Xi t sz w w (.slice none 0 0) 0 []:=⟨⟨by simp,.inl ⟨rfl,rfl⟩⟩,Below.refl _ _⟩
theorem Xi.quiet {t:TypeId} {sz n:Nat} {w0 w w':World} {v:Value} {xs:List Value} (h:Xi t sz w0 w v n xs) (hb:Below w.heap.size w w'):Xi t sz w0 w' v n xs:=by
 refine ⟨⟨h.1.1,?_⟩,h.2.trans (hb.mono h.2.size)⟩;rcases h.1.2 with h1 |⟨g,cap,cur,h1,h2,h3,r⟩
 ·exact .inl h1
 ·refine .inr ⟨g,cap,cur,h1,h2,?_,r⟩;obtain ⟨hlt,_⟩:=Array.getElem?_eq_some_iff.1 h3;rw [hb.block g hlt];exact h3
theorem Xi.apart {t:TypeId} {sz n:Nat} {w w1 w2 w3:World} {v:Value} {xs:List Value} (h:Xi t sz w1 w2 v n xs) (hb:Below w.heap.size w w1) (hk: ∀k,w1.heap.size<=k->w3.heap[k]? =w2.heap[k]?) (h3:Below w.heap.size w w3):Xi t sz w w3 v n xs:=by
 refine ⟨⟨h.1.1,?_⟩,h3⟩;rcases h.1.2 with h1 |⟨g,cap,cur,h1,h2,h4,r⟩
 ·exact .inl h1
 ·exact .inr ⟨g,cap,cur,h1,F7 hb.size h2,(hk g h2).trans h4,r⟩
theorem Xi.shape {t:TypeId} {sz n:Nat} {w0 w:World} {v:Value} {xs:List Value} (h:Xi t sz w0 w v n xs):
  ∃a cap,v= .slice a n cap/\n<=cap/\(0<n-> ∃g,a=some ⟨g,0,none⟩/\g<w.heap.size/\ ∀j u,xs[j]? =some u->w.cell? ⟨g,j,none⟩=some u):=by
 rcases h.1.2 with ⟨rfl,rfl⟩ |⟨g,cap,cur,rfl,h2,h3,h4,h5,h6,h7⟩
 ·exact ⟨none,0,rfl,Qh _,λh=>by omega⟩
 ·refine ⟨_,cap,rfl,h4,λ_=>⟨g,rfl,(Array.getElem?_eq_some_iff.1 h3).1,λj u hj=> ?_⟩⟩;rw [<-h7]at hj;have hj':j<n*sz:=by obtain ⟨hl,_⟩:=List.getElem?_eq_some_iff.1 hj;rw [F9]at hl;omega
  rw [List.getElem?_take_of_lt hj',Array.getElem?_toList]at hj;simp [World.cell?,h3,hj]
theorem Wgy {P:Program} {ops:Array Oper} {rest:List Oper} {o:Oper} {a:Act} {Q:Exit->Act->World->Prop} (hgd:o.guard=none) (s x:Operand) (T t:TypeId) (z:Value) (sz bytes:Nat)
  (ht:P.underlying T=some (.slice t)) (hinfo:(P.info? t).map (λi=>(i.zero,i.size,i.bytes))=some (some z,sz,bytes)) (hzs:z.cells.size=sz) (hsz:0<sz) (hby:bytes<=1000)
  (ho:o.op= .call {callee:=.builtin .append,args:= #[s,x],argTypes:= #[T,T]})
  (w0 w:World) (v:Value) (n:Nat) (xs news:List Value) (cs:Array Value) (hs:a.eval s=v) (hx:a.eval x= .slice (some ⟨w.heap.size,0,none⟩) 1 1) (hb:Xi t sz w0 w v n xs) (hlen:n<=10000000)
  (hcs:cs=news.toArray) (hl:news.length=sz) (h1: ∀u∈news,u.oneCell'=true)
  (h: ∀v' w',Xi t sz w0 w' v' (n+1) (xs++news)->wpList P ops Q rest (a.put o.dst v') w'):
  wpList P ops Q (o::rest) a (w.alloc (.cells cs t)):=by
 obtain ⟨i0,hi,hz0,hz1,hz2⟩:=info_parts hinfo;refine wpList_append_own _ hgd s x T ho w0.heap.size t i0 z sz bytes ht hi hz0 hz1 hz2 hzs hsz v n xs hs (hb.1.alloc _) ⟨w.heap.size,0,none⟩ 1 1 news hx (by omega) ?_ h1 ?_ ?_ ?_ ?_
 ·intro j u hj;have hc:=(Held.new w t cs).cell j;have he:(⟨w.heap.size,0,none⟩:Addr).add j=⟨w.heap.size,j,none⟩:=by
   simp only [Addr.add];split
   ·rename_i h0;rw [h0]
   ·rw [Bq]
  rw [he,hc,hcs];simpa using hj
 ·unfold maxLen;omega
 ·have:(n+1)*bytes<=10000001*1000:=Nat.mul_le_mul (by omega) hby;omega
 ·have:=hb.2.size;simp;omega
 ·intro v' w' hown hgrow _;refine h v' w' ⟨hown,?_⟩;refine ((hb.2.alloc hb.2.size _)).grown hgrow (by have:=hb.2.size;simp;omega) ?_;intro k hk;exact (hb.1.lt k hk).1
theorem Xi.lt {t:TypeId} {sz n:Nat} {w0 w:World} {v:Value} {xs:List Value} (h:Xi t sz w0 w v n xs) (k:Nat) (hk:v.ownBlock=some k):k<w.heap.size:=(h.1.lt k hk).2
theorem Qnr {P:Program} {ops:Array Oper} {rest:List Oper} {o:Oper} {a:Act} {Q:Exit->Act->World->Prop} (hgd:o.guard=none) (s x:Operand) (T t:TypeId) (z:Value) (sz bytes:Nat)
  (ht:P.underlying T=some (.slice t)) (hinfo:(P.info? t).map (λi=>(i.zero,i.size,i.bytes))=some (some z,sz,bytes)) (hzs:z.cells.size=sz) (hsz:0<sz) (hby:bytes<=1000)
  (ho:o.op= .call {callee:=.builtin .append,args:= #[s,x],argTypes:= #[T,T]})
  (w0 w:World) (v:Value) (n:Nat) (xs news:List Value) (cs:Array Value) (hs:a.eval s=v) (hx:a.eval x= .slice (some ⟨w.heap.size,0,none⟩) 1 1) (hb:Xi t sz w0 w v n xs) (hlen:n<=10000000)
  (hcs:cs=news.toArray) (hl:news.length=sz) (h1: ∀u∈news,u.oneCell'=true)
  (h: ∀v' w',Xi t sz w0 w' v' (n+1) (xs++news)->(∀k,k<w.heap.size->v.ownBlock≠some k->w'.heap[k]? =w.heap[k]?)->wpList P ops Q rest (a.put o.dst v') w'):
  wpList P ops Q (o::rest) a (w.alloc (.cells cs t)):=by
 obtain ⟨i0,hi,hz0,hz1,hz2⟩:=info_parts hinfo;refine wpList_append_own _ hgd s x T ho w0.heap.size t i0 z sz bytes ht hi hz0 hz1 hz2 hzs hsz v n xs hs (hb.1.alloc _) ⟨w.heap.size,0,none⟩ 1 1 news hx (by omega) ?_ h1 ?_ ?_ ?_ ?_
 ·intro j u hj;have hc:=(Held.new w t cs).cell j;have he:(⟨w.heap.size,0,none⟩:Addr).add j=⟨w.heap.size,j,none⟩:=by
   simp only [Addr.add];split
   ·rename_i h0;rw [h0]
   ·rw [Bq]
  rw [he,hc,hcs];simpa using hj
 ·unfold maxLen;omega
 ·have:(n+1)*bytes<=10000001*1000:=Nat.mul_le_mul (by omega) hby;omega
 ·have:=hb.2.size;simp;omega
 ·intro v' w' hown hgrow _;have hkeep: ∀k,k<w.heap.size->v.ownBlock≠some k->w'.heap[k]? =w.heap[k]?:=by intro k hk hne;rw [hgrow.block k (by simp;omega) (λe=>hne e.symm)];show (w.heap.push _)[k]? =_;rw [Array.getElem?_push,Qd (by omega)]
  refine h v' w' ⟨hown,?_⟩ hkeep;refine ((hb.2.alloc hb.2.size _)).grown hgrow (by have:=hb.2.size;simp;omega) ?_;intro k hk;exact (hb.1.lt k hk).1
end
end Go.Proofs.YtdncpkkhkbijfaaGreatDoor
