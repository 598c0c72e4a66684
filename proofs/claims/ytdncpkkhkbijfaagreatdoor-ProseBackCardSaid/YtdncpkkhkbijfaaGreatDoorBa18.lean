import Derived.Test.YtdncpkkhkbijfaaGreatDoorBa8
import Derived.Test.YtdncpkkhkbijfaaGreatDoorBa17
open Go.Proofs.Tryz
set_option linter.all false
set_option maxHeartbeats 0
set_option maxRecDepth 100000
namespace Go.Proofs.YtdncpkkhkbijfaaGreatDoor
section
open Go.RowKit
theorem Wa1 {r:List UInt8} (h:k0 r=1):0<r.length/\isLt (bt r 0)=true:=by
 cases r with
 |nil=>cases h
 |cons c cs=>
  have h':(if isLt c.toNat then 1 else if Yn c.toNat then 2 else 4)=1:=h;by_cases g:isLt c.toNat=true
  ·exact ⟨by simp,g⟩
  ·rw [Qd g]at h';split at h'<;>cases h'
theorem Wij {n:Nat} (h:isLt n=true):Yn n=false:=by
 cases hd:Yn n with
 |false=>rfl
 |true=>rw [Qyv hd]at h;cases h
theorem Wkv {r:List UInt8} {p:Nat} (he:er r=0) (hk:(tk r p).kind=1):Xa (tk r p).text=true:=by
 have hk':Bl (k0 r) (r.take (ln r))=1:=hk;unfold Bl at hk';split at hk'
 ·cases hk'
 ·rename_i hkey;have hnk:isKey (r.take (ln r))=false:=by
   cases h:isKey (r.take (ln r))with
   |false=>rfl
   |true=>exact absurd ⟨hk',h⟩ hkey
  obtain ⟨hl,hlt⟩:=Wa1 hk';have hln:=(Qpx hl hlt).2;have h0:=Qhd he;have hle:=Qgf r;have h32:ln r<=32:=by
   unfold er Kw at he;rw [Qd (by omega),hk',Qd (by decide),hnk,Qd (λh=>by cases h.2)]at he;by_cases g:32<ln r
   ·rw [Qk ⟨rfl,g⟩]at he;cases he
   ·omega
  show Xa (r.take (ln r))=true;have hlen:(r.take (ln r)).length=ln r:=by rw [F9];omega
  refine Qxs (by omega) (by omega) ?_ ?_ hnk
  ·rw [Ql9 h0];exact Wij hlt
  ·intro k hk2;rw [Ql9 (by omega)];exact Qma Vt r k (by omega)
theorem Wgl {t:List UInt8}:(num t).getD 0<=9223372036854775807:=by
 cases h:num t with
 |none=>exact Vh _
 |some n=>exact Qx7 (l:=t) (k:=t.length) (by rw [List.take_length];exact h)
theorem Wkk {r:List UInt8}: ∀{p:Nat} {L:List Tk},S r p= .ok L->I8 L:=by
 refine Qv5 (Q:=λr=> ∀{p:Nat} {L:List Tk},S r p= .ok L->I8 L) ?_ ?_ ?_ r
 ·intro p L h;injection h with h
  subst h;refine ⟨λj t ht hk=> ?_,λt ht hk=> ?_,λt ht=> ?_⟩
  ·match j,ht with
   | 0,ht=>injection ht with ht;subst ht;exact absurd rfl hk
  ·rw [List.mem_singleton.1 ht]at hk;cases hk
  ·rw [List.mem_singleton.1 ht];exact Vh _
 ·intro r hr hb p L h;rw [Qhl p hr hb]at h;cases h
 ·intro r hr hb ih p L h;rcases Qp0 h with ⟨e,_⟩ |⟨_,_,M,rfl,hM⟩
  ·exact absurd e hr
  ·have hi:=ih hM;refine ⟨λj t ht hk=> ?_,λt ht hk=> ?_,λt ht=> ?_⟩
   ·have:=Q6p hM;cases j with
    |zero=>rw [Qp];omega
    |succ j=>have:=hi.fin j t ht hk;rw [Qp];omega
   ·rcases List.mem_cons.1 ht with rfl |ht
    ·exact Wkv hb hk
    ·exact hi.name t ht hk
   ·rcases List.mem_cons.1 ht with rfl |ht
    ·show Kv _ _<=_;unfold Kv;split
     ·exact Wgl
     ·exact Vh _
    ·exact hi.num t ht
theorem Qbp {l:List UInt8} {L:List Tk} (h:T l 0= .ok L):I8 L:=Wkk h
theorem Qgw {l:List UInt8} {L:List Tk} (h:T l 0= .ok L):0<L.length/\L.length<=l.length+1:=by refine ⟨Q6p h,?_⟩;have:=Wo8 h;rw [Vf]at this;omega
theorem Qiq {l:List UInt8} {L:List Tk} (h:T l 0= .ok L) (hl:l.length<=65536):IsL L:=by have:=Qgw h;exact ⟨this.1,by omega,(Qbp h).fin⟩
theorem Qdf (l:List Nd) (i:Nat):nd (l.map bare) i=bare (nd l i):=by
 unfold nd;rw [Yc,Yc,Ng];cases l[i]? with
 |none=>rfl
 |some x=>rfl
theorem Given.nodes {w w':World} {v:Value} {l:List Nd} (h:Given w w' v l) (hs: ∀x∈l,x.kids.length<=100000/\0<=x.n/\x.n<=9223372036854775807/\x.s.size<=32):
  ∃a c l',v= .slice a l'.length c/\Nodes w' a l'/\l'.map bare=l:=by
 obtain ⟨l',h1,h2,h3⟩:=h;have hok: ∀j,j<l'.length->Ok w' (nd l' j):=by
  intro j hj;have hm:nd l' j∈l':=by unfold nd;rw [Yc,Y3 hj];exact F5 _
  have hb:bare (nd l' j)∈l:=by rw [<-h2];exact List.mem_map_of_mem hm
  obtain ⟨k1,k2,k3,k4⟩:=hs _ hb;have hN:=h3 _ hm;have k1':(nd l' j).kids.length<=100000:=k1;have k2':0<=(nd l' j).n:=k2;have k3':(nd l' j).n<=9223372036854775807:=k3;have k4':(nd l' j).s.size<=32:=k4;obtain ⟨A,N,C,hA⟩: ∃A N C,Y5 (nd l' j)= .slice A N C:=⟨_,_,_,rfl⟩;unfold Y5 at hA;rcases hN.2 with ⟨e1,e2⟩ |⟨g,cap,cur,e1,e2,e3,e4,e5,e6,e7⟩
  ·have ea:(nd l' j).ka=none:=(by unfold Y5 at e1;injection e1);have ec:(nd l' j).kc=0:=(by unfold Y5 at e1;injection e1);have ek:(nd l' j).kids.length=0:=(by unfold Y5 at e1;injection e1);exact ⟨λh=>by omega,by omega,λ_=>ec,by omega,by omega,by omega,by omega⟩
  ·have ea:(nd l' j).ka=some ⟨g,0,none⟩:=(by unfold Y5 at e1;injection e1);have ec:(nd l' j).kc=cap:=(by unfold Y5 at e1;injection e1);refine ⟨λhpos=>⟨g,0,ea,(Array.getElem?_eq_some_iff.1 e3).1,λk hk=> ?_⟩,by rw [ec];exact e4,(λh=>by rw [ea]at h;cases h),by omega,by omega,by omega,by omega⟩;have hkk:(nd l' j).kids[k]? =some ((nd l' j).kids.getD k 0):=by rw [Yc,Y3 hk];rfl
   have hc:=World.ownsRow.cells hN (g:=g) (by unfold Y5;rw [ea];rfl) k (.int .i64 ((nd l' j).kids.getD k 0)) (by rw [Ng,hkk];rfl);rw [Qef]at hc;rw [Bq];exact hc
 rcases h1.2 with ⟨rfl,e2⟩ |⟨g,cap,cur,rfl,e2,e3,r⟩
 ·exact ⟨none,0,l',by rw [e2],⟨λh=>by omega,hok⟩,h2⟩
 ·refine ⟨some ⟨g,0,none⟩,cap,l',rfl,⟨λ_=>⟨g,0,rfl,(Array.getElem?_eq_some_iff.1 e3).1,λj hj=> ?_⟩,hok⟩,h2⟩;have hget: ∀k,k<5-> ∀u,(nd l' j).cs.toList[k]? =some u->w'.cell? ⟨g,0+j*5+k,none⟩=some u:=by intro k hk u hu;rw [Bq];have hc:=World.ownsRow.cells h1 (g:=g) rfl (j*5+k) u ((Qqt l' j k hj hk).trans hu);rw [Qef]at hc;exact hc
  exact ⟨hget 0 (by omega) _ rfl,hget 1 (by omega) _ rfl,hget 2 (by omega) _ rfl,hget 3 (by omega) _ rfl,hget 4 (by omega) _ rfl⟩
theorem Qzm {l:List Nd} (h:Rt l): ∀x∈l,x.s.size<=32:=by
 intro x hx;obtain ⟨i,hi,e⟩:=List.getElem_of_mem hx;have hf:=h.2.1 i hi;have en:nd l i=x:=by unfold nd;rw [Yc,Y3 hi,e];rfl
 rw [en]at hf;unfold J7 at hf;have ho:ownB x=true:=by
  cases g:ownB x with
  |true=>rfl
  |false=>rw [g]at hf;cases hf
 unfold ownB at ho;simp only [Yo]at ho;have hz:=ho.1.2;have hsz:x.s.size=x.t.length:=(Qa3 x.s).symm;split at hz
 ·unfold Xa at hz;simp only [Yo,Wt]at hz;omega
 ·have:x.t=[]:=of_decide_eq_true hz;rw [hsz,this];exact Vh _
end
section
structure Vj (s s':PS) (k:Nat):Prop where
 all:s'.l.length+s'.r.length+k<=s.l.length+s.r.length
 toks:s'.r.length<=s.r.length
 hts:s.h.length=s.l.length->s'.h.length=s'.l.length
variable {s s0 s1:PS}{v:Out}{b:List UInt8}{k:Nat}
theorem Vj.refl (s:PS):Vj s s 0:=⟨Qh _,Qh _,id⟩
theorem Vj.trans {s2:PS} {j:Nat} (h:Vj s s1 k) (g:Vj s1 s2 j):Vj s s2 (k+j):=⟨by have:=h.all;have:=g.all;omega,by have:=h.toks;have:=g.toks;omega,λe=>g.hts (h.hts e)⟩
theorem Vj.next (h:Vj s0 s k) (hk:s.tok.kind≠0):Vj s0 s.next (k+1):=by have h1:=Qgp hk;have e1:s.next.l=s.l:=rfl;have e2:s.next.h=s.h:=rfl;exact ⟨by have:=h.all;rw [e1];omega,by have:=h.toks;omega,by rw [e1,e2];exact h.hts⟩
def Du (s:PS) (v:Out):Prop:= ∀l s',v= .ok (l,s')->Vj s s' 0
theorem Q63 {x:Nd} {l:List Int} {s':PS} (h:Vj s0 s (k+1)) (g:lay x s= .ok (l,s')):Vj s0 s' k:=by obtain ⟨a,b,c,_⟩:=Qbq g;exact ⟨by have:=h.all;rw [b];omega,by have:=h.toks;rw [b];omega,λe=>c (h.hts e)⟩
theorem L8 {x:Nd} (h:Vj s0 s (k+1)) (g:some (lay x s)=some v):Du s0 v:=by
 injection g with g
 intro l s' e;rw [e]at g;have:=Q63 h g;exact ⟨by have:=this.all;omega,this.toks,this.hts⟩
theorem G9 {f:PS->Option Out} (h0:Vj s0 s k) (h:Qm b s f=some v) (g:Vj s0 s.next (k+1)->f s.next=some v->Du s0 v):Du s0 v:=by
 rcases Qfq h with ⟨h1,h2⟩ |⟨_,rfl⟩
 ·exact g (h0.next (Dc h1)) h2
 ·intro l s' e;cases e
theorem Qjh {f:ByteArray->Nat->PS->Option Out} (h0:Vj s0 s k) (h:Xf s f=some v) (g: ∀nm a,Vj s0 s.next (k+1)->f nm a s.next=some v->Du s0 v):Du s0 v:=by
 rcases Qkb h with ⟨h1,h2⟩ |⟨_,rfl⟩
 ·exact g _ _ (h0.next (by omega)) h2
 ·intro l s' e;cases e
theorem Q1c {f:Nat->PS->Option Out} (h0:Vj s0 s k) (h:V3 s f=some v) (g:Vj s0 s.next (k+1)->f (Yt s.tok) s.next=some v->Du s0 v):Du s0 v:=by
 rcases Qut h with ⟨h1,h2⟩ |⟨_,rfl⟩
 ·exact g (h0.next (Qyl h1)) h2
 ·intro l s' e;cases e
theorem Af {m:Md} {n d:Nat} {f:List Int->PS->Option Out} (h0:Vj s0 s k) (h:Out.go (Qg n m d s) f=some v) (g: ∀p s1,Vj s0 s1 k->f p s1=some v->Du s0 v):Du s0 v:=by
 rcases go_ok h with ⟨e,h1,rfl⟩ |⟨p,s1,h1,h2⟩
 ·intro l s' e;cases e
 ·obtain ⟨a,b,c⟩:=Lg n m d s _ h1 p s1 rfl;exact g p s1 (by have:=h0.trans (k:=k) (j:=0) (⟨by omega,b,c⟩:Vj s s1 0);exact this) h2
theorem Qai {n d:Nat} {f:Int->PS->Option Out} (h0:Vj s0 s k) (h:Wy n d s f=some v) (g: ∀p s1,Vj s0 s1 k->f p s1=some v->Du s0 v):Du s0 v:=Af h0 h (λp s1 h1 h2=>g _ s1 h1 h2)
theorem Qgx {m:Pm} {n d:Nat} (ih: ∀d s v,Qac n m d s=some v->Du s v) {f:List Int->PS->Option Out} (h0:Vj s0 s k) (h:Out.go (Qac n m d s) f=some v) (g: ∀p s1,Vj s0 s1 k->f p s1=some v->Du s0 v):Du s0 v:=by
 rcases go_ok h with ⟨e,h1,rfl⟩ |⟨p,s1,h1,h2⟩
 ·intro l s' e;cases e
 ·exact g p s1 (h0.trans (j:=0) (ih _ _ _ h1 p s1 rfl)) h2
theorem Du.from_ (h:Du s v) (h0:Vj s0 s k):Du s0 v:=λl s' e=>by have:=h0.trans (h l s' e);exact ⟨by have:=this.all;omega,this.toks,this.hts⟩
theorem Sn: ∀(n:Nat) (m:Pm) (d:Nat) (s:PS) (v:Out),(∀acc,m≠ .prog acc)->Qac n m d s=some v->Du s v
 | 0,_,_,_,_,_,h=>by cases h
 |n+1,.block,d,s,v,_,h=>by
  rw [Qac]at h;refine G9 (.refl s) h λh1 h=> ?_;split at h
  ·injection h with h;subst h;intro l s' e;cases e
  ·exact (Sn n _ _ _ _ (λ_ e=>by cases e) h).from_ h1
 |n+1,.stmts acc a,d,s,v,_,h=>by
  rw [Qac]at h;split at h
  ·rename_i g;exact L8 ((Vj.refl s).next (Dc g)) h
  ·exact Qgx (λd s v h=>Sn n _ _ _ _ (λ_ e=>by cases e) h) (.refl s) h λp s1 h1 h=>(Sn n _ _ _ _ (λ_ e=>by cases e) h).from_ h1
 |n+1,.stmt,d,s,v,_,h=>by
  have hB: ∀d s v,Qac n .block d s=some v->Du s v:=λd s v h=>Sn n _ _ _ _ (λ_ e=>by cases e) h;have hnx:Xc s.tok≠0->Vj s s.next 1:=λh0=>(Vj.refl s).next (Qt1 h0);rw [Qac]at h;split at h
  ·rename_i hg;exact Qjh (hnx (by rw [hg];decide)) h λnm a h1 h=>G9 h1 h λh1 h=>Qai h1 h λx s1 h1 h=>G9 h1 h λh1 h=>L8 h1 h
  ·rename_i hg;exact Qjh (hnx (by rw [hg];decide)) h λnm a h1 h=>G9 h1 h λh1 h=>Qai h1 h λx s1 h1 h=>G9 h1 h λh1 h=>Qai h1 h λy s2 h1 h=>Qgx hB h1 h λz s3 h1 h=>L8 h1 h
  ·rename_i hg;exact G9 (hnx (by rw [hg];decide)) h λh1 h=>L8 h1 h
  ·rename_i hg;exact G9 (hnx (by rw [hg];decide)) h λh1 h=>L8 h1 h
  ·rename_i hg;exact Qai (hnx (by rw [hg];decide)) h λx s1 h1 h=>G9 h1 h λh1 h=>L8 h1 h
  ·rename_i hg;exact Qai (hnx (by rw [hg];decide)) h λx s1 h1 h=>G9 h1 h λh1 h=>L8 h1 h
  ·rename_i hg;exact Qai (hnx (by rw [hg];decide)) h λx s1 h1 h=>Qgx hB h1 h λz s2 h1 h=>L8 h1 h
  ·rename_i hg;refine Qai (hnx (by rw [hg];decide)) h λx s1 h1 h=>Qgx hB h1 h λz s2 h1 h=> ?_;split at h
   ·rename_i g;exact Qgx hB (h1.next (Dc g)) h λz s2 h1 h=>L8 h1 h
   ·exact L8 h1 h
  ·refine Qjh (.refl s) h λnm a h1 h=> ?_;split at h
   ·exact Af h1 h λp s1 h1 h=>G9 h1 h λh1 h=>L8 h1 h
   ·split at h
    ·exact Af h1 h λp s1 h1 h=>G9 h1 h λh1 h=>Qai h1 h λx s1 h1 h=>G9 h1 h λh1 h=>L8 h1 h
    ·exact G9 h1 h λh1 h=>Qai h1 h λx s1 h1 h=>G9 h1 h λh1 h=>L8 h1 h
 |n+1,.params acc,d,s,v,_,h=>by
  rw [Qac]at h;refine Qjh (.refl s) h λnm a h1 h=> ?_;split at h
  ·injection h with h;subst h;intro l s' e;cases e
  ·refine Q1c h1 h λh1 h=> ?_;rcases go_ok h with ⟨e,h3,rfl⟩ |⟨q,s2,h3,h4⟩
   ·intro l s' e;cases e
   ·injection h3 with h3
    have h5:=Q63 h1 h3;split at h4
    ·rename_i g;exact (Sn n _ _ _ _ (λ_ e=>by cases e) h4).from_ (h5.next (Dc g))
    ·refine G9 h5 h4 λh1 h=> ?_;injection h with h
     subst h;intro l s' e;cases e;exact ⟨by have:=h1.all;omega,h1.toks,h1.hts⟩
 |n+1,.func,d,s,v,_,h=>by
  have hB: ∀d s v,Qac n .block d s=some v->Du s v:=λd s v h=>Sn n _ _ _ _ (λ_ e=>by cases e) h;rw [Qac]at h;refine Qjh (.refl s) h λnm a h1 h=>G9 h1 h λh1 h=> ?_;rcases go_ok h with ⟨e,h3,rfl⟩ |⟨q,s2,h3,h4⟩
  ·intro l s' e;cases e
  ·have h5:Vj s s2 1:=by
    split at h3
    ·rename_i g;injection h3 with h3
     injection h3 with h3
     injection h3 with _ h6
     subst h6;have:=h1.next (Dc g);exact ⟨by have:=this.all;omega,this.toks,this.hts⟩
    ·have:=h1.trans (Sn n _ _ _ _ (λ_ e=>by cases e) h3 q s2 rfl);exact ⟨by have:=this.all;omega,this.toks,this.hts⟩
   exact Q1c h5 h4 λh1 h=>Qgx hB h1 h λz s3 h1 h=>L8 h1 h
 |n+1,.prog acc,d,s,v,hm,h=>absurd rfl (hm acc)
theorem Qs.left {m:Pm} {d:Nat} {l:List Int} {s':PS} (hm: ∀acc,m≠ .prog acc) (h:Qs m d s (.ok (l,s'))):Vj s s' 0:=by obtain ⟨n,hn⟩:=h;exact Sn n _ _ _ _ hm hn _ _ rfl
theorem Qr7: ∀(n:Nat) (acc:List Int) (d:Nat) (s:PS) (l:List Int) (s':PS),Qac n (.prog acc) d s=some (.ok (l,s'))->s'.l.length+s'.r.length<=s.l.length+s.r.length+1
 | 0,_,_,_,_,_,h=>by cases h
 |n+1,acc,d,s,l,s',h=>by
  rw [Qac]at h;split at h
  ·injection h with h
   obtain ⟨a,b,_,_⟩:=Qbq h;rw [b];omega
  ·rcases Qfq h with ⟨h1,h2⟩ |⟨_,h2⟩
   ·split at h2
    ·cases h2
    ·rcases go_ok h2 with ⟨e,_,h3⟩ |⟨q,s2,h3,h4⟩
     ·cases h3
     ·have h5:=((Vj.refl s).next (Dc h1)).trans (Sn n _ _ _ _ (λ_ e=>by cases e) h3 q s2 rfl);have h6:=Qr7 n _ _ _ _ _ h4;have:=h5.all;omega
   ·cases h2
end
section
open Go.RowKit
variable {B g:Nat}{L:List Tk}{w w':World}{R R':Bx}{d:Nat}{o o':Except Qq PS}
def Any (B g:Nat) (L:List Tk) (w:World) (R:Bx) (d:Nat):Except Qq PS->Prop
 | .ok s=>Good B g L w R d s
 | .error f=>Bad B g L w R d f
def toO:Out->Except Qq PS
 | .ok (_,s)=>.ok s
 | .error f=>.error f
def Qt:Out->Int
 | .ok (l,_)=>hd1 l
 | .error _=> -1
def Does (o:Except Qq PS) (F:PS->Nat->Option Out) (v:Out):Prop:=match o with
 | .ok s=>Ev (F s) v
 | .error f=>v= .error f
def Qc (o:Except Qq PS) (n m:Nat):Prop:= ∀s,o= .ok s->s.l.length+s.r.length<=n/\s.r.length<=m
theorem Qc.mono {n m n' m':Nat} (h:Qc o n m) (h1:n<=n') (h2:m<=m'):Qc o n' m':=λs e=>⟨by have:=(h s e).1;omega,by have:=(h s e).2;omega⟩
theorem Qc.self {n m:Nat} (h:Qc o n m):Qc o n n:=λs e=>⟨(h s e).1,by have:=(h s e).1;omega⟩
theorem Qc.err {f:Qq} {n m:Nat}:Qc (.error f) n m:=λs e=>by cases e
theorem Any.below (H:Any B g L w R d o) (hb:Below w.heap.size w w'):Any B g L w' R d o:=by
 cases o with
 |ok s=>exact Good.below H hb
 |error f=>exact Bad.below H hb
theorem Any.core (H:Any B g L w R d o): ∃p l h e q,Rd B g L w R p (d:Int) l h e q:=by
 cases o with
 |ok s=>obtain ⟨p,l,h,_⟩:=H;exact ⟨_,_,_,_,_,h⟩
 |error f=>obtain ⟨p,l,h,H,_⟩:=H;exact ⟨_,_,_,_,_,H⟩
theorem Any.held {G:Nat} {t:TypeId} {cs:Array Value} (H:Any B g L w R d o) (F:Fr g w w' R R') (h:Held w G t cs) (h1:t≠98) (h2:t≠3) (hv:R.vn.ownBlock≠some G):Held w' G t cs:=by
 obtain ⟨p,l,hh,e,q,H⟩:=H.core;refine h.block (F.block G h.lt ?_ hv (Yr H.hts h (λe=>h2 e.symm)));intro e;subst e;have h4:w.heap[G]? =_:=H.box;have h5:w.heap[G]? =_:=h;rw [h4]at h5;injection h5 with h6
 injection h6 with _ h7
 exact h1 h7.symm
theorem Any.Lj {G:Nat} {t:TypeId} {cs:Array Value} (H:Any B g L w R d o) (h:Held w G t cs) (h2:t≠37):R.vn.ownBlock≠some G:=by obtain ⟨p,l,hh,e,q,H⟩:=H.core;exact Yr H.own h (λe=>h2 e.symm)
theorem Any.tabs (H:Any B g L w R d o):Co w:=by obtain ⟨p,l,hh,e,q,H⟩:=H.core;exact H.tabs
theorem Any.Uf (H:Any B g L w R d o) (F:Fr g w w' R R'):Below B w w':=by obtain ⟨p,l,hh,e,q,H⟩:=H.core;exact H.toCore.Uf F
theorem Any.low (H:Any B g L w R d o) (F:Fr g w w' R R') {k:Nat} (hk:k<Vw):w'.heap[k]? =w.heap[k]?:=by obtain ⟨p,l,hh,e,q,H⟩:=H.core;exact (H.toCore.Uf F).block k (by have:=H.base;omega)
theorem Any.many (H:Any B g L w R d o):L.length<=100000:=by obtain ⟨p,l,hh,e,q,H⟩:=H.core;exact H.many
theorem Any.less (H:Any B g L w R d o) (Z':Nat->Prop) (hz: ∀k,Z' k->R.Z k):Any B g L w {R with Z:=Z'} d o:=by
 cases o with
 |ok s=>exact Good.less H Z' hz
 |error f=>exact Bad.less H Z' hz
theorem Any.wider {B' n:Nat} {W1:World} {v:Value} {xs:List Value} (H:Any B g L w R d o) (hW1:Below w.heap.size w W1) (hv:W1.ownsRow B' 3 1 v n xs) (hB':Vw<=B') (hz: ∀k,v.ownBlock=some k->R.Z k) (hg:W1.grownBy w' v.ownBlock) (Z':Nat->Prop) (hz': ∀k,Z' k->R.Z k\/(w.heap.size<=k/\k<w'.heap.size)):Any B g L w' {R with Z:=Z'} d o:=by
 cases o with
 |ok s=>exact Good.wider H hW1 hv hB' hz hg Z' hz'
 |error f=>exact Bad.wider H hW1 hv hB' hz hg Z' hz'
theorem Q7v (w:World) (r:Option Nat):w.grownBy w r:=⟨rfl,rfl,rfl,Qh _,λ_ _ _=>rfl⟩
theorem Any.widen (H:Any B g L w R d o) (hW1:Below w.heap.size w w') (Z':Nat->Prop) (hz': ∀k,Z' k->R.Z k\/(w.heap.size<=k/\k<w'.heap.size)):Any B g L w' {R with Z:=Z'} d o:=
 H.wider (B':=Vw) (n:=0) (xs:=[]) (v:=.slice none 0 0) hW1 ⟨rfl,.inl ⟨rfl,rfl⟩⟩ (Qh _) (λk hk=>by simp [Value.ownBlock]at hk) (Q7v _ _) Z' hz'
theorem Rd.other {N p:Nat} {d e q:Int} {l:List Nd} {h:List Nat} {cs:Array Value} (H:Rd B g L w R p d l h e q) (hN:Held w N 37 cs) (hne:R.vn.ownBlock≠some N) (hx:Vw<=N) (hg:w.grownBy w' (some N)):Rd B g L w' R p d l h e q:=by
 obtain ⟨cs',fz,hty⟩:=H.ty;have hgN:g≠N:=by
  intro e;subst e;have h4:w.heap[g]? =_:=H.box;have h5:w.heap[g]? =_:=hN;rw [h4]at h5;injection h5 with h6
  injection h6 with _ h7
  exact absurd h7 (by decide)
 have htN:R.tb≠N:=by
  intro e;rw [e]at hty;have h5:w.heap[N]? =_:=hN;rw [hty]at h5;injection h5 with h6
  injection h6 with _ h7
  exact absurd h7 (by decide)
 have K: ∀k,k≠N->k<w.heap.size->w'.heap[k]? =w.heap[k]?:=λk hk hs=>hg.block k hs (λe=>hk (by injection e));have htb:=K R.tb htN H.Jh;refine ⟨⟨H.box.block (K g hgN H.box.lt),H.toks.block htb,Fe H.Jh hg.size,H.told,⟨cs',fz,htb.trans hty⟩,World.ownsRow.kept H.own hg (.inr hne),World.ownsRow.kept H.hts hg (.inr (Yr H.hts hN (by decide))),λx hx=>World.ownsRow.kept (H.kids x hx) hg (.inr (Yr (H.kids x hx) hN (by decide))),H.off,H.old,H.fin,H.many,
  H.tabs.keep (λk hk=>K k (by omega) (by have:=H.tabs.size;omega)),H.base,λk hk=>⟨Fe (H.zone k hk).1 hg.size,(H.zone k hk).2⟩⟩,H.len,H.here,H.few,H.low⟩
theorem Any.other {N:Nat} {cs:Array Value} (H:Any B g L w R d o) (hN:Held w N 37 cs) (hne:R.vn.ownBlock≠some N) (hx:Vw<=N) (hg:w.grownBy w' (some N)):Any B g L w' R d o:=by
 cases o with
 |ok s=>obtain ⟨p,l,h,r⟩:=H;exact ⟨p,l,h.other hN hne hx hg,r⟩
 |error f=>obtain ⟨p,l,h,H,r⟩:=H;exact ⟨p,l,h,H.other hN hne hx hg,r⟩
theorem Fr.other {N:Nat} {w0:World} {R0:Bx} (F:Fr g w0 w R0 R) (hN:w0.heap.size<=N) (hg:w.grownBy w' (some N)):Fr g w0 w' R0 R:=by refine ⟨hg.os.trans F.os,hg.tape.trans F.tape,hg.output.trans F.output,F7 F.size hg.size,?_,F.vn,F.vh⟩;intro k hk h1 h2 h3;rw [hg.block k (by have:=F.size;omega) (λe=>by injection e with e;omega),F.block k hk h1 h2 h3]
def Lu (x a:Nat):Except Qq PS->Except Qq PS
 | .ok _=>.error (x,a)
 | .error f=>.error f
def Gy (d a:Nat):Except Qq PS->Except Qq PS
 | .ok s=>if 200<=d then .error (4,a)else .ok s
 | .error f=>.error f
def Yv (b:List UInt8):Except Qq PS->Except Qq PS
 | .ok s=>if s.is b then .ok s.next else .error (8,s.tok.place)
 | .error f=>.error f
def Vg:Except Qq PS->Except Qq PS
 | .ok s=>if s.tok.kind=1 then .ok s.next else .error (8,s.tok.place)
 | .error f=>.error f
def Cj:Except Qq PS->ByteArray
 | .ok s=>if s.tok.kind=1 then ⟨s.tok.text.toArray⟩else ⟨#[]⟩
 | .error f=>⟨#[]⟩
theorem Oq {b:List UInt8} {s:PS} (h:s.is b=true):Yv b (.ok s)= .ok s.next:=Qk h
theorem Ov {b:List UInt8} {s:PS} (h:s.is b=false):Yv b (.ok s)= .error (8,s.tok.place):=Qd (by rw [h];decide)
theorem Qkd {s:PS} (h:s.tok.kind=1):Vg (.ok s)= .ok s.next:=Qk h
theorem Qcr {s:PS} (h:s.tok.kind≠1):Vg (.ok s)= .error (8,s.tok.place):=Qd h
theorem Qvv {s:PS} (h:s.tok.kind=1):Cj (.ok s)=⟨s.tok.text.toArray⟩:=Qk h
theorem Qyc {s:PS} (h:s.tok.kind≠1):Cj (.ok s)=⟨#[]⟩:=Qd h
theorem Ry {d a:Nat} {s:PS} (h:200<=d):Gy d a (.ok s)= .error (4,a):=Qk h
theorem Un {d a:Nat} {s:PS} (h: ¬200<=d):Gy d a (.ok s)= .ok s:=Qd h
theorem Does.need {b:List UInt8} {G:PS->Nat->Option Out} {v:Out} (h:Does (Yv b o) G v):Does o (λs n=>Qm b s (λs1=>G s1 n)) v:=by
 cases o with
 |error f=>exact h
 |ok s=>
  cases hb:s.is b with
  |true=>rw [Oq hb]at h;exact Ev.need (f:=λn s1=>G s1 n) hb h
  |false=>rw [Ov hb]at h;rw [show v=_ from h];exact Ev.Q3h (f:=λn s1=>G s1 n) hb
theorem Qc.need {b:List UInt8} {n m:Nat} (h:Qc o (n+1) (m+1)):Qc (Yv b o) n m:=by
 cases o with
 |error f=>exact Qc.err
 |ok s=>
  cases hb:s.is b with
  |true=>
   rw [Oq hb];intro s' e;injection e with e
   subst e;have h1:=h s rfl;have h2:=Ve hb;have h3:s.next.l=s.l:=rfl;rw [h3];exact ⟨by omega,by omega⟩
  |false=>rw [Ov hb];exact Qc.err
theorem Does.name {a:Nat} {G:ByteArray->Nat->PS->Nat->Option Out} {v:Out} (ha: ∀s,o= .ok s->a=s.tok.place) (h:Does (Vg o) (G (Cj o) a) v):Does o (λs n=>Xf s (λx y s1=>G x y s1 n)) v:=by
 cases o with
 |error f=>exact h
 |ok s=>
  have ha:=ha s rfl;subst ha;by_cases hb:s.tok.kind=1
  ·rw [Qkd hb,Qvv hb]at h;exact Ev.name (f:=λn x y s1=>G x y s1 n) hb h
  ·rw [Qcr hb]at h;rw [show v=_ from h];exact Ev.Qvz (f:=λn x y s1=>G x y s1 n) hb
theorem Qc.name {n m:Nat} (h:Qc o (n+1) (m+1)):Qc (Vg o) n m:=by
 cases o with
 |error f=>exact Qc.err
 |ok s=>
  by_cases hb:s.tok.kind=1
  ·rw [Qkd hb];intro s' e;injection e with e
   subst e;have h1:=h s rfl;have h2:=Cr (s:=s) (by omega);have h3:s.next.l=s.l:=rfl;rw [h3];exact ⟨by omega,by omega⟩
  ·rw [Qcr hb];exact Qc.err
theorem Does.go {F:PS->Nat->Option Out} {G:Int->PS->Nat->Option Out} {v1 v:Out} (h1:Does o F v1) (h:Does (toO v1) (G (Qt v1)) v):Does o (λs n=>Out.go (F s n) (λp s1=>G (hd1 p) s1 n)) v:=by
 cases o with
 |error f=>rw [show v1=_ from h1]at h;exact h
 |ok s=>
  match v1,h1,h with
  | .error f,h1,h=>rw [show v=_ from h];exact Ev.Qis (f:=λn p s1=>G (hd1 p) s1 n) h1
  | .ok (p,s1),h1,h=>exact Ev.go (f:=λn p s1=>G (hd1 p) s1 n) h1 h
theorem Does.go' {F:PS->Nat->Option Out} {G:List Int->PS->Nat->Option Out} {v1 v:Out} {q:List Int} (h1:Does o F v1) (hq: ∀p s,v1= .ok (p,s)->q=p) (h:Does (toO v1) (G q) v):Does o (λs n=>Out.go (F s n) (λp s1=>G p s1 n)) v:=by
 cases o with
 |error f=>rw [show v1=_ from h1]at h;exact h
 |ok s=>
  match v1,h1,hq,h with
  | .error f,h1,hq,h=>rw [show v=_ from h];exact Ev.Qis (f:=λn p s1=>G p s1 n) h1
  | .ok (p,s1),h1,hq,h=>obtain rfl:=hq p s1 rfl;exact Ev.go (f:=λn p s1=>G p s1 n) h1 h
theorem Does.ex {G:Int->PS->Nat->Option Out} {v1 v:Out} (h1:Does o (λs n=>Qg n (.chain 0) d s) v1) (h:Does (toO v1) (G (Qt v1)) v):Does o (λs n=>Wy n d s (λa s1=>G a s1 n)) v:=Does.go (G:=G) h1 h
theorem Does.Pw {m:Md} {v:Out} {s:PS} (h:Reads m d s v):Does (.ok s) (λs n=>Qg n m d s) v:=h.ev
structure Came (B g:Nat) (L:List Tk) (w:World) (R:Bx) (d:Nat) (v:Out) (en:Ending) (w':World) (R':Bx):Prop where
 fr:Fr g w w' R R'
 z:R'.Z=R.Z
 en:en= .returned (.int .i64 (Qt v))
 any:Any B g L w' R' d (toO v)
theorem Ends.came {v:Out} {en:Ending} (h:Ends B g L w R d v en w'): ∃R',Came B g L w R d v en w' R':=by
 obtain ⟨R',hf,hz,hv⟩:=h;rcases hv with ⟨k,s1,rfl,rfl,hg⟩ |⟨f,rfl,rfl,hg⟩
 ·exact ⟨R',hf,hz,rfl,hg⟩
 ·exact ⟨R',hf,hz,rfl,hg⟩
theorem Qic (H:Any B g L w R d o) (hd: ∀s,o= .ok s->d<=200):
  Calls prog 94 #[.pointer (some ⟨g,0,none⟩)] w λen w'=> ∃v R',Does o (λs n=>Qg n (.chain 0) d s) v/\Came B g L w R d v en w' R'/\ ∀n m,Qc o n m->Qc (toO v) n m:=by
 cases o with
 |ok s=>
  refine (Wk3 H (hd s rfl)).mono ?_;rintro en w' ⟨v,hrd,he⟩;obtain ⟨R',hc⟩:=Ends.came he;refine ⟨v,R',Does.Pw hrd,hc,λn m hl=> ?_⟩
  match v,hrd with
  | .error f,_=>exact Qc.err
  | .ok (p,s1),hrd=>
   intro s' e;injection e with e
   subst e;have h1:=hl s rfl;have h2:=hrd.N7;exact ⟨by omega,by omega⟩
 |error f=>
  refine (Qi9 H).mono ?_;rintro en w' ⟨rfl,hb⟩;exact ⟨.error f,R,rfl,⟨Fr.of_below R hb,rfl,rfl,Bad.below H hb⟩,λn m _=>Qc.err⟩
theorem Qb0 (b:List UInt8) (H:Any B g L w R d o):
  Calls prog 97 #[.pointer (some ⟨g,0,none⟩),.string ⟨b.toArray⟩] w λen w'=>(∃x,en= .returned x)/\Any B g L w' R d (Yv b o)/\Fr g w w' R R:=by
 cases o with
 |ok s=>
  cases hb:s.is b with
  |true=>rw [Oq hb];exact (Qj2 b H hb).mono λen w' ⟨h1,h2,h3⟩=>⟨⟨_,h1⟩,h2,h3⟩
  |false=>rw [Ov hb];exact (Qg5 b H hb).mono λen w' ⟨h1,h2,h3⟩=>⟨⟨_,h1⟩,h2,h3⟩
 |error f=>exact (Qe4 b H).mono λen w' ⟨h1,h2⟩=>⟨⟨_,h1⟩,Bad.below H h2,Fr.of_below R h2⟩
theorem Wc8 (H:Any B g L w R d o):
  Calls prog 127 #[.pointer (some ⟨g,0,none⟩)] w λen w'=>en= .returned (.string (Cj o))/\Any B g L w' R d (Vg o)/\Fr g w w' R R:=by
 cases o with
 |ok s=>
  by_cases hb:s.tok.kind=1
  ·rw [Qkd hb,Qvv hb];exact Q20 H hb
  ·rw [Qcr hb,Qyc hb];exact Q6s H hb
 |error f=>exact (Qtv H).mono λen w' ⟨h1,h2⟩=>⟨h1,Bad.below H h2,Fr.of_below R h2⟩
theorem Qdl (H:Any B g L w R d o):
  Calls prog 61 #[.pointer (some ⟨g,0,none⟩)] w λen w'=> ∃(k n a:Nat) (x:ByteArray),en= .returned (.agg #[.int .i64 (k:Int),.string x,.int .i64 (n:Int),.int .i64 (a:Int)])/\(∀s,o= .ok s->k=s.tok.kind/\a=s.tok.place)/\Below w.heap.size w w':=by
 cases o with
 |ok s=>exact (Qbx H).mono λen w' ⟨h1,h2⟩=>⟨_,_,_,_,h1,(λs' e=>by injection e with e;subst e;exact ⟨rfl,rfl⟩),h2⟩
 |error f=>exact (Qki H).mono λen w' ⟨k,n,a,x,h1,h2⟩=>⟨k,n,a,x,h1,(λs' e=>by cases e),h2⟩
theorem Qjg (x a:Nat) (hx:x≠0) (H:Any B g L w R d o):
  Calls prog 60 #[.pointer (some ⟨g,0,none⟩),.int .i64 (x:Int),.int .i64 (a:Int)] w λen w'=>(∃v,en= .returned v)/\Any B g L w' R d (Lu x a o)/\Fr g w w' R R:=by
 cases o with
 |ok s=>exact Q6t x a hx H
 |error f=>exact (Wcz x a hx H).mono λen w' ⟨h1,h2⟩=>by subst h2;exact ⟨h1,H,Fr.of_below R (Below.refl _ _)⟩
theorem Wh8 (a:Nat) (H:Any B g L w R d o) (hd2:d<=1000):
  Calls prog 129 #[.pointer (some ⟨g,0,none⟩),.int .i64 (a:Int)] w λen w'=>(∃x,en= .returned x)/\Any B g L w' R (d+1) (Gy d a o)/\Fr g w w' R R:=by
 cases o with
 |ok s=>
  by_cases hd:200<=d
  ·rw [Ry hd];exact (Qm7 a H hd hd2).mono λen w' ⟨h1,h2⟩=>⟨⟨_,h1⟩,h2⟩
  ·rw [Un hd];exact (Qlu a H (by omega)).mono λen w' ⟨h1,h2⟩=>⟨⟨_,h1⟩,h2⟩
 |error f=>exact (Qu7 a H hd2).mono λen w' ⟨h1,h2⟩=>⟨⟨_,h1⟩,h2⟩
theorem Q2g (H:Any B g L w R (d+1) o) (hd2:d<=1000):
  Calls prog 131 #[.pointer (some ⟨g,0,none⟩)] w λen w'=>(∃x,en= .returned x)/\Any B g L w' R d o/\Fr g w w' R R:=by
 cases o with
 |ok s=>exact Qnm H hd2
 |error f=>exact Pg H hd2
theorem G5 (b:List UInt8) (H:Any B g L w R d o):
  Calls prog 96 #[.pointer (some ⟨g,0,none⟩),.string ⟨b.toArray⟩] w λen w'=> ∃(c:Bool) (o':Except Qq PS),en= .returned (.bool c)/\Any B g L w' R d o'/\Fr g w w' R R/\
   ((c=true/\ ∃s,o= .ok s/\s.is b=true/\o'= .ok s.next)\/(c=false/\o'=o/\ ∀s,o= .ok s->s.is b=false)):=by
 cases o with
 |ok s=>
  cases hb:s.is b with
  |true=>exact (Qbh b H hb).mono λen w' ⟨h1,h2,h3⟩=>⟨true,.ok s.next,h1,h2,h3,.inl ⟨rfl,s,rfl,hb,rfl⟩⟩
  |false=>exact (Qbi b H hb).mono λen w' ⟨h1,h2⟩=>⟨false,.ok s,h1,Good.below H h2,Fr.of_below R h2,.inr ⟨rfl,rfl,λs' e=>by injection e with e;subst e;exact hb⟩⟩
 |error f=>exact (Nz b H).mono λen w' ⟨h1,h2⟩=>⟨false,.error f,h1,Bad.below H h2,Fr.of_below R h2,.inr ⟨rfl,rfl,λs' e=>by cases e⟩⟩
theorem Qmu (b:List UInt8) (H:Any B g L w R d o):
  Calls prog 59 #[.pointer (some ⟨g,0,none⟩),.string ⟨b.toArray⟩] w λen w'=> ∃c:Bool,en= .returned (.bool c)/\Below w.heap.size w w'/\((c=true/\ ∃s,o= .ok s/\s.is b=true)\/(c=false/\ ∀s,o= .ok s->s.is b=false)):=by
 cases o with
 |ok s=>
  refine (Qhp b H).mono λen w' ⟨h1,h2⟩=>⟨s.is b,h1,h2,?_⟩;cases hb:s.is b with
  |true=>exact .inl ⟨rfl,s,rfl,hb⟩
  |false=>exact .inr ⟨rfl,λs' e=>by injection e with e;subst e;exact hb⟩
 |error f=>exact (Qck b H).mono λen w' ⟨h1,h2⟩=>⟨false,h1,h2,.inr ⟨rfl,λs' e=>by cases e⟩⟩
theorem Ob {B':Nat} (K:Int) (v:Value) (acc:List Int) (n:Int) (S:ByteArray) (a:Nat) (H:Any B g L w R d o) (hk:Now B' w v acc) (hl:Qc o L.length L.length) (hn:acc.length<=100000):
  Calls prog 63 #[.pointer (some ⟨g,0,none⟩),.agg #[.int .i64 K,v,.int .i64 n,.string S,.int .i64 (a:Int)]] w λen w'=> ∃u R',Does o (λs _=>some (lay (En K acc n S (a:Int)) s)) u/\Came B g L w R d u en w' R'/\ ∀n m,Qc o n m->Qc (toO u) (n+1) m:=by
 obtain ⟨ka,kc,rfl⟩:=Zq hk;cases o with
 |ok s=>
  refine (Qey ⟨K,ka,kc,acc,n,S,(a:Int)⟩ a H hk (hl s rfl).1 hn rfl).mono ?_;intro en w' he;obtain ⟨R',hc⟩:=Ends.came he;refine ⟨_,R',Ev.const,hc,λn' m hl=> ?_⟩;show Qc (toO (lay _ s)) _ _;unfold lay;by_cases h2:200<high s.h acc
  ·rw [Qk (by exact h2)];exact Qc.err
  ·rw [Qd (by exact h2)];intro s' e;injection e with e
   subst e;have h1:=hl s rfl;exact ⟨by show (s.l++[_]).length+s.r.length<=_;rw [Qf,Yw];omega,h1.2⟩
 |error f=>
  refine (Mx _ _ _ _ _ H).mono ?_;rintro en w' ⟨rfl,hb⟩;exact ⟨.error f,R,rfl,⟨Fr.of_below R hb,rfl,rfl,Bad.below H hb⟩,λn m _=>Qc.err⟩
end
section
variable {o:Except Qq PS}{d:Nat}{v u:Out}{b:List UInt8}{s:PS}
def F3:Except Qq PS->Except Qq PS
 | .ok s=>if Yt s.tok=0 then .error (8,s.tok.place)else .ok s.next
 | .error f=>.error f
def Lv:Except Qq PS->Nat
 | .ok s=>Yt s.tok
 | .error f=>0
theorem Qd5 (h:Yt s.tok=0):F3 (.ok s)= .error (8,s.tok.place):=Qk h
theorem U4 (h:Yt s.tok≠0):F3 (.ok s)= .ok s.next:=Qd h
theorem Zi {t:Tk} {a:List UInt8} (h:sees t a=true) (hne:a≠b):sees t b=false:=by unfold sees at h ⊢;simp only [Yo,beq_iff_eq]at h;rw [h.2];simp [hne]
theorem Qu1 {t:Tk} (h:Yt t≠0):t.kind≠0:=by
 unfold Yt at h;split at h
 ·rename_i g;exact Dc g
 ·split at h
  ·rename_i g;exact Dc g
  ·split at h
   ·rename_i g;exact Dc g
   ·exact absurd rfl h
theorem Does.kind {G:Nat->PS->Nat->Option Out} (h:Does (F3 o) (G (Lv o)) v):Does o (λs n=>V3 s (λk s1=>G k s1 n)) v:=by
 cases o with
 |error f=>exact h
 |ok s=>
  by_cases hb:Yt s.tok=0
  ·rw [Qd5 hb]at h;rw [show v=_ from h];exact Ev.Wd8 (f:=λn k s1=>G k s1 n) hb
  ·rw [U4 hb]at h;exact Ev.kind (f:=λn k s1=>G k s1 n) hb h
theorem Qc.kind {n m:Nat} (h:Qc o (n+1) (m+1)):Qc (F3 o) n m:=by
 cases o with
 |error f=>exact Qc.err
 |ok s=>
  by_cases hb:Yt s.tok=0
  ·rw [Qd5 hb];exact Qc.err
  ·rw [U4 hb];intro s' e;injection e with e
   subst e;have h1:=h s rfl;have h2:=Cr (Qu1 hb);have h3:s.next.l=s.l:=rfl;rw [h3];exact ⟨by omega,by omega⟩
theorem Qc.Qjb {n m:Nat} (h:Qc o n m):Qc (F3 o) n m:=by
 cases o with
 |error f=>exact Qc.err
 |ok s=>
  by_cases hb:Yt s.tok=0
  ·rw [Qd5 hb];exact Qc.err
  ·have h1:=h s rfl;have h2:=Cr (Qu1 hb);exact ((Qc.kind (n:=n-1) (m:=m-1) (h.mono (by omega) (by omega))).mono (by omega) (by omega))
theorem Qc.next {n m:Nat} (h:Qc (.ok s) (n+1) (m+1)) (hb:s.is b=true):Qc (.ok s.next) n m:=by have:=Qc.need (b:=b) h;rw [Oq hb]at this;exact this
theorem Qc.Fh {n m:Nat} (h:Qc (.ok s) n m) (hb:s.is b=true):Qc (.ok s.next) (n-1) (m-1):=by have h1:=h s rfl;have h2:=Ve hb;exact Qc.next (h.mono (by omega) (by omega)) hb
theorem Does.Qmj {X Y:PS->Nat->Option Out} (hs:o= .ok s) (hb:s.is b=true) (h:Does (.ok s.next) X u):Does o (λs n=>if s.is b then X s.next n else Y s n) u:=by subst hs;exact Ev.Pb (F:=λn=>X s.next n) (G:=λn=>Y s n) hb h
theorem Does.Qm8 {X Y:PS->Nat->Option Out} (hs:o= .ok s) (hb:s.is b=true) (h:Does (.ok s) X u):Does o (λs n=>if s.is b then X s n else Y s n) u:=by subst hs;exact Ev.Pb (F:=λn=>X s n) (G:=λn=>Y s n) hb h
theorem Does.O4 {X Y:PS->Nat->Option Out} (hb: ∀s,o= .ok s->s.is b=false) (h:Does o Y u):Does o (λs n=>if s.is b then X s n else Y s n) u:=by
 cases o with
 |error f=>exact h
 |ok s=>exact Ev.Gi (F:=λn=>X s n) (G:=λn=>Y s n) (by rw [hb s rfl];decide) h
theorem Does.left {m:Pm} (hm: ∀acc,m≠ .prog acc) (h:Does o (λs n=>Qac n m d s) u) (n k:Nat) (hl:Qc o n k):Qc (toO u) n k:=by
 cases o with
 |error f=>rw [show u=_ from h];exact Qc.err
 |ok s=>
  match u,h with
  | .error f,_=>exact Qc.err
  | .ok (p,s1),h=>
   intro s' e;injection e with e
   subst e;obtain ⟨n0,hn⟩:=h;have h1:=Qs.left hm ⟨n0,hn n0 (Qh _)⟩;have h2:=hl s rfl;have h3:=h1.all;have h4:=h1.toks;exact ⟨by omega,by omega⟩
theorem Does.to_preads {m:Pm} (h:Does (.ok s) (λs n=>Qac n m d s) u):Qs m d s u:=by obtain ⟨n,hn⟩:=h;exact ⟨n,hn n (Qh _)⟩
theorem Qxl {t:Tk} (h:sees t Jj=true):Xc t=1:=Qk h
theorem Q47 {t:Tk} (h:sees t Kc=true):Xc t=2:=by unfold Xc;rw [Zi h (show _≠Jj by decide),h];rfl
theorem Q23 {t:Tk} (h:sees t Ju=true):Xc t=3:=by unfold Xc;rw [Zi h (show _≠Jj by decide),Zi h (show _≠Kc by decide),h];rfl
theorem Qwu {t:Tk} (h:sees t Jy=true):Xc t=4:=by unfold Xc;rw [Zi h (show _≠Jj by decide),Zi h (show _≠Kc by decide),Zi h (show _≠Ju by decide),h];rfl
theorem Q01 {t:Tk} (h:sees t Ap=true):Xc t=5:=by unfold Xc;rw [Zi h (show _≠Jj by decide),Zi h (show _≠Kc by decide),Zi h (show _≠Ju by decide),Zi h (show _≠Jy by decide),h];rfl
theorem Q77 {t:Tk} (h:sees t Bp=true):Xc t=6:=by unfold Xc;rw [Zi h (show _≠Jj by decide),Zi h (show _≠Kc by decide),Zi h (show _≠Ju by decide),Zi h (show _≠Jy by decide),Zi h (show _≠Ap by decide),h];rfl
theorem Q4k {t:Tk} (h:sees t Ck=true):Xc t=7:=by unfold Xc;rw [Zi h (show _≠Jj by decide),Zi h (show _≠Kc by decide),Zi h (show _≠Ju by decide),Zi h (show _≠Jy by decide),Zi h (show _≠Ap by decide),Zi h (show _≠Bp by decide),h];rfl
theorem Qy0 {t:Tk} (h:sees t Ae=true):Xc t=8:=by unfold Xc;rw [Zi h (show _≠Jj by decide),Zi h (show _≠Kc by decide),Zi h (show _≠Ju by decide),Zi h (show _≠Jy by decide),Zi h (show _≠Ap by decide),Zi h (show _≠Bp by decide),Zi h (show _≠Ck by decide),h];rfl
def Fw (i:Nat):List UInt8:=[Jj,Ae,Ck,Kc,Ju,Jy,Ap,Bp].getD i []
theorem Q5w (h: ∀j,j<8->s.is (Fw j)=false):Xc s.tok=0:=by have h0:sees s.tok Jj=false:=h 0 (by decide);have h1:sees s.tok Ae=false:=h 1 (by decide);have h2:sees s.tok Ck=false:=h 2 (by decide);have h3:sees s.tok Kc=false:=h 3 (by decide);have h4:sees s.tok Ju=false:=h 4 (by decide);have h5:sees s.tok Jy=false:=h 5 (by decide);have h6:sees s.tok Ap=false:=h 6 (by decide);have h7:sees s.tok Bp=false:=h 7 (by decide);unfold Xc;rw [h0,h1,h2,h3,h4,h5,h6,h7];rfl
def Te (i:Nat):List UInt8:=[[],Qb7,Qdz,Qfe].getD i []
theorem Q2z (h: ∀j,1<=j->j<4->s.is (Te j)=false):Yt s.tok=0:=by have h1:sees s.tok Qb7=false:=h 1 (by decide) (by decide);have h2:sees s.tok Qdz=false:=h 2 (by decide) (by decide);have h3:sees s.tok Qfe=false:=h 3 (by decide) (by decide);unfold Yt;rw [h1,h2,h3];rfl
theorem Qfd {i:Nat} (h1:1<=i) (h4:i<4) (h:s.is (Te i)=true):Yt s.tok=i:=by
 have hh:sees s.tok (Te i)=true:=h;unfold Yt
 match i,h1,h4,hh with
 | 1,_,_,hh=>rw [show sees s.tok Qb7=true from hh];rfl
 | 2,_,_,hh=>rw [Zi hh (show _≠Qb7 by decide),show sees s.tok Qdz=true from hh];rfl
 | 3,_,_,hh=>rw [Zi hh (show _≠Qb7 by decide),Zi hh (show _≠Qdz by decide),show sees s.tok Qfe=true from hh];rfl
theorem Rn {X:Nat->Bool} {l i:Nat} (h: ∀j,l<=j->j<i->X j=false) (hi:X i=false): ∀j,l<=j->j<i+1->X j=false:=by
 intro j h1 h2;rcases V7 j i with h3 |h3
 ·exact h j h1 h3
 ·have:j=i:=by omega
  rw [this];exact hi
def Om (v:Out):Prop:= ∀l s',v= .ok (l,s')->0<=hd1 l
theorem Qle {e:Qq}:Om (.error e):=λl s' h=>by cases h
theorem Oc {x:Nd} (h:some (lay x s)=some v):Om v:=by
 injection h with h
 subst h;unfold lay;split
 ·exact Qle
 ·intro l s' e;injection e with e
  injection e with e1 e2
  subst e1;show (0:Int)<=((s.l.length:Nat):Int);omega
theorem M7 {f:PS->Option Out} (h:Qm b s f=some v) (g: ∀s1,f s1=some v->Om v):Om v:=by
 unfold Qm at h;split at h
 ·exact g _ h
 ·injection h with h;subst h;exact Qle
theorem Qqd {f:ByteArray->Nat->PS->Option Out} (h:Xf s f=some v) (g: ∀x y s1,f x y s1=some v->Om v):Om v:=by
 unfold Xf at h;split at h
 ·exact g _ _ _ h
 ·injection h with h;subst h;exact Qle
theorem Qdo {F:Option Out} {f:List Int->PS->Option Out} (h:Out.go F f=some v) (g: ∀p s1,f p s1=some v->Om v):Om v:=by
 rcases go_ok h with ⟨e,h1,rfl⟩ |⟨p,s1,h1,h2⟩
 ·exact Qle
 ·exact g _ _ h2
theorem Qan {n:Nat} {f:Int->PS->Option Out} (h:Wy n d s f=some v) (g: ∀a s1,f a s1=some v->Om v):Om v:=Qdo h (λp s1 h=>g _ _ h)
theorem Wob {n:Nat} (h:Qac n .stmt d s=some v):Om v:=by
 cases n with
 |zero=>cases h
 |succ n=>
  rw [Qac]at h;split at h
  ·exact Qqd h λ_ _ _ h=>M7 h λ_ h=>Qan h λ_ _ h=>M7 h λ_ h=>Oc h
  ·exact Qqd h λ_ _ _ h=>M7 h λ_ h=>Qan h λ_ _ h=>M7 h λ_ h=>Qan h λ_ _ h=>Qdo h λ_ _ h=>Oc h
  ·exact M7 h λ_ h=>Oc h
  ·exact M7 h λ_ h=>Oc h
  ·exact Qan h λ_ _ h=>M7 h λ_ h=>Oc h
  ·exact Qan h λ_ _ h=>M7 h λ_ h=>Oc h
  ·exact Qan h λ_ _ h=>Qdo h λ_ _ h=>Oc h
  ·refine Qan h λ_ _ h=>Qdo h λ_ _ h=> ?_;split at h
   ·exact Qdo h λ_ _ h=>Oc h
   ·exact Oc h
  ·refine Qqd h λ_ _ _ h=> ?_;split at h
   ·exact Qdo h λ_ _ h=>M7 h λ_ h=>Oc h
   ·split at h
    ·exact Qdo h λ_ _ h=>M7 h λ_ h=>Qan h λ_ _ h=>M7 h λ_ h=>Oc h
    ·exact M7 h λ_ h=>Qan h λ_ _ h=>M7 h λ_ h=>Oc h
theorem Does.Wk5 (h:Does o (λs n=>Qac n .stmt d s) u):Om u:=by
 cases o with
 |error f=>rw [show u=_ from h];exact Qle
 |ok s=>obtain ⟨n,hn⟩:=h;exact Wob (hn n (Qh _))
theorem Does.st {F:PS->Nat->Option Out} (hE: ∀s,o= .ok s-> ∀v,Ev (F s) v->Qs .stmt d s v) (h:Does o F u):Does o (λs n=>Qac n .stmt d s) u:=by
 cases o with
 |error f=>exact h
 |ok s=>exact (hE s rfl u h).ev
end
end Go.Proofs.YtdncpkkhkbijfaaGreatDoor
