import Derived.Test.YtdncpkkhkbijfaaGreatDoorBa5
import Derived.StillTailTactics
import Derived.Laws.BitsAllLaws
import Derived.Laws.EntriesVeiled
open Go.Proofs.Tryz
set_option linter.all false
set_option maxHeartbeats 0
set_option maxRecDepth 100000
namespace Go.Proofs.YtdncpkkhkbijfaaGreatDoor
section
open Go.RowKit
structure Env (w0 w:World) (a:Option Addr) (l:List Nd) (n c g hb lb rb:Nat):Prop where
 nodes:Nodes w0 a l
 below:Below w0.heap.size w0 w
 old:w0.heap.size<=g
 hc:w.cell? ⟨hb,0,none⟩=some (.slice (some ⟨g,0,none⟩) n n)
 lc:w.cell? ⟨lb,0,none⟩=some (.slice a n c)
 rc:w.cell? ⟨rb,0,none⟩=some (.func (.func 139) #[] #[.pointer (some ⟨hb,0,none⟩),.pointer (some ⟨lb,0,none⟩),.pointer (some ⟨rb,0,none⟩)])
 hn:hb≠g
 ln:lb≠g
 rn:rb≠g
theorem Qsy {g b o:Nat} {w w':World} (h:But g w w') (hb:b≠g):w'.cell? ⟨b,o,none⟩=w.cell? ⟨b,o,none⟩:=by unfold World.cell?;rw [h.block b hb]
theorem Env.but {w0 w w':World} {a:Option Addr} {l:List Nd} {n c g hb lb rb:Nat} (h:Env w0 w a l n c g hb lb rb) (hb':But g w w'):Env w0 w' a l n c g hb lb rb:=
 ⟨h.nodes,hb'.below h.below h.old,h.old,(Qsy hb' h.hn).trans h.hc,(Qsy hb' h.ln).trans h.lc,(Qsy hb' h.rn).trans h.rc,h.hn,h.ln,h.rn⟩
def Reached (l:List Nd) (g n at_ lv:Nat) (H:Nat->Int) (w:World) (e:Ending) (w':World):Prop:=
 ∃(b:Bool) (H':Nat->Int),e= .returned (.bool b)/\But g w w'/\Mine .i64 3 w' g n H'/\(b=true↔lv+hgt l at_<=201)/\
  (b=true->(∀j,Under l at_ j->H' j=(hgt l j:Int))/\(∀j,H' j=H j\/H' j=(hgt l j:Int))/\ ∀j,at_<j->H' j=H j)
theorem Reached.no {l:List Nd} {g n at_ lv:Nat} {H H':Nat->Int} {w w':World} {e:Ending} (he:e= .returned (.bool false)) (hb:But g w w') (hm:Mine .i64 3 w' g n H') (h: ¬lv+hgt l at_<=201):Reached l g n at_ lv H w e w':=
 ⟨false,H',he,hb,hm,by simp [h],λh=>by cases h⟩
structure Sub (l:List Nd) (i j:Nat) (H H':Nat->Int):Prop where
 here:H' i=(mx l i j:Int)
 done: ∀j',j'<j-> ∀q:Nat,(nd l i).kids.getD j' 0=(q:Int)-> ∀x,Under l q x->H' x=(hgt l x:Int)
 else_: ∀x,x≠i->H' x=H x\/H' x=(hgt l x:Int)
 past: ∀x,i<x->H' x=H x
theorem Sub.start (l:List Nd) (i:Nat) (H:Nat->Int):Sub l i 0 H (λx=>if x=i then 1 else H x):=
 ⟨by rw [Qk rfl,Qp7];rfl,λj' h=>by omega,λx hx=>by rw [Qd hx];exact .inl rfl,λx hx=>by rw [Qd (by omega)]⟩
theorem Sub.next {l:List Nd} {i j q:Nat} {H H' H2:Nat->Int} (hA:Ahead l) (hi:i<l.length) (hj:j<(nd l i).kids.length) (hq:(nd l i).kids.getD j 0=(q:Int)) (hqi:q<i) (h:Sub l i j H H')
  (h1: ∀x,Under l q x->H2 x=(hgt l x:Int)) (h2: ∀x,H2 x=H' x\/H2 x=(hgt l x:Int)) (h3: ∀x,q<x->H2 x=H' x):Sub l i (j+1) H (λx=>if x=i then (max (mx l i j) (1+hgt l q):Nat)else H2 x):=by
 have hun: ∀r,r<i-> ∀x,Under l r x->x≠i:=by intro r hr x hx e;have:=hx.le hA (by omega);omega
 refine ⟨by simp only [if_true];rw [Qq6 hj hq],?_,?_,?_⟩
 ·intro j' hj' r hr x hx;obtain ⟨r',hr',hlt,_⟩:=Qd7 hA hi (show j'<(nd l i).kids.length by omega);have e:r=r':=by rw [hr]at hr';omega
  subst e;simp only [Qd (hun r hlt x hx)];rcases V7 j' j with g |g
  ·have:=h.done j' g r hr x hx;rcases h2 x with e |e
   ·rw [e];exact this
   ·exact e
  ·obtain rfl:j'=j:=(by omega);rw [hr]at hq;have e:r=q:=(by omega);subst e;exact h1 x hx
 ·intro x hx;simp only [Qd hx];rcases h2 x with e |e
  ·rw [e];exact h.else_ x hx
  ·exact .inr e
 ·intro x hx;simp only [Qd (show¬x=i by omega)];rw [h3 x (by omega)];exact h.past x hx
theorem Reached.yes {l:List Nd} {g n i lv:Nat} {H H':Nat->Int} {w w':World} {e:Ending} (hA:Ahead l) (hi:i<l.length) (he:e= .returned (.bool true)) (hb:But g w w') (hm:Mine .i64 3 w' g n H') (h:lv+hgt l i<=201)
  (hs:Sub l i (nd l i).kids.length H H'):Reached l g n i lv H w e w':=by
 refine ⟨true,H',he,hb,hm,by simp [h],λ_=>⟨?_,?_,hs.past⟩⟩
 ·intro x hx;cases hx with
  |refl=>rw [hs.here,Qio hA hi]
  |step hk hu=>
   obtain ⟨j,hj,e⟩:=List.mem_iff_getElem.1 hk;obtain ⟨q,hq,_,_⟩:=Qd7 hA hi hj;rw [Yc,Y3 hj]at hq;have e3:_=(q:Int):=e.symm.trans hq;rw [e3,Ja]at hu;have hq:(nd l i).kids.getD j 0=(q:Int):=(by rw [Yc,Y3 hj];exact hq);exact hs.done j hj q hq x hu
 ·intro x;by_cases hx:x=i
  ·subst hx;right;rw [hs.here,Qio hA hi]
  ·exact hs.else_ x hx
theorem Q9b (w0:World) (a:Option Addr) (l:List Nd) (n c g hb lb rb:Nat) (hA:Ahead l) (hn:n=l.length) (hll:n<=1000000000): ∀(N at_:Nat),at_<N->at_<l.length-> ∀(lv:Nat) (H:Nat->Int) (w:World),1<=lv->lv<=201->Env w0 w a l n c g hb lb rb->Mine .i64 3 w g n H->
  Calls prog 139 #[.int .i64 (at_:Int),.int .i64 (lv:Int),.pointer (some ⟨hb,0,none⟩),.pointer (some ⟨lb,0,none⟩),.pointer (some ⟨rb,0,none⟩)] w (Reached l g n at_ lv H w):=by
 intro N
 induction N with
 |zero=>intro at_ h;omega
 |succ N ih=>
  intro i hiN hil lv H w hlv1 hlv2 hE hM;have HE:=Qa hE;have HM:=Qa hM;have HA:=Qa hA;have Zn:=Qa hn;have IH:=Qa ih;clear hE hM ih;have HP:=Wa8 HA.out hil;by_cases Wr0:200<lv
  ·go_enter func139,ntmps139;go_wp2_with fail;go_ret;exact Reached.no rfl (But.refl g w) HM.out (by omega)
  ·have Ws6:(i:Int)<(n:Int):=(by omega);have c1:=HE.out.hc;have f1:=HM.out.frozen i;have c5:=HM.out.cell (j:=i) (by omega);have Xl:=Qa hil;clear hil hn hA;go_enter func139,ntmps139;rw [Qz 4];go_wp2_with fail;obtain ⟨w1,hw1⟩:=Qb (w.setCell ⟨g,i,none⟩ (.int .i64 1));have P5:Hid (But g w w1):=(by rw [hw1];exact But.setCell g i _ w);have Ul:Hid (Mine .i64 3 w1 g n (λx=>if x=i then 1 else H x)):=(by rw [hw1];exact HM.out.set i 1);have Qu:=Qa (HE.out.but P5.out);rw [<-hw1];clear hw1 c1 f1 c5;have c1:=Qu.out.lc;obtain ⟨nb,no,rfl,hnb,h5⟩:=(Qu.out.nodes.below Qu.out.below).at_ Xl.out;have hok:=Qu.out.nodes.2 i Xl.out;have hkr:=hok.rows;have hkl:=hok.len;have h51:=h5.2.1;obtain ⟨ks,hks⟩:=Qb ((nd l i).kids);obtain ⟨ka,hka⟩:=Qb ((nd l i).ka);obtain ⟨kc,hkc⟩:=Qb ((nd l i).kc);obtain ⟨m,hm⟩:=Qb ks.length;rw [<-hks,<-hka,<-hkc,<-hm]at h51;rw [<-hks,<-hka,<-hm]at hkr;rw [<-hks,<-hm]at hkl;have H9:=Qa hks;have Lf:=Qa hm;have HKR:=Qa hkr;clear hks hka hkc hm hkr hok h5;refine Qn ?_;go_wp2_with fail;go_loopw [21] (λt wr=> ∃(j:Nat) (H':Nat->Int),j<=m/\t= .int .i64 (j:Int)/\Hid (But g w wr)/\Hid (Mine .i64 3 wr g n H')/\Hid (Sub l i j H H')/\Hid (lv+mx l i j<=201)) (λt _=>m-(intOf t).toNat)
   case atStart=>exact ⟨0,_,by omega,rfl,P5,Ul,Sub.start l i H,(by show _<=_;rw [Qp7];omega)⟩
   case round=>
    obtain ⟨j,H',hj,rfl,HB,HM,HS,Z9⟩:=hrel;have HEE:=Qa (HE.out.but HB.out);by_cases hjm:j<m
    ·have hjk:Hid (j<(nd l i).kids.length):=(by show j<_;rw [<-H9.out,<-Lf.out];exact hjm);obtain ⟨q,hq,hqi,_⟩:=Qd7 HA.out Xl.out hjk.out;obtain ⟨kb,ko,rfl,hkb,hkc⟩:=(HKR.out.below HEE.out.below) (by omega);have hc:=hkc j hjm;simp only at hc;rw [H9.out,hq]at hc;have HQ:=Qa hq;have crc:=HEE.out.rc;clear hkc hq;have HKH:Hid (1+hgt l q<=hgt l i):=Wog HA.out Xl.out hjk.out HQ.out;go_wp2_with fail;refine (IH.out q (by omega) (by have:=Xl.out;omega) (lv+1) H' wr (by omega) (by omega) HEE.out HM.out).mono ?_;rintro e w2 ⟨b,H2,rfl,hb2,hm2,hiff,Q0g⟩;have HB2:=Qa (HB.out.trans hb2);have HE2:=Qa (HE.out.but HB2.out);have U7:=Qa hm2;have Ka:=Qa hiff;have HTR:=Qa Q0g;clear hb2 hm2 hiff Q0g;cases b with
     |false=>
      go_wp2_with fail;go_ret;exact Reached.no rfl HB2.out U7.out (by have h1:=HKH.out;have h2: ¬lv+1+hgt l q<=201:=λh=>(by cases Ka.out.2 h);omega)
     |true=>
      have HLQ:Hid (lv+1+hgt l q<=201):=Ka.out.1 rfl;obtain ⟨h1,h2,h3⟩:=HTR.out rfl;have HS2:=Qa (HS.out.next HA.out Xl.out hjk.out HQ.out hqi h1 h2 h3);have cH:=HE2.out.hc;have ci:=U7.out.cell (j:=i) (by omega);have cq:=U7.out.cell (j:=q) (by omega);rw [h3 i hqi,HS.out.here]at ci;rw [h1 q (.refl _)]at cq;have fi:=U7.out.frozen i;have HMX:=Qa (Qq6 hjk.out HQ.out);have Q6x:mx l i j<=200:=(by have:=Z9.out;omega);have Wq5:hgt l q<=200:=(by have:=HLQ.out;omega);obtain ⟨M,hM⟩:=Qb (mx l i j);obtain ⟨Q,hQ⟩:=Qb (hgt l q);rw [<-hM]at ci Q6x HMX HS2 Z9;rw [<-hQ]at cq Wq5 HMX HS2 HLQ;clear hM hQ h1 h2 h3 HTR Ka;have hqn:(q:Int)<(n:Int):=(by omega);rcases (show M<Q+1\/Q+1<M\/M=Q+1 by omega)with hlt |Wsn |heq
      ·go_wp2_with fail;go_still_tail 13,(by kernel_rfl);change wpList _ _ _ _ _ w2.drew;go_wp2_with fail;go_roundw
       case rel=>
        refine ⟨j+1,_,by omega,by go_num,?_,?_,HS2,?_⟩
        ·exact ((HB2.out.trans (But.setCell g i _ w2))).drew
        ·exact (U7.out.set i _).congr λx hx=>by
          split
          ·first |rfl |(refine congrArg _ ?_;omega) |omega
          ·rfl
        ·show _<=_;rw [HMX.out];have h1:=Z9.out;have h2:=HLQ.out;omega
       case measure=>simp [intOf];omega
      ·go_wp2_with fail;go_still_tail 13,(by kernel_rfl);change wpList _ _ _ _ _ w2.drew;go_wp2_with fail;go_roundw
       case rel=>
        refine ⟨j+1,_,by omega,by go_num,?_,?_,HS2,?_⟩
        ·exact ((HB2.out.trans (But.setCell g i _ w2))).drew
        ·exact (U7.out.set i _).congr λx hx=>by
          split
          ·first |rfl |(refine congrArg _ ?_;omega) |omega
          ·rfl
        ·show _<=_;rw [HMX.out];have h1:=Z9.out;have h2:=HLQ.out;omega
       case measure=>simp [intOf];omega
      ·subst heq;go_wp2_with fail;go_still_tail 13,(by kernel_rfl);change wpList _ _ _ _ _ w2.drew;go_wp2_with fail;go_roundw
       case rel=>
        refine ⟨j+1,_,by omega,by go_num,?_,?_,HS2,?_⟩
        ·exact ((HB2.out.trans (But.setCell g i _ w2))).drew
        ·exact (U7.out.set i _).congr λx hx=>by
          split
          ·first |rfl |(refine congrArg _ ?_;omega) |omega
          ·rfl
        ·show _<=_;rw [HMX.out];have h1:=Z9.out;have h2:=HLQ.out;omega
       case measure=>simp [intOf];omega
    ·obtain rfl:j=m:=(by omega);go_wp2_with fail;go_ret;have e:Hid (j=(nd l i).kids.length):=(by show _=_;rw [<-H9.out];exact Lf.out);refine Reached.yes HA.out Xl.out rfl HB.out HM.out ?_ ?_
     ·have:=Z9.out;rw [e.out,Qio HA.out Xl.out]at this;exact this
     ·rw [<-e.out];exact HS.out
def Za (m:Nat) (k:Int):Bool:=(Qc4 k.toNat &&& m) != 0
def Xx (m:Nat) (ks:List Int):Nat:=(ks.takeWhile (Za m)).length
def rem (p:Nat->Pt) (ks:List Int):Nat->Option (List Int)
 | 0=>some ks
 |i+1=>match rem p ks i with
  |none=>none
  |some r=>if Am (p i).lo (p i).hi (Xx (p i).is r:Int)then some (r.drop (Xx (p i).is r))else none
def greedy (p:Nat->Pt) (ks:List Int):Bool:=match rem p ks 2 with
 |none=>false
 |some r=>decide (r.length=0)
theorem Qi2 {m:Nat}: ∀{ks:List Int} {k:Nat},(∀j,j<k->Za m (ks.getD j 0)=true)->k<=ks.length->(k<ks.length->Za m (ks.getD k 0)=false)->Xx m ks=k
 | [],k,_,hk,_=>by simp at hk;simp [Xx,hk]
 |x::r,0,_,_,h=>by have:=h (by simp);have h':Za m x=false:=this;simp [Xx,h']
 |x::r,k+1,h,hk,h2=>by have h0:Za m x=true:=h 0 (by omega);have ih:=Qi2 (m:=m) (ks:=r) (k:=k) (λj hj=>by have:=h (j+1) (by omega);simpa using this) (by simpa using hk) (λhlt=>by have:=h2 (by simpa using hlt);simpa using this);unfold Xx at ih ⊢;rw [List.takeWhile_cons,h0];simp [ih]
theorem Qy7 (m:Nat) (ks:List Int):Xx m ks<=ks.length:=(List.takeWhile_prefix _).length_le
theorem Qj8 {p:Nat->Pt} {ks r:List Int} {i:Nat} (h:rem p ks i=some r) (hb:Am (p i).lo (p i).hi (Xx (p i).is r:Int)=true):rem p ks (i+1)=some (r.drop (Xx (p i).is r)):=by simp only [rem,h,hb,if_true]
theorem Qv7 {p:Nat->Pt} {ks r:List Int} {i:Nat} (h:rem p ks i=some r) (hb:Am (p i).lo (p i).hi (Xx (p i).is r:Int)=false):rem p ks (i+1)=none:=by simp [rem,h,hb]
theorem Wkj {p:Nat->Pt} {ks:List Int} {i:Nat} (h:rem p ks i=none):rem p ks (i+1)=none:=by simp [rem,h]
theorem Qor {p:Nat->Pt} {ks:List Int} {i:Nat} (hi:i<2) (h:rem p ks (i+1)=none):greedy p ks=false:=by
 have:rem p ks 2=none:=by
  rcases (show i=0\/i=1 by omega)with rfl |rfl
  ·exact Wkj h
  ·exact h
 simp [greedy,this]
theorem Qn2 {p:Nat->Pt} {ks r:List Int} (h:rem p ks 2=some r):greedy p ks=decide (r.length=0):=by simp [greedy,h]
def Qb2 (p:Nat->Pt):Value:=.agg #[.int .u8 ((p 0).is:Int),.int .i64 (p 0).lo,.int .i64 (p 0).hi,.int .u8 ((p 1).is:Int),.int .i64 (p 1).lo,.int .i64 (p 1).hi]
theorem Wbi (p:Nat->Pt) (i:Nat) (hi:i<2) (w:World):(Instr.index 146 (Qb2 p) (.int .i64 (i:Int))).run prog w= .ok (.agg #[.int .u8 ((p i).is:Int),.int .i64 (p i).lo,.int .i64 (p i).hi]) w:=by
 rcases (show i=0\/i=1 by omega)with rfl |rfl
 ·kernel_rfl
 ·kernel_rfl
def Z6 (ks:List Int):Prop:= ∀j,j<ks.length-> ∃k:Nat,ks.getD j 0=(k:Int)/\k<27
theorem Z6.drop {ks:List Int} (h:Z6 ks) (d:Nat):Z6 (ks.drop d):=by intro j hj;rw [Vf]at hj;obtain ⟨k,h1,h2⟩:=h (d+j) (by omega);exact ⟨k,by rw [Ro];exact h1,h2⟩
theorem Q3f (a ka:Option Addr) (c kc m:Nat) (l:List Nd) (ks:List Int) (p:Nat->Pt) (w:World) (hT:Dp w) (hN:Nodes w a l) (hk:Vd .i64 w ka m (λj=>ks.getD j 0)) (hI:Sr l ks) (hKn:Z6 (kd l ks)) (hp: ∀i,(p i).is<256)
  (hm:m=ks.length) (hcap:m<=kc) (hml:m<=140737488351232) (hll:l.length<=9223372036854775807):
  Calls prog 138 #[.slice a l.length c,.slice ka m kc,Qb2 p] w λe w'=>e= .returned (.bool (greedy p (kd l ks)))/\Below w.heap.size w w':=by
 have HM:=Qa hm;have HN:=Qa hN;have HK:=Qa hk;have HI:=Qa hI;have HT:=Qa hT;have HKN:=Qa hKn;have HP:=Qa hp;clear hm hN hk hI hT hKn hp;obtain ⟨G,hG⟩:=Qb (greedy p (kd l ks));rw [<-hG];have HG:=Qa hG;clear hG;have HB0:Hid (Below w.heap.size w (w.alloc (.cells #[.int .u8 ((p 0).is:Int),.int .i64 (p 0).lo,.int .i64 (p 0).hi,.int .u8 ((p 1).is:Int),.int .i64 (p 1).lo,.int .i64 (p 1).hi] 146))):=Qag;obtain ⟨V,hV⟩:=Qb (Qb2 p);have HV:=Qa hV;unfold Qb2;go_enter func138,ntmps138;go_wp2_with fail;unfold Qb2 at hV;rw [<-hV];clear hV;go_loopw [1,8,9,11] (λs1 _ _ t wr=> ∃(i:Nat) (ks':List Int) (ka':Option Addr) (kc' m':Nat),i<=2/\t= .int .i64 (i:Int)/\s1= .slice ka' m' kc'/\m'<=kc'/\m'<=140737488351232/\Hid (m'=ks'.length)/\Hid (rem p (kd l ks) i=some (kd l ks'))/\Hid (Vd .i64 wr ka' m' (λj=>ks'.getD j 0))/\Hid (Sr l ks')/\Hid (Z6 (kd l ks'))/\Hid (Below w.heap.size w wr)) (λ_ _ _ t _=>2-(intOf t).toNat)
 case atStart=>exact ⟨0,ks,ka,kc,m,by omega,rfl,rfl,hcap,hml,HM,rfl,HK.out.below HB0.out,HI,HKN,HB0⟩
 case round=>
  obtain ⟨i,ks',ka',kc',m',hi,rfl,rfl,Wrx,hml',U0,Qc5,HK',HI',Qob,HB⟩:=hrel;by_cases hi2:i<2
  ·have hix:=Wbi p i hi2;rw [<-HV.out]at hix;obtain ⟨q,hq⟩:=Qb (p i);rw [<-hq]at hix;have Wnk:q.is<256:=(by rw [hq];exact HP.out i);obtain ⟨Us,lo,hi'⟩:=q;have HQ:=Qa hq;clear hq;go_wp2_with fail;obtain ⟨w1,hw1⟩:=Qb (wr.alloc (.cells #[.int .u8 (Us:Int),.int .i64 lo,.int .i64 hi'] 145));have HB1:Hid (Below wr.heap.size wr w1):=(by rw [hw1];exact Qag);have HH:Hid (Held w1 wr.heap.size 145 #[.int .u8 (Us:Int),.int .i64 lo,.int .i64 hi']):=(by rw [hw1];exact Held.new wr _ _);have Xz:Hid (Below w.heap.size w w1):=HB.out.trans (HB1.out.mono HB.out.size);have Zh:=Qa (HK'.out.below HB1.out);have HN1:=Qa (HN.out.below Xz.out);have HT1:=Qa (HT.out.below Xz.out);obtain ⟨g,hg⟩:=Qb wr.heap.size;rw [<-hw1,<-hg];rw [<-hg]at HH;clear hw1 hg HB1 HK' HB;obtain ⟨wo,rfl⟩:=Qb wr;have cp:=HH.out.at_ (j:=0) (v:=.int .u8 (Us:Int)) rfl;go_loopw [9] (λt wr=> ∃k q:Nat,k<=m'/\t= .int .i64 (k:Int)/\wr=w1.drewN q/\Hid (∀j,j<k->Za Us ((kd l ks').getD j 0)=true)) (λt _=>m'-(intOf t).toNat)
   case atStart=>exact ⟨0,0,by omega,rfl,rfl,λj hj=>by omega⟩
   case round=>
    obtain ⟨k,q,hk,rfl,rfl,hE⟩:=hrel;by_cases hkm:k<m'
    ·have hkmi:(k:Int)<(m':Int):=(by omega);obtain ⟨kb,ko,lb,lo',u,rfl,rfl,hc,hu,⟨h5,_⟩,hkd,_⟩:=Won (j:=k) HN1.out Zh.out HI'.out U0.out hkm;obtain ⟨z,hz,Q6l⟩:=Qob.out k (by rw [Qcm,<-U0.out];exact hkm);rw [hz]at hkd;rw [<-hkd]at h5;have hui:(u:Int)<(l.length:Int):=(by omega);have hzi:(z:Int)<27:=(by omega);have ht:=Zc HT1.out.rows (Qxx z Q6l);have Qzl:=u8_and_nat (Qc4 z) Us (Wgj z Q6l) Wnk;obtain ⟨x,hx⟩:=Qb (Qc4 z &&& Us);have Qxk:Hid (Za Us ((kd l ks').getD k 0)=(x != 0)):=by show _=_;rw [hz,hx];unfold Za;rw [Ja]
     rw [<-hx]at Qzl;clear hx hkd hz;obtain ⟨y,hy⟩:=Qb (Qc4 z);rw [<-hy]at ht Qzl;clear hy;by_cases hx0:x=0
     ·have hx0':((x:Int) != 0)=false:=(by simp [hx0]);have HR:Hid (Xx Us (kd l ks')=k):=by refine Qi2 hE.out (by rw [Qcm,<-U0.out];exact hk) (λ_=> ?_);rw [Qxk.out,hx0];rfl
      have cl:=HH.out.at_ (j:=1) (v:=.int .i64 lo) rfl;have ch:=HH.out.at_ (j:=2) (v:=.int .i64 hi') rfl;have Wrz: ¬kc'=k:=(by omega);clear hx0;go_wp2_with fail;go_quiet (fail);go_wp2_with fail;refine (Qna (k:Int) lo hi' _).mono ?_;rintro e w2 ⟨rfl,hb2⟩;have HB2:Hid (Below w1.heap.size w1 w2):=(Wq w1 _ _).trans hb2;have O5:Hid (Below w.heap.size w w2):=Xz.out.trans (HB2.out.mono Xz.out.size);clear hb2;cases hbt:Am lo hi' (k:Int)with
      |false=>
       have P5:=Qa hbt;clear hbt;go_wp2_with fail;go_ret;exact ⟨by rw [HG.out,Qor hi2 (Qv7 Qc5.out (by rw [<-HQ.out,HR.out];exact P5.out))];rfl,O5.out⟩
      |true=>
       have P5:=Qa hbt;clear hbt;go_wp2_with fail;go_roundw
       case rel=>exact ⟨i+1,ks'.drop k,_,_,_,by omega,by go_num,rfl,by omega,by omega,(by have h:=U0.out;show _=_;rw [Vf];omega),(by have h:=Qj8 Qc5.out (by rw [<-HQ.out,HR.out];exact P5.out);rw [<-HQ.out,HR.out,Qgh]at h;exact h),(Wf5 (d:=k) (Zh.out.below HB2.out)),HI'.out.drop k,(by show Z6 _;rw [<-Qgh];exact Qob.out.drop k),O5⟩
       case measure=>simp [intOf];omega
     ·have hx0':((x:Int) != 0)=true:=(by simp;omega);have HX:Hid (Za Us ((kd l ks').getD k 0)=true):=by show _=_;rw [Qxk.out];simpa using hx0
      go_wp2_with fail;go_quiet (fail);go_wp2_with fail;go_roundw
      case rel=>exact ⟨k+1,_,by omega,by go_num,rfl,λj hj=>by
       rcases V7 j k with h |h
       ·exact hE.out j h
       ·rw [show j=k by omega];exact HX.out⟩
      case measure=>simp [intOf];omega
    ·obtain rfl:k=m':=(by omega);have HR:Hid (Xx Us (kd l ks')=k):=Qi2 hE.out (by rw [Qcm,<-U0.out];exact hk) (λh=>by rw [Qcm,<-U0.out]at h;omega);have cl:=HH.out.at_ (j:=1) (v:=.int .i64 lo) rfl;have ch:=HH.out.at_ (j:=2) (v:=.int .i64 hi') rfl;have hkk:decide (k<k)=false:=(by simp);go_wp2_with fail;go_quiet (fail);go_wp2_with fail;refine (Qna (k:Int) lo hi' _).mono ?_;rintro e w2 ⟨rfl,hb2⟩;have HB2:Hid (Below w1.heap.size w1 w2):=(Wq w1 _ _).trans hb2;have O5:Hid (Below w.heap.size w w2):=Xz.out.trans (HB2.out.mono Xz.out.size);clear hb2;cases hbt:Am lo hi' (k:Int)with
     |false=>
      have P5:=Qa hbt;clear hbt;go_wp2_with fail;go_ret;exact ⟨by rw [HG.out,Qor hi2 (Qv7 Qc5.out (by rw [<-HQ.out,HR.out];exact P5.out))];rfl,O5.out⟩
     |true=>
      have P5:=Qa hbt;clear hbt;by_cases hck:k=kc'
      ·subst hck;go_wp2_with fail;go_roundw
       case rel=>exact ⟨i+1,ks'.drop k,_,_,_,by omega,by go_num,rfl,by omega,by omega,(by have h:=U0.out;show _=_;rw [Vf];omega),(by have h:=Qj8 Qc5.out (by rw [<-HQ.out,HR.out];exact P5.out);rw [<-HQ.out,HR.out,Qgh]at h;exact h),(λh=>by omega),HI'.out.drop k,(by show Z6 _;rw [<-Qgh];exact Qob.out.drop k),O5⟩
       case measure=>simp [intOf];omega
      ·skip;go_wp2_with fail;go_roundw
       case rel=>exact ⟨i+1,ks'.drop k,_,_,_,by omega,by go_num,rfl,by omega,by omega,(by have h:=U0.out;show _=_;rw [Vf];omega),(by have h:=Qj8 Qc5.out (by rw [<-HQ.out,HR.out];exact P5.out);rw [<-HQ.out,HR.out,Qgh]at h;exact h),(λh=>by omega),HI'.out.drop k,(by show Z6 _;rw [<-Qgh];exact Qob.out.drop k),O5⟩
       case measure=>simp [intOf];omega
  ·obtain rfl:i=2:=(by omega);by_cases h0:m'=0
   ·have h0':((m':Int)==0)=true:=(by simp [h0]);have H0:=Qa h0;clear h0;go_wp2_with fail;go_ret;exact ⟨by rw [HG.out,Qn2 Qc5.out,Qcm,<-U0.out,decide_eq_true H0.out];rfl,HB.out⟩
   ·have h0':((m':Int)==0)=false:=(by simp;omega);have H0:=Qa h0;clear h0;go_wp2_with fail;go_ret;exact ⟨by rw [HG.out,Qn2 Qc5.out,Qcm,<-U0.out,decide_eq_false H0.out];rfl,HB.out⟩
def Yu (k:Nat):Nat->Pt:=λi=>if i=0 then (Jw (Qft k)).1 else (Jw (Qft k)).2
def Qg9 (l:List Nd) (x:Nd):Bool:=
 if x.kind<1\/26<x.kind\/x.at_<0 then false
 else if (if Qej x.kind.toNat then Xa x.t else decide (x.t=[]))then Am (lim (numOf x.kind.toNat)).1 (lim (numOf x.kind.toNat)).2 x.n&&greedy (Yu x.kind.toNat) (kd l x.kids)
 else false
theorem Wbc: ∀j,j<11->(Jw j).1.is<256/\(Jw j).2.is<256
 | 0,_=>by decide
 | 1,_=>by decide
 | 2,_=>by decide
 | 3,_=>by decide
 | 4,_=>by decide
 | 5,_=>by decide
 | 6,_=>by decide
 | 7,_=>by decide
 | 8,_=>by decide
 | 9,_=>by decide
 | 10,_=>by decide
 |n+11,h=>by omega
theorem Wdi {k:Nat} (hk:k<27) (i:Nat):(Yu k i).is<256:=by
 have:=Wbc (Qft k) (Q51 k hk);unfold Yu;split
 ·exact this.1
 ·exact this.2
theorem Wrm (V:Value) (K:Int) (ka:Option Addr) (kc m:Nat) (n:Int) (s:ByteArray) (at_:Int) (w:World) (h:K<1\/26<K\/at_<0):
  Calls prog 114 #[V,.agg #[.int .i64 K,.slice ka m kc,.int .i64 n,.string s,.int .i64 at_]] w λe w'=>e= .returned (.bool false)/\Below w.heap.size w w':=by
 by_cases h1:K<1
 ·clear h;go_enter func114,ntmps114;go_wp2_with fail;go_ret;exact ⟨rfl,Qag⟩
 ·by_cases h2:26<K
  ·clear h;go_enter func114,ntmps114;go_wp2_with fail;go_ret;exact ⟨rfl,Qag⟩
  ·have h3:at_<0:=(by omega);clear h;go_enter func114,ntmps114;go_wp2_with fail;go_ret;exact ⟨rfl,Qag⟩
theorem Weh (a ka:Option Addr) (c k kc m:Nat) (l:List Nd) (ks:List Int) (n:Int) (s:ByteArray) (at_:Int) (w:World) (h1:1<=k) (h2:k<=26) (h3:0<=at_) (hs:s.size<=140737488351232)
  (hT:Dp w) (hN:Nodes w a l) (hk:Vd .i64 w ka m (λj=>ks.getD j 0)) (hI:Sr l ks) (hKn:Z6 (kd l ks)) (hm:m=ks.length) (hcap:m<=kc) (hml:m<=140737488351232) (hll:l.length<=9223372036854775807):
  Calls prog 114 #[.slice a l.length c,.agg #[.int .i64 (k:Int),.slice ka m kc,.int .i64 n,.string s,.int .i64 at_]] w λe w'=>e= .returned (.bool (if (if Qej k then Xa s.data.toList else decide (s.data.toList=[]))then Am (lim (numOf k)).1 (lim (numOf k)).2 n&&greedy (Yu k) (kd l ks)else false))/\Below w.heap.size w w':=by
 have U1:k<27:=by omega
 have t0:=Zc hT.rows (Q7p k U1);have t1:=Zc hT.rows (Wm2 k U1);have t2:=Zc hT.rows (Qxx k U1);have t3:=Zc hT.rows (Q6i k U1);have t4:=Zc hT.rows (Wne k U1);unfold txt at t0;have HN:=Qa hN;have HK:=Qa hk;have HI:=Qa hI;have HT:=Qa hT;have HKN:=Qa hKn;have HM:=Qa hm;have X9:=Qa (Qoy s);clear hN hk hI hT hKn hm;have hnl:=Wp2 k U1;have hml':=Q51 k U1;have HPI:=Qa (Wdi U1);obtain ⟨W,hW⟩:=Qb (wrd k);obtain ⟨I,hI⟩:=Qb (Qc4 k);obtain ⟨U,hU⟩:=Qb (numOf k);obtain ⟨J,hJ⟩:=Qb (Qft k);obtain ⟨NM,hNM⟩:=Qb (Qej k);obtain ⟨p,hp⟩:=Qb (Yu k);have HPV:Hid (Qb2 p= .agg #[.int .u8 ((Jw J).1.is:Int),.int .i64 (Jw J).1.lo,.int .i64 (Jw J).1.hi,.int .u8 ((Jw J).2.is:Int),.int .i64 (Jw J).2.lo,.int .i64 (Jw J).2.hi]):=by rw [hp,hJ];rfl
 rw [<-hW]at t0;rw [<-hNM]at t1 ⊢;rw [<-hI]at t2;rw [<-hU]at t3 hnl ⊢;rw [<-hJ]at t4 hml';rw [<-hp]at HPI ⊢;clear hW hI hU hJ hNM hp;have HG2:Hid (6<w.heap.size):=Wp1 t0;replace t0:=(World.cell?_alloc_lt w (.cells #[.int .i64 (k:Int),.slice ka m kc,.int .i64 n,.string s,.int .i64 at_] 37) ⟨6,k*5,none⟩ HG2.out).trans t0;replace t1:=(World.cell?_alloc_lt w (.cells #[.int .i64 (k:Int),.slice ka m kc,.int .i64 n,.string s,.int .i64 at_] 37) ⟨6,k*5+1,none⟩ HG2.out).trans t1;replace t2:=(World.cell?_alloc_lt w (.cells #[.int .i64 (k:Int),.slice ka m kc,.int .i64 n,.string s,.int .i64 at_] 37) ⟨6,k*5+2,none⟩ HG2.out).trans t2;replace t3:=(World.cell?_alloc_lt w (.cells #[.int .i64 (k:Int),.slice ka m kc,.int .i64 n,.string s,.int .i64 at_] 37) ⟨6,k*5+3,none⟩ HG2.out).trans t3;replace t4:=(World.cell?_alloc_lt w (.cells #[.int .i64 (k:Int),.slice ka m kc,.int .i64 n,.string s,.int .i64 at_] 37) ⟨6,k*5+4,none⟩ HG2.out).trans t4;obtain ⟨R,hR⟩:=Qb (if (if NM then Xa s.data.toList else decide (s.data.toList=[]))then Am (lim U).1 (lim U).2 n&&greedy p (kd l ks)else false);rw [<-hR];have HRt:Hid (NM=true->Xa s.data.toList=true->R=(Am (lim U).1 (lim U).2 n&&greedy p (kd l ks))):=by intro h1 h2;rw [hR,h1];simp [h2]
 have HRf:Hid (NM=true->Xa s.data.toList=false->R=false):=by intro h1 h2;rw [hR,h1];simp [h2]
 have HRg:Hid (NM=false->s.data.toList=[]->R=(Am (lim U).1 (lim U).2 n&&greedy p (kd l ks))):=by intro h1 h2;rw [hR,h1];simp [h2]
 have HRh:Hid (NM=false-> ¬s.data.toList=[]->R=false):=by intro h1 h2;rw [hR,h1];simp [h2]
 clear hR;cases NM with
 |true=>
  go_enter func114,ntmps114;go_wp2_with fail;obtain ⟨w1,hw1⟩:=Qb ((w.alloc (.cells #[.int .i64 (k:Int),.slice ka m kc,.int .i64 n,.string s,.int .i64 at_] 37)).alloc (.cells #[.string ⟨W.toArray⟩,.bool true,.int .u8 (I:Int),.int .u8 (U:Int),.int .u8 (J:Int)] 137));have HB1:Hid (Below w.heap.size w w1):=by rw [hw1];exact Qag.alloc (by simp) _
  have HH0:Hid (Held w1 w.heap.size 37 #[.int .i64 (k:Int),.slice ka m kc,.int .i64 n,.string s,.int .i64 at_]):=by rw [hw1];exact (Held.new w _ _).alloc _
  have Wo:Hid (Held w1 (w.heap.size+1) 137 #[.string ⟨W.toArray⟩,.bool true,.int .u8 (I:Int),.int .u8 (U:Int),.int .u8 (J:Int)]):=by rw [hw1];have:=Held.new (w.alloc (.cells #[.int .i64 (k:Int),.slice ka m kc,.int .i64 n,.string s,.int .i64 at_] 37)) 137 #[.string ⟨W.toArray⟩,.bool true,.int .u8 (I:Int),.int .u8 (U:Int),.int .u8 (J:Int)];have e:(w.alloc (.cells #[.int .i64 (k:Int),.slice ka m kc,.int .i64 n,.string s,.int .i64 at_] 37)).heap.size=w.heap.size+1:=(by simp);rw [e]at this;exact this
  obtain ⟨g,hg⟩:=Qb w.heap.size;rw [<-hw1];rw [<-hg]at HH0 Wo ⊢;have Fa:=Qa hg;clear hw1 hg;refine (Wnj s w1 (HT.out.below HB1.out) hs).mono ?_;rintro e w2 ⟨rfl,hw2⟩;rw [hw2];clear hw2 w2;cases hb:Xa s.data.toList with
  |false=>
   have Rs:=Qa hb;clear hb;go_wp2_with fail;go_ret;exact ⟨by rw [HRf.out (by first |rfl |trivial) Rs.out];rfl,HB1.out⟩
  |true=>
   have Rs:=Qa hb;clear hb;have r1:=Wo.out.at_ (j:=1) (v:=.bool true) rfl;go_wp2_with fail;have Wj:=HT.out.below HB1.out;have HNA:=HN.out.below HB1.out;have Ga:=HK.out.below HB1.out;have kn:=cell_regrown (HH0.out.at_ (j:=2) (v:=.int .i64 n) rfl);have ks1:=cell_regrown (HH0.out.at_ (j:=1) (v:=.slice ka m kc) rfl);have ku:=cell_regrown (Wo.out.at_ (j:=3) (v:=.int .u8 (U:Int)) rfl);have kj:=cell_regrown (Wo.out.at_ (j:=4) (v:=.int .u8 (J:Int)) rfl);have kl:=cell_regrown (Zc Wj.limits (Q74 U hnl));have kh:=cell_regrown (Zc Wj.limits (Qxj U hnl));have m0:=cell_regrown (Zc Wj.makings (Q5p J hml'));have m1:=cell_regrown (Zc Wj.makings (Q3l J hml'));have m2:=cell_regrown (Zc Wj.makings (Q3q J hml'));have m3:=cell_regrown (Zc Wj.makings (Q4o J hml'));have m4:=cell_regrown (Zc Wj.makings (Q2j J hml'));have m5:=cell_regrown (Zc Wj.makings (Qws J hml'));have cF: ∀d os,Calls prog 138 #[.slice a l.length c,.slice ka m kc,Qb2 p] (Sort.grow (redrawn w1 d) os) λe w''=>e= .returned (.bool (greedy p (kd l ks)))/\ ∃q:Regrown,w''=Sort.grow (redrawn w1 q.d) q.os:=λd os=>Calls.regrown_of (Q3f a ka c kc m l ks p _ (Wj.below (below_regrown w1 d os)) (HNA.below (below_regrown w1 d os)) (Ga.below (below_regrown w1 d os)) HI.out HKN.out HPI.out HM.out hcap hml hll);rw [HPV.out]at cF;have cW: ∀d os,Calls prog 137 #[.int .i64 n,.agg #[.int .i64 (lim U).1,.int .i64 (lim U).2]] (Sort.grow (redrawn w1 d) os) λe w''=>e= .returned (.bool (Am (lim U).1 (lim U).2 n))/\ ∃q:Regrown,w''=Sort.grow (redrawn w1 q.d) q.os:=λd os=>Calls.regrown_of (Qna n (lim U).1 (lim U).2 _);clear Wj HNA Ga;obtain ⟨GB,hGB⟩:=Qb (greedy p (kd l ks));obtain ⟨WB,hWB⟩:=Qb (Am (lim U).1 (lim U).2 n);rw [<-hGB]at cF;rw [<-hWB]at cW;have HGB:=Qa hGB;have HWB:=Qa hWB;clear hGB hWB;obtain ⟨y0,hy0⟩:=Qb ((Jw J).1.is);obtain ⟨y1,hy1⟩:=Qb ((Jw J).1.lo);obtain ⟨y2,hy2⟩:=Qb ((Jw J).1.hi);obtain ⟨y3,hy3⟩:=Qb ((Jw J).2.is);obtain ⟨y4,hy4⟩:=Qb ((Jw J).2.lo);obtain ⟨y5,hy5⟩:=Qb ((Jw J).2.hi);obtain ⟨z1,hz1⟩:=Qb ((lim U).1);obtain ⟨z2,hz2⟩:=Qb ((lim U).2);rw [<-hy0]at m0;rw [<-hy1]at m1;rw [<-hy2]at m2;rw [<-hy3]at m3;rw [<-hy4]at m4;rw [<-hy5]at m5;rw [<-hy0,<-hy1,<-hy2,<-hy3,<-hy4,<-hy5]at cF;rw [<-hz1,<-hz2]at cW;rw [<-hz1]at kl;rw [<-hz2]at kh;clear hy0 hy1 hy2 hy3 hy4 hy5 hz1 hz2;have hUi:(U:Int)<5:=(by omega);have hJi:(J:Int)<11:=(by omega);cases WB
   all_goals
    refine wp_region_quiet_below (by kernel_rfl) (by kernel_rfl) ?_
    repeat (any_goals (first |go_big_quiet_step (first |exact cF _ _ |exact cW _ _) |quiet_step (first |exact cF _ _ |exact cW _ _)))
    refine wpQuiet_nil ?_;intro _ hw';obtain ⟨⟨dq,osq⟩,hw''⟩:=hw';obtain ⟨w2,hw2⟩:=Qb (Sort.grow (redrawn w1 dq) osq);have HB3:Hid (Below w.heap.size w w2):=(by rw [hw2];exact HB1.out.trans ((below_regrown w1 dq osq).mono HB1.out.size));rw [hw'',<-hw2];clear hw2 hw'' kn ks1 ku kj kl kh m0 m1 m2 m3 m4 m5 cF cW;go_wp2_with fail;go_ret;exact ⟨by rw [HRt.out (by first |rfl |trivial) Rs.out,<-HWB.out,<-HGB.out];rfl,HB3.out⟩
 |false=>
  by_cases hse:s.data.toList=[]
  ·have Wbr:s.toList.isEmpty=true:=(by rw [X9.out,hse];rfl);have Wii:s.toList=[]:=(by rw [X9.out,hse]);have M0:=Qa hse;clear hse;go_enter func114,ntmps114;go_wp2_with fail;obtain ⟨w1,hw1⟩:=Qb ((w.alloc (.cells #[.int .i64 (k:Int),.slice ka m kc,.int .i64 n,.string s,.int .i64 at_] 37)).alloc (.cells #[.string ⟨W.toArray⟩,.bool false,.int .u8 (I:Int),.int .u8 (U:Int),.int .u8 (J:Int)] 137));have HB1:Hid (Below w.heap.size w w1):=(by rw [hw1];exact Qag.alloc (by simp) _);have HH0:Hid (Held w1 w.heap.size 37 #[.int .i64 (k:Int),.slice ka m kc,.int .i64 n,.string s,.int .i64 at_]):=(by rw [hw1];exact (Held.new w _ _).alloc _);have Wo:Hid (Held w1 (w.heap.size+1) 137 #[.string ⟨W.toArray⟩,.bool false,.int .u8 (I:Int),.int .u8 (U:Int),.int .u8 (J:Int)]):=by rw [hw1];have:=Held.new (w.alloc (.cells #[.int .i64 (k:Int),.slice ka m kc,.int .i64 n,.string s,.int .i64 at_] 37)) 137 #[.string ⟨W.toArray⟩,.bool false,.int .u8 (I:Int),.int .u8 (U:Int),.int .u8 (J:Int)];have e:(w.alloc (.cells #[.int .i64 (k:Int),.slice ka m kc,.int .i64 n,.string s,.int .i64 at_] 37)).heap.size=w.heap.size+1:=(by simp);rw [e]at this;exact this
   obtain ⟨g,hg⟩:=Qb w.heap.size;rw [<-hw1];rw [<-hg]at HH0 Wo ⊢;have Fa:=Qa hg;clear hw1 hg;have Wj:=HT.out.below HB1.out;have HNA:=HN.out.below HB1.out;have Ga:=HK.out.below HB1.out;have kn:=cell_regrown (HH0.out.at_ (j:=2) (v:=.int .i64 n) rfl);have ks1:=cell_regrown (HH0.out.at_ (j:=1) (v:=.slice ka m kc) rfl);have ku:=cell_regrown (Wo.out.at_ (j:=3) (v:=.int .u8 (U:Int)) rfl);have kj:=cell_regrown (Wo.out.at_ (j:=4) (v:=.int .u8 (J:Int)) rfl);have kl:=cell_regrown (Zc Wj.limits (Q74 U hnl));have kh:=cell_regrown (Zc Wj.limits (Qxj U hnl));have m0:=cell_regrown (Zc Wj.makings (Q5p J hml'));have m1:=cell_regrown (Zc Wj.makings (Q3l J hml'));have m2:=cell_regrown (Zc Wj.makings (Q3q J hml'));have m3:=cell_regrown (Zc Wj.makings (Q4o J hml'));have m4:=cell_regrown (Zc Wj.makings (Q2j J hml'));have m5:=cell_regrown (Zc Wj.makings (Qws J hml'));have cF: ∀d os,Calls prog 138 #[.slice a l.length c,.slice ka m kc,Qb2 p] (Sort.grow (redrawn w1 d) os) λe w''=>e= .returned (.bool (greedy p (kd l ks)))/\ ∃q:Regrown,w''=Sort.grow (redrawn w1 q.d) q.os:=λd os=>Calls.regrown_of (Q3f a ka c kc m l ks p _ (Wj.below (below_regrown w1 d os)) (HNA.below (below_regrown w1 d os)) (Ga.below (below_regrown w1 d os)) HI.out HKN.out HPI.out HM.out hcap hml hll);rw [HPV.out]at cF;have cW: ∀d os,Calls prog 137 #[.int .i64 n,.agg #[.int .i64 (lim U).1,.int .i64 (lim U).2]] (Sort.grow (redrawn w1 d) os) λe w''=>e= .returned (.bool (Am (lim U).1 (lim U).2 n))/\ ∃q:Regrown,w''=Sort.grow (redrawn w1 q.d) q.os:=λd os=>Calls.regrown_of (Qna n (lim U).1 (lim U).2 _);clear Wj HNA Ga;obtain ⟨GB,hGB⟩:=Qb (greedy p (kd l ks));obtain ⟨WB,hWB⟩:=Qb (Am (lim U).1 (lim U).2 n);rw [<-hGB]at cF;rw [<-hWB]at cW;have HGB:=Qa hGB;have HWB:=Qa hWB;clear hGB hWB;obtain ⟨y0,hy0⟩:=Qb ((Jw J).1.is);obtain ⟨y1,hy1⟩:=Qb ((Jw J).1.lo);obtain ⟨y2,hy2⟩:=Qb ((Jw J).1.hi);obtain ⟨y3,hy3⟩:=Qb ((Jw J).2.is);obtain ⟨y4,hy4⟩:=Qb ((Jw J).2.lo);obtain ⟨y5,hy5⟩:=Qb ((Jw J).2.hi);obtain ⟨z1,hz1⟩:=Qb ((lim U).1);obtain ⟨z2,hz2⟩:=Qb ((lim U).2);rw [<-hy0]at m0;rw [<-hy1]at m1;rw [<-hy2]at m2;rw [<-hy3]at m3;rw [<-hy4]at m4;rw [<-hy5]at m5;rw [<-hy0,<-hy1,<-hy2,<-hy3,<-hy4,<-hy5]at cF;rw [<-hz1,<-hz2]at cW;rw [<-hz1]at kl;rw [<-hz2]at kh;clear hy0 hy1 hy2 hy3 hy4 hy5 hz1 hz2;have hUi:(U:Int)<5:=(by omega);have hJi:(J:Int)<11:=(by omega);cases WB
   all_goals
    refine wp_region_quiet_below (by kernel_rfl) (by kernel_rfl) ?_
    repeat (any_goals (first |go_big_quiet_step (first |exact cF _ _ |exact cW _ _) |quiet_step (first |exact cF _ _ |exact cW _ _)))
    refine wpQuiet_nil ?_;intro _ hw';obtain ⟨⟨dq,osq⟩,hw''⟩:=hw';obtain ⟨w2,hw2⟩:=Qb (Sort.grow (redrawn w1 dq) osq);have HB3:Hid (Below w.heap.size w w2):=(by rw [hw2];exact HB1.out.trans ((below_regrown w1 dq osq).mono HB1.out.size));rw [hw'',<-hw2];clear hw2 hw'' kn ks1 ku kj kl kh m0 m1 m2 m3 m4 m5 cF cW;go_wp2_with fail;go_ret;exact ⟨by rw [HRg.out (by first |rfl |trivial) M0.out,<-HWB.out,<-HGB.out];rfl,HB3.out⟩
  ·have Wbr:s.toList.isEmpty=false:=(by rw [X9.out,List.isEmpty_eq_false_iff];exact hse);have Wii: ¬s.toList=[]:=(by rw [X9.out];exact hse);have M0:=Qa hse;clear hse;go_enter func114,ntmps114;go_wp2_with fail;go_ret;exact ⟨by rw [HRh.out (by first |rfl |trivial) M0.out];rfl,Qag.alloc (by simp) _⟩
theorem Wkc (a:Option Addr) (c:Nat) (l:List Nd) (x:Nd) (w:World) (hT:Dp w) (hN:Nodes w a l) (hx:Ok w x) (hI:Sr l x.kids) (hKn:Z6 (kd l x.kids)) (hll:l.length<=9223372036854775807):
  Calls prog 114 #[.slice a l.length c,x.v] w λe w'=>e= .returned (.bool (Qg9 l x))/\Below w.heap.size w w':=by
 obtain ⟨K,ka,kc,ks,n,s,at_⟩:=x;have h1:=hx.rows;have h2:=hx.cap;have h3:=hx.len;have h4:=hx.s;by_cases h:K<1\/26<K\/at_<0
 ·refine (Wrm _ K ka kc ks.length n s at_ w h).mono ?_;rintro e w' ⟨rfl,hb⟩;refine ⟨?_,hb⟩;unfold Qg9;rw [Qk h]
 ·obtain ⟨k,rfl⟩: ∃k:Nat,K=k:=⟨K.toNat,by omega⟩;refine (Weh a ka c k kc ks.length l ks n s at_ w (by omega) (by omega) (by omega) h4 hT hN h1 hI hKn rfl h2 h3 hll).mono ?_;rintro e w' ⟨rfl,hb⟩;refine ⟨?_,hb⟩;unfold Qg9;rw [Qd h];rfl
theorem Wdh: ∀k:Fin 27,Za 1 (k.val:Int)=Q6 k.val/\Za 2 (k.val:Int)=Jv k.val/\Za 4 (k.val:Int)=decide ((k.val:Int)=23)/\Za 8 (k.val:Int)=decide ((k.val:Int)=11)/\Za 16 (k.val:Int)=decide ((k.val:Int)=24)/\Za 32 (k.val:Int)=decide ((k.val:Int)=25):=by decide+kernel
theorem Q06 (k:Int):Za 0 k=false:=by unfold Za;simp
theorem Y8 {ks:List Int} (h:Z6 ks) {j:Nat} (hj:j<ks.length):Za 1 (ks.getD j 0)=Q6 (ks.getD j 0)/\Za 2 (ks.getD j 0)=Jv (ks.getD j 0)/\Za 4 (ks.getD j 0)=decide (ks.getD j 0=23)/\Za 8 (ks.getD j 0)=decide (ks.getD j 0=11)/\Za 16 (ks.getD j 0)=decide (ks.getD j 0=24)/\Za 32 (ks.getD j 0)=decide (ks.getD j 0=25):=by obtain ⟨k,hk,hlt⟩:=h j hj;rw [hk];exact Wdh ⟨k,hlt⟩
theorem Qtl {m:Nat}: ∀{ks:List Int} {j:Nat},j<Xx m ks->Za m (ks.getD j 0)=true
 | [],j,h=>by simp [Xx]at h
 |x::r,j,h=>by
  unfold Xx at h;rw [List.takeWhile_cons]at h;split at h
  ·rename_i hx;cases j with
   |zero=>exact hx
   |succ j=>
    have:=Qtl (m:=m) (ks:=r) (j:=j) (by unfold Xx;simpa using h);simpa using this
  ·simp at h
theorem Qi1 {p:Nat->Pt} {ks:List Int} (hd: ∀j,j<ks.length->Za (p 1).is (ks.getD j 0)=true->Za (p 0).is (ks.getD j 0)=false):
  greedy p ks=true↔ ∃n,n<=ks.length/\(∀j,j<n->Za (p 0).is (ks.getD j 0)=true)/\(∀j,n<=j->j<ks.length->Za (p 1).is (ks.getD j 0)=true)/\((p 0).lo<=(n:Int)/\(n:Int)<=(p 0).hi)/\((p 1).lo<=((ks.length-n:Nat):Int)/\((ks.length-n:Nat):Int)<=(p 1).hi):=by
 have hb: ∀lo hi n:Int,Am lo hi n=true↔lo<=n/\n<=hi:=by intro lo hi n;simp [Am]
 have r1:rem p ks 1=if Am (p 0).lo (p 0).hi (Xx (p 0).is ks:Int)then some (ks.drop (Xx (p 0).is ks))else none:=rfl;constructor
 ·intro h;have h1:Am (p 0).lo (p 0).hi (Xx (p 0).is ks:Int)=true:=by
   cases hh:Am (p 0).lo (p 0).hi (Xx (p 0).is ks:Int)with
   |true=>rfl
   |false=>rw [Qor (i:=0) (by omega) (by rw [r1,hh];rfl)]at h;cases h
  have e1:rem p ks 1=some (ks.drop (Xx (p 0).is ks)):=by rw [r1,h1];rfl
  have h2:Am (p 1).lo (p 1).hi (Xx (p 1).is (ks.drop (Xx (p 0).is ks)):Int)=true:=by
   cases hh:Am (p 1).lo (p 1).hi (Xx (p 1).is (ks.drop (Xx (p 0).is ks)):Int)with
   |true=>rfl
   |false=>rw [Qor (i:=1) (by omega) (Qv7 e1 hh)]at h;cases h
  have e2:=Qj8 e1 h2;rw [Qn2 e2,Wt,Vf,Vf]at h;have l1:=Qy7 (p 0).is ks;have l2:=Qy7 (p 1).is (ks.drop (Xx (p 0).is ks));rw [Vf]at l2;have e3:Xx (p 1).is (ks.drop (Xx (p 0).is ks))=ks.length-Xx (p 0).is ks:=by omega
  rw [e3]at h2;refine ⟨Xx (p 0).is ks,l1,?_,?_,(hb _ _ _).1 h1,(hb _ _ _).1 h2⟩
  ·intro j hj;exact Qtl hj
  ·intro j hj hjl;have:=Qtl (m:=(p 1).is) (ks:=ks.drop (Xx (p 0).is ks)) (j:=j-Xx (p 0).is ks) (by omega);rw [Ro]at this;rw [show Xx (p 0).is ks+(j-Xx (p 0).is ks)=j by omega]at this;exact this
 ·rintro ⟨n,hn,hP,hQ,h1,h2⟩;have e0:Xx (p 0).is ks=n:=Qi2 hP hn (λh=>hd n h (hQ n (Qh _) h));have e1:rem p ks 1=some (ks.drop n):=by rw [r1,e0,(hb _ _ _).2 h1];rfl
  have e3:Xx (p 1).is (ks.drop n)=ks.length-n:=Qi2 (λj hj=>by rw [Ro];exact hQ (n+j) (by omega) (by omega)) (by rw [Vf];exact Qh _) (λh=>by rw [Vf]at h;omega);have e2:=Qj8 e1 (by rw [e3];exact (hb _ _ _).2 h2);rw [Qn2 e2,e3,Wt,Vf,Vf];omega
theorem I4 {ks:List Int} {n:Nat}:exprs ks n=true↔n<=ks.length/\ ∀j,j<n->Q6 (ks.getD j 0)=true:=by
 constructor
 ·intro h;rcases V7 ks.length n with g |g
  ·rw [Wks g]at h;cases h
  ·refine ⟨g,λj hj=> ?_⟩;cases hh:Q6 (ks.getD j 0)with
   |true=>rfl
   |false=>rw [Wpd hj g hh]at h;cases h
 ·rintro ⟨h1,h2⟩;exact Wcj h1 h2
theorem Qik {ks:List Int} {K:Int} {m:Nat}:Jd ks K m=true↔(∀j,j<ks.length->ks.getD j 0=K)/\ks.length<=m:=by
 constructor
 ·intro h;have h1: ∀j,j<ks.length->ks.getD j 0=K:=by
   intro j hj;by_cases hh:ks.getD j 0=K
   ·exact hh
   ·rw [Wo7 hj hh]at h;cases h
  rw [Q5q h1,Wt]at h;exact ⟨h1,h⟩
 ·rintro ⟨h1,h2⟩;rw [Q5q h1,decide_eq_true h2]
theorem Whr {ks:List Int}:ks.all Jv=true↔ ∀j,j<ks.length->Jv (ks.getD j 0)=true:=by
 constructor
 ·intro h j hj;cases hh:Jv (ks.getD j 0)with
  |true=>rfl
  |false=>rw [Wch hj hh]at h;cases h
 ·exact Wd1
theorem Cy {p:Nat->Pt} {ks:List Int} {m:Nat} {lo hi:Int} (h0:p 0=⟨m,lo,hi⟩) (h1:p 1=⟨0,0,0⟩):greedy p ks=true↔(∀j,j<ks.length->Za m (ks.getD j 0)=true)/\lo<=(ks.length:Int)/\(ks.length:Int)<=hi:=by
 rw [Qi1 (by intro j _ h;rw [h1,Q06]at h;cases h),h0,h1];constructor
 ·rintro ⟨n,hn,hP,hQ,hb,_⟩;have:n=ks.length:=by
   rcases V7 n ks.length with g |g
   ·have:=hQ n (Qh _) g;rw [Q06]at this;cases this
   ·omega
  subst this;exact ⟨hP,hb⟩
 ·rintro ⟨hP,hb⟩;exact ⟨ks.length,Qh _,hP,λj h1 h2=>by omega,hb,by simp⟩
theorem Kq {a b:Bool} (h:a=true↔b=true):a=b:=by rw [Bool.eq_iff_iff];exact h
theorem Wj7 {ks:List Int} (hK:Z6 ks):greedy (Yu 5) ks=Y9 5 ks:=by
 refine Kq ?_;rw [Cy (p:=Yu 5) (m:=1) (lo:=2) (hi:=2) rfl rfl];show _↔(decide (ks.length=2)&&exprs ks 2)=true;rw [Yo,Wt,I4];constructor
 ·rintro ⟨h1,h2,h3⟩;exact ⟨by omega,by omega,λj hj=>by rw [<-(Y8 hK (j:=j) (by omega)).1];exact h1 j (by omega)⟩
 ·rintro ⟨h1,h2,h3⟩;exact ⟨λj hj=>by rw [(Y8 hK hj).1];exact h3 j (by omega),by omega,by omega⟩
theorem Wpg {ks:List Int} (hK:Z6 ks):greedy (Yu 8) ks=Y9 8 ks:=by
 refine Kq ?_;rw [Cy (p:=Yu 8) (m:=1) (lo:=2) (hi:=2) rfl rfl];show _↔(decide (ks.length=2)&&exprs ks 2)=true;rw [Yo,Wt,I4];constructor
 ·rintro ⟨h1,h2,h3⟩;exact ⟨by omega,by omega,λj hj=>by rw [<-(Y8 hK (j:=j) (by omega)).1];exact h1 j (by omega)⟩
 ·rintro ⟨h1,h2,h3⟩;exact ⟨λj hj=>by rw [(Y8 hK hj).1];exact h3 j (by omega),by omega,by omega⟩
theorem Q8z {ks:List Int} (hK:Z6 ks):greedy (Yu 14) ks=Y9 14 ks:=by
 refine Kq ?_;rw [Cy (p:=Yu 14) (m:=1) (lo:=2) (hi:=2) rfl rfl];show _↔(decide (ks.length=2)&&exprs ks 2)=true;rw [Yo,Wt,I4];constructor
 ·rintro ⟨h1,h2,h3⟩;exact ⟨by omega,by omega,λj hj=>by rw [<-(Y8 hK (j:=j) (by omega)).1];exact h1 j (by omega)⟩
 ·rintro ⟨h1,h2,h3⟩;exact ⟨λj hj=>by rw [(Y8 hK hj).1];exact h3 j (by omega),by omega,by omega⟩
theorem Wlv {ks:List Int} (hK:Z6 ks):greedy (Yu 6) ks=Y9 6 ks:=by
 refine Kq ?_;rw [Cy (p:=Yu 6) (m:=1) (lo:=1) (hi:=1) rfl rfl];show _↔(decide (ks.length=1)&&exprs ks 1)=true;rw [Yo,Wt,I4];constructor
 ·rintro ⟨h1,h2,h3⟩;exact ⟨by omega,by omega,λj hj=>by rw [<-(Y8 hK (j:=j) (by omega)).1];exact h1 j (by omega)⟩
 ·rintro ⟨h1,h2,h3⟩;exact ⟨λj hj=>by rw [(Y8 hK hj).1];exact h3 j (by omega),by omega,by omega⟩
theorem Wb0 {ks:List Int} (hK:Z6 ks):greedy (Yu 7) ks=Y9 7 ks:=by
 refine Kq ?_;rw [Cy (p:=Yu 7) (m:=1) (lo:=1) (hi:=1) rfl rfl];show _↔(decide (ks.length=1)&&exprs ks 1)=true;rw [Yo,Wt,I4];constructor
 ·rintro ⟨h1,h2,h3⟩;exact ⟨by omega,by omega,λj hj=>by rw [<-(Y8 hK (j:=j) (by omega)).1];exact h1 j (by omega)⟩
 ·rintro ⟨h1,h2,h3⟩;exact ⟨λj hj=>by rw [(Y8 hK hj).1];exact h3 j (by omega),by omega,by omega⟩
theorem Wd4 {ks:List Int} (hK:Z6 ks):greedy (Yu 9) ks=Y9 9 ks:=by
 refine Kq ?_;rw [Cy (p:=Yu 9) (m:=1) (lo:=1) (hi:=1) rfl rfl];show _↔(decide (ks.length=1)&&exprs ks 1)=true;rw [Yo,Wt,I4];constructor
 ·rintro ⟨h1,h2,h3⟩;exact ⟨by omega,by omega,λj hj=>by rw [<-(Y8 hK (j:=j) (by omega)).1];exact h1 j (by omega)⟩
 ·rintro ⟨h1,h2,h3⟩;exact ⟨λj hj=>by rw [(Y8 hK hj).1];exact h3 j (by omega),by omega,by omega⟩
theorem Q87 {ks:List Int} (hK:Z6 ks):greedy (Yu 10) ks=Y9 10 ks:=by
 refine Kq ?_;rw [Cy (p:=Yu 10) (m:=1) (lo:=1) (hi:=1) rfl rfl];show _↔(decide (ks.length=1)&&exprs ks 1)=true;rw [Yo,Wt,I4];constructor
 ·rintro ⟨h1,h2,h3⟩;exact ⟨by omega,by omega,λj hj=>by rw [<-(Y8 hK (j:=j) (by omega)).1];exact h1 j (by omega)⟩
 ·rintro ⟨h1,h2,h3⟩;exact ⟨λj hj=>by rw [(Y8 hK hj).1];exact h3 j (by omega),by omega,by omega⟩
theorem Wp6 {ks:List Int} (hK:Z6 ks):greedy (Yu 12) ks=Y9 12 ks:=by
 refine Kq ?_;rw [Cy (p:=Yu 12) (m:=1) (lo:=1) (hi:=1) rfl rfl];show _↔(decide (ks.length=1)&&exprs ks 1)=true;rw [Yo,Wt,I4];constructor
 ·rintro ⟨h1,h2,h3⟩;exact ⟨by omega,by omega,λj hj=>by rw [<-(Y8 hK (j:=j) (by omega)).1];exact h1 j (by omega)⟩
 ·rintro ⟨h1,h2,h3⟩;exact ⟨λj hj=>by rw [(Y8 hK hj).1];exact h3 j (by omega),by omega,by omega⟩
theorem Waj {ks:List Int} (hK:Z6 ks):greedy (Yu 13) ks=Y9 13 ks:=by
 refine Kq ?_;rw [Cy (p:=Yu 13) (m:=1) (lo:=1) (hi:=1) rfl rfl];show _↔(decide (ks.length=1)&&exprs ks 1)=true;rw [Yo,Wt,I4];constructor
 ·rintro ⟨h1,h2,h3⟩;exact ⟨by omega,by omega,λj hj=>by rw [<-(Y8 hK (j:=j) (by omega)).1];exact h1 j (by omega)⟩
 ·rintro ⟨h1,h2,h3⟩;exact ⟨λj hj=>by rw [(Y8 hK hj).1];exact h3 j (by omega),by omega,by omega⟩
theorem Wp0 {ks:List Int} (hK:Z6 ks):greedy (Yu 20) ks=Y9 20 ks:=by
 refine Kq ?_;rw [Cy (p:=Yu 20) (m:=1) (lo:=1) (hi:=1) rfl rfl];show _↔(decide (ks.length=1)&&exprs ks 1)=true;rw [Yo,Wt,I4];constructor
 ·rintro ⟨h1,h2,h3⟩;exact ⟨by omega,by omega,λj hj=>by rw [<-(Y8 hK (j:=j) (by omega)).1];exact h1 j (by omega)⟩
 ·rintro ⟨h1,h2,h3⟩;exact ⟨λj hj=>by rw [(Y8 hK hj).1];exact h3 j (by omega),by omega,by omega⟩
theorem Q9h {ks:List Int} (hK:Z6 ks):greedy (Yu 21) ks=Y9 21 ks:=by
 refine Kq ?_;rw [Cy (p:=Yu 21) (m:=1) (lo:=1) (hi:=1) rfl rfl];show _↔(decide (ks.length=1)&&exprs ks 1)=true;rw [Yo,Wt,I4];constructor
 ·rintro ⟨h1,h2,h3⟩;exact ⟨by omega,by omega,λj hj=>by rw [<-(Y8 hK (j:=j) (by omega)).1];exact h1 j (by omega)⟩
 ·rintro ⟨h1,h2,h3⟩;exact ⟨λj hj=>by rw [(Y8 hK hj).1];exact h3 j (by omega),by omega,by omega⟩
theorem Wpa {ks:List Int} (hK:Z6 ks):greedy (Yu 11) ks=Y9 11 ks:=by
 refine Kq ?_;rw [Cy (p:=Yu 11) (m:=1) (lo:=0) (hi:=8) rfl rfl];show _↔(decide (ks.length<=8)&&exprs ks ks.length)=true;rw [Yo,Wt,I4];constructor
 ·rintro ⟨h1,h2,h3⟩;exact ⟨by omega,by omega,λj hj=>by rw [<-(Y8 hK (j:=j) (by omega)).1];exact h1 j (by omega)⟩
 ·rintro ⟨h1,h2,h3⟩;exact ⟨λj hj=>by rw [(Y8 hK hj).1];exact h3 j (by omega),by omega,by omega⟩
theorem Wb5 {ks:List Int} (hK:Z6 ks):greedy (Yu 15) ks=Y9 15 ks:=by
 refine Kq ?_;have hd: ∀j,j<ks.length->Za (Yu 15 1).is (ks.getD j 0)=true->Za (Yu 15 0).is (ks.getD j 0)=false:=by intro j hj h;have h4:Za 4 (ks.getD j 0)=true:=h;rw [(Y8 hK hj).2.2.1,Wt]at h4;show Za 1 (ks.getD j 0)=false;rw [(Y8 hK hj).1,h4];rfl
 rw [Qi1 hd];show (∃n,n<=ks.length/\(∀j,j<n->Za 1 (ks.getD j 0)=true)/\(∀j,n<=j->j<ks.length->Za 4 (ks.getD j 0)=true)/\((1:Int)<=(n:Int)/\(n:Int)<=1)/\((1:Int)<=((ks.length-n:Nat):Int)/\((ks.length-n:Nat):Int)<=2))↔(exprs ks 1&&decide (2<=ks.length)&&Jd (ks.drop 1) 23 2)=true;rw [Yo,Yo,Wt,I4,Qik,Vf];constructor
 ·rintro ⟨n,hn,hP,hQ,h1,h2⟩;obtain rfl:n=1:=by omega
  refine ⟨⟨⟨hn,λj hj=>by rw [<-(Y8 hK (j:=j) (by omega)).1];exact hP j hj⟩,by omega⟩,λj hj=> ?_,by omega⟩;have:=hQ (1+j) (by omega) (by omega);rw [(Y8 hK (by omega)).2.2.1,Wt]at this;rw [Ro];exact this
 ·rintro ⟨⟨⟨h1,h2⟩,h3⟩,h4,h5⟩;refine ⟨1,h1,λj hj=>by rw [(Y8 hK (by omega)).1];exact h2 j hj,λj hj hl=> ?_,by omega,by omega⟩;have:=h4 (j-1) (by omega);rw [Ro,show 1+(j-1)=j by omega]at this;rw [(Y8 hK hl).2.2.1,Wt];exact this
theorem Wod {ks:List Int} (hK:Z6 ks):greedy (Yu 16) ks=Y9 16 ks:=by
 refine Kq ?_;have hd: ∀j,j<ks.length->Za (Yu 16 1).is (ks.getD j 0)=true->Za (Yu 16 0).is (ks.getD j 0)=false:=by intro j hj h;have h4:Za 4 (ks.getD j 0)=true:=h;rw [(Y8 hK hj).2.2.1,Wt]at h4;show Za 1 (ks.getD j 0)=false;rw [(Y8 hK hj).1,h4];rfl
 rw [Qi1 hd];show (∃n,n<=ks.length/\(∀j,j<n->Za 1 (ks.getD j 0)=true)/\(∀j,n<=j->j<ks.length->Za 4 (ks.getD j 0)=true)/\((1:Int)<=(n:Int)/\(n:Int)<=1)/\((1:Int)<=((ks.length-n:Nat):Int)/\((ks.length-n:Nat):Int)<=1))↔(exprs ks 1&&decide (ks.length=2)&&Jd (ks.drop 1) 23 1)=true;rw [Yo,Yo,Wt,I4,Qik,Vf];constructor
 ·rintro ⟨n,hn,hP,hQ,h1,h2⟩;obtain rfl:n=1:=by omega
  refine ⟨⟨⟨hn,λj hj=>by rw [<-(Y8 hK (j:=j) (by omega)).1];exact hP j hj⟩,by omega⟩,λj hj=> ?_,by omega⟩;have:=hQ (1+j) (by omega) (by omega);rw [(Y8 hK (by omega)).2.2.1,Wt]at this;rw [Ro];exact this
 ·rintro ⟨⟨⟨h1,h2⟩,h3⟩,h4,h5⟩;refine ⟨1,h1,λj hj=>by rw [(Y8 hK (by omega)).1];exact h2 j hj,λj hj hl=> ?_,by omega,by omega⟩;have:=h4 (j-1) (by omega);rw [Ro,show 1+(j-1)=j by omega]at this;rw [(Y8 hK hl).2.2.1,Wt];exact this
theorem Weq {ks:List Int} (hK:Z6 ks):greedy (Yu 17) ks=Y9 17 ks:=by
 refine Kq ?_;have hd: ∀j,j<ks.length->Za (Yu 17 1).is (ks.getD j 0)=true->Za (Yu 17 0).is (ks.getD j 0)=false:=by intro j hj h;have h4:Za 4 (ks.getD j 0)=true:=h;rw [(Y8 hK hj).2.2.1,Wt]at h4;show Za 1 (ks.getD j 0)=false;rw [(Y8 hK hj).1,h4];rfl
 rw [Qi1 hd];show (∃n,n<=ks.length/\(∀j,j<n->Za 1 (ks.getD j 0)=true)/\(∀j,n<=j->j<ks.length->Za 4 (ks.getD j 0)=true)/\((2:Int)<=(n:Int)/\(n:Int)<=2)/\((1:Int)<=((ks.length-n:Nat):Int)/\((ks.length-n:Nat):Int)<=1))↔(exprs ks 2&&decide (ks.length=3)&&Jd (ks.drop 2) 23 1)=true;rw [Yo,Yo,Wt,I4,Qik,Vf];constructor
 ·rintro ⟨n,hn,hP,hQ,h1,h2⟩;obtain rfl:n=2:=by omega
  refine ⟨⟨⟨hn,λj hj=>by rw [<-(Y8 hK (j:=j) (by omega)).1];exact hP j hj⟩,by omega⟩,λj hj=> ?_,by omega⟩;have:=hQ (2+j) (by omega) (by omega);rw [(Y8 hK (by omega)).2.2.1,Wt]at this;rw [Ro];exact this
 ·rintro ⟨⟨⟨h1,h2⟩,h3⟩,h4,h5⟩;refine ⟨2,h1,λj hj=>by rw [(Y8 hK (by omega)).1];exact h2 j hj,λj hj hl=> ?_,by omega,by omega⟩;have:=h4 (j-2) (by omega);rw [Ro,show 2+(j-2)=j by omega]at this;rw [(Y8 hK hl).2.2.1,Wt];exact this
theorem Wc4 {ks:List Int} (hK:Z6 ks):greedy (Yu 22) ks=Y9 22 ks:=by
 refine Kq ?_;rw [Cy (p:=Yu 22) (m:=8) (lo:=1) (hi:=1) rfl rfl];show _↔(decide (ks.length=1)&&decide (ks.getD 0 0=11))=true;rw [Yo,Wt,Wt];constructor
 ·rintro ⟨h1,h2,h3⟩;refine ⟨by omega,?_⟩;have:=h1 0 (by omega);rw [(Y8 hK (by omega)).2.2.2.1,Wt]at this;exact this
 ·rintro ⟨h1,h2⟩;refine ⟨λj hj=> ?_,by omega,by omega⟩;obtain rfl:j=0:=by omega
  rw [(Y8 hK hj).2.2.2.1,Wt];exact h2
theorem Wnf {ks:List Int} (hK:Z6 ks) (hl:ks.length<=9223372036854775807):greedy (Yu 23) ks=Y9 23 ks:=by
 refine Kq ?_;rw [Cy (p:=Yu 23) (m:=2) (lo:=0) (hi:=9223372036854775807) rfl rfl];show _↔ks.all Jv=true;rw [Whr];constructor
 ·rintro ⟨h1,_⟩ j hj;rw [<-(Y8 hK hj).2.1];exact h1 j hj
 ·intro h;exact ⟨λj hj=>by rw [(Y8 hK hj).2.1];exact h j hj,by omega,by omega⟩
theorem Wlk {ks:List Int} (hK:Z6 ks):greedy (Yu 25) ks=Y9 25 ks:=by
 refine Kq ?_;have hd: ∀j,j<ks.length->Za (Yu 25 1).is (ks.getD j 0)=true->Za (Yu 25 0).is (ks.getD j 0)=false:=by intro j hj h;have h4:Za 4 (ks.getD j 0)=true:=h;rw [(Y8 hK hj).2.2.1,Wt]at h4;show Za 16 (ks.getD j 0)=false;rw [(Y8 hK hj).2.2.2.2.1,h4];rfl
 rw [Qi1 hd];show (∃n,n<=ks.length/\(∀j,j<n->Za 16 (ks.getD j 0)=true)/\(∀j,n<=j->j<ks.length->Za 4 (ks.getD j 0)=true)/\((0:Int)<=(n:Int)/\(n:Int)<=8)/\((1:Int)<=((ks.length-n:Nat):Int)/\((ks.length-n:Nat):Int)<=1))↔(decide (1<=ks.length)&&Jd (ks.take (ks.length-1)) 24 8&&decide (ks.getD (ks.length-1) 0=23))=true;rw [Yo,Yo,Wt,Wt,Qik,F9];constructor
 ·rintro ⟨n,hn,hP,hQ,h1,h2⟩;have e:ks.length-1=n:=by omega
  rw [e];refine ⟨⟨by omega,λj hj=> ?_,by omega⟩,?_⟩
  ·have:=hP j (by omega);rw [(Y8 hK (by omega)).2.2.2.2.1,Wt]at this;rw [Q25 ks n j (by omega)];exact this
  ·have:=hQ n (Qh _) (by omega);rw [(Y8 hK (by omega)).2.2.1,Wt]at this;exact this
 ·rintro ⟨⟨h1,h2,h3⟩,h4⟩;refine ⟨ks.length-1,by omega,λj hj=> ?_,λj hj hl=> ?_,by omega,by omega⟩
  ·have:=h2 j (by omega);rw [Q25 ks _ j (by omega)]at this;rw [(Y8 hK (by omega)).2.2.2.2.1,Wt];exact this
  ·obtain rfl:j=ks.length-1:=(by omega);rw [(Y8 hK hl).2.2.1,Wt];exact h4
theorem Whh {ks:List Int} (hK:Z6 ks):greedy (Yu 26) ks=Y9 26 ks:=by
 refine Kq ?_;rw [Cy (p:=Yu 26) (m:=32) (lo:=0) (hi:=200) rfl rfl];show _↔Jd ks 25 200=true;rw [Qik];constructor
 ·rintro ⟨h1,h2,h3⟩;refine ⟨λj hj=> ?_,by omega⟩;have:=h1 j hj;rw [(Y8 hK hj).2.2.2.2.2,Wt]at this;exact this
 ·rintro ⟨h1,h2⟩;exact ⟨λj hj=>by rw [(Y8 hK hj).2.2.2.2.2,Wt];exact h1 j hj,by omega,by omega⟩
theorem Wh2 {ks:List Int} (hK:Z6 ks):greedy (Yu 1) ks=Y9 1 ks:=by
 refine Kq ?_;rw [Cy (p:=Yu 1) (m:=0) (lo:=0) (hi:=0) rfl rfl];show _↔decide (ks.length=0)=true;rw [Wt];constructor
 ·rintro ⟨h1,h2,h3⟩;omega
 ·intro h;exact ⟨λj hj=>by omega,by omega,by omega⟩
theorem Wgc {ks:List Int} (hK:Z6 ks):greedy (Yu 2) ks=Y9 2 ks:=by
 refine Kq ?_;rw [Cy (p:=Yu 2) (m:=0) (lo:=0) (hi:=0) rfl rfl];show _↔decide (ks.length=0)=true;rw [Wt];constructor
 ·rintro ⟨h1,h2,h3⟩;omega
 ·intro h;exact ⟨λj hj=>by omega,by omega,by omega⟩
theorem Wd9 {ks:List Int} (hK:Z6 ks):greedy (Yu 3) ks=Y9 3 ks:=by
 refine Kq ?_;rw [Cy (p:=Yu 3) (m:=0) (lo:=0) (hi:=0) rfl rfl];show _↔decide (ks.length=0)=true;rw [Wt];constructor
 ·rintro ⟨h1,h2,h3⟩;omega
 ·intro h;exact ⟨λj hj=>by omega,by omega,by omega⟩
theorem Wkp {ks:List Int} (hK:Z6 ks):greedy (Yu 4) ks=Y9 4 ks:=by
 refine Kq ?_;rw [Cy (p:=Yu 4) (m:=0) (lo:=0) (hi:=0) rfl rfl];show _↔decide (ks.length=0)=true;rw [Wt];constructor
 ·rintro ⟨h1,h2,h3⟩;omega
 ·intro h;exact ⟨λj hj=>by omega,by omega,by omega⟩
theorem Wje {ks:List Int} (hK:Z6 ks):greedy (Yu 18) ks=Y9 18 ks:=by
 refine Kq ?_;rw [Cy (p:=Yu 18) (m:=0) (lo:=0) (hi:=0) rfl rfl];show _↔decide (ks.length=0)=true;rw [Wt];constructor
 ·rintro ⟨h1,h2,h3⟩;omega
 ·intro h;exact ⟨λj hj=>by omega,by omega,by omega⟩
theorem Wkq {ks:List Int} (hK:Z6 ks):greedy (Yu 19) ks=Y9 19 ks:=by
 refine Kq ?_;rw [Cy (p:=Yu 19) (m:=0) (lo:=0) (hi:=0) rfl rfl];show _↔decide (ks.length=0)=true;rw [Wt];constructor
 ·rintro ⟨h1,h2,h3⟩;omega
 ·intro h;exact ⟨λj hj=>by omega,by omega,by omega⟩
theorem Wdj {ks:List Int} (hK:Z6 ks):greedy (Yu 24) ks=Y9 24 ks:=by
 refine Kq ?_;rw [Cy (p:=Yu 24) (m:=0) (lo:=0) (hi:=0) rfl rfl];show _↔decide (ks.length=0)=true;rw [Wt];constructor
 ·rintro ⟨h1,h2,h3⟩;omega
 ·intro h;exact ⟨λj hj=>by omega,by omega,by omega⟩
theorem Wpk: ∀(k:Nat) {ks:List Int},1<=k->k<=26->Z6 ks->ks.length<=9223372036854775807->greedy (Yu k) ks=Y9 (k:Int) ks
 | 0,ks,h1,_,_,_=>by omega
 | 1,ks,_,_,hK,hl=>Wh2 hK
 | 2,ks,_,_,hK,hl=>Wgc hK
 | 3,ks,_,_,hK,hl=>Wd9 hK
 | 4,ks,_,_,hK,hl=>Wkp hK
 | 5,ks,_,_,hK,hl=>Wj7 hK
 | 6,ks,_,_,hK,hl=>Wlv hK
 | 7,ks,_,_,hK,hl=>Wb0 hK
 | 8,ks,_,_,hK,hl=>Wpg hK
 | 9,ks,_,_,hK,hl=>Wd4 hK
 | 10,ks,_,_,hK,hl=>Q87 hK
 | 11,ks,_,_,hK,hl=>Wpa hK
 | 12,ks,_,_,hK,hl=>Wp6 hK
 | 13,ks,_,_,hK,hl=>Waj hK
 | 14,ks,_,_,hK,hl=>Q8z hK
 | 15,ks,_,_,hK,hl=>Wb5 hK
 | 16,ks,_,_,hK,hl=>Wod hK
 | 17,ks,_,_,hK,hl=>Weq hK
 | 18,ks,_,_,hK,hl=>Wje hK
 | 19,ks,_,_,hK,hl=>Wkq hK
 | 20,ks,_,_,hK,hl=>Wp0 hK
 | 21,ks,_,_,hK,hl=>Q9h hK
 | 22,ks,_,_,hK,hl=>Wc4 hK
 | 23,ks,_,_,hK,hl=>Wnf hK hl
 | 24,ks,_,_,hK,hl=>Wdj hK
 | 25,ks,_,_,hK,hl=>Wlk hK
 | 26,ks,_,_,hK,hl=>Whh hK
 |n+27,ks,_,h,_,_=>by omega
theorem Wlo: ∀(k:Nat) (n:Int),1<=k->k<=26->n<=9223372036854775807->Am (lim (numOf k)).1 (lim (numOf k)).2 n=Ej (k:Int) n
 | 0,n,h1,_,_=>by omega
 | 1,n,_,_,h=>by show (decide ((0:Int)<=n)&&decide (n<=(9223372036854775807:Int)))=decide (0<=n);first |rfl |(rw [Bool.eq_iff_iff];simp;done) |(rw [Bool.eq_iff_iff];simp;omega)
 | 2,n,_,_,h=>by show (decide ((0:Int)<=n)&&decide (n<=(1:Int)))=(decide (n=0)||decide (n=1));first |rfl |(rw [Bool.eq_iff_iff];simp;done) |(rw [Bool.eq_iff_iff];simp;omega)
 | 3,n,_,_,h=>by show (decide ((0:Int)<=n)&&decide (n<=(0:Int)))=decide (n=0);first |rfl |(rw [Bool.eq_iff_iff];simp;done) |(rw [Bool.eq_iff_iff];simp;omega)
 | 4,n,_,_,h=>by show (decide ((0:Int)<=n)&&decide (n<=(0:Int)))=decide (n=0);first |rfl |(rw [Bool.eq_iff_iff];simp;done) |(rw [Bool.eq_iff_iff];simp;omega)
 | 5,n,_,_,h=>by show (decide ((1:Int)<=n)&&decide (n<=(16:Int)))=(decide (1<=n)&&decide (n<=16));first |rfl |(rw [Bool.eq_iff_iff];simp;done) |(rw [Bool.eq_iff_iff];simp;omega)
 | 6,n,_,_,h=>by show (decide ((0:Int)<=n)&&decide (n<=(0:Int)))=decide (n=0);first |rfl |(rw [Bool.eq_iff_iff];simp;done) |(rw [Bool.eq_iff_iff];simp;omega)
 | 7,n,_,_,h=>by show (decide ((0:Int)<=n)&&decide (n<=(0:Int)))=decide (n=0);first |rfl |(rw [Bool.eq_iff_iff];simp;done) |(rw [Bool.eq_iff_iff];simp;omega)
 | 8,n,_,_,h=>by show (decide ((0:Int)<=n)&&decide (n<=(0:Int)))=decide (n=0);first |rfl |(rw [Bool.eq_iff_iff];simp;done) |(rw [Bool.eq_iff_iff];simp;omega)
 | 9,n,_,_,h=>by show (decide ((0:Int)<=n)&&decide (n<=(0:Int)))=decide (n=0);first |rfl |(rw [Bool.eq_iff_iff];simp;done) |(rw [Bool.eq_iff_iff];simp;omega)
 | 10,n,_,_,h=>by show (decide ((0:Int)<=n)&&decide (n<=(0:Int)))=decide (n=0);first |rfl |(rw [Bool.eq_iff_iff];simp;done) |(rw [Bool.eq_iff_iff];simp;omega)
 | 11,n,_,_,h=>by show (decide ((0:Int)<=n)&&decide (n<=(0:Int)))=decide (n=0);first |rfl |(rw [Bool.eq_iff_iff];simp;done) |(rw [Bool.eq_iff_iff];simp;omega)
 | 12,n,_,_,h=>by show (decide ((0:Int)<=n)&&decide (n<=(0:Int)))=decide (n=0);first |rfl |(rw [Bool.eq_iff_iff];simp;done) |(rw [Bool.eq_iff_iff];simp;omega)
 | 13,n,_,_,h=>by show (decide ((0:Int)<=n)&&decide (n<=(0:Int)))=decide (n=0);first |rfl |(rw [Bool.eq_iff_iff];simp;done) |(rw [Bool.eq_iff_iff];simp;omega)
 | 14,n,_,_,h=>by show (decide ((0:Int)<=n)&&decide (n<=(0:Int)))=decide (n=0);first |rfl |(rw [Bool.eq_iff_iff];simp;done) |(rw [Bool.eq_iff_iff];simp;omega)
 | 15,n,_,_,h=>by show (decide ((0:Int)<=n)&&decide (n<=(0:Int)))=decide (n=0);first |rfl |(rw [Bool.eq_iff_iff];simp;done) |(rw [Bool.eq_iff_iff];simp;omega)
 | 16,n,_,_,h=>by show (decide ((0:Int)<=n)&&decide (n<=(0:Int)))=decide (n=0);first |rfl |(rw [Bool.eq_iff_iff];simp;done) |(rw [Bool.eq_iff_iff];simp;omega)
 | 17,n,_,_,h=>by show (decide ((0:Int)<=n)&&decide (n<=(0:Int)))=decide (n=0);first |rfl |(rw [Bool.eq_iff_iff];simp;done) |(rw [Bool.eq_iff_iff];simp;omega)
 | 18,n,_,_,h=>by show (decide ((0:Int)<=n)&&decide (n<=(0:Int)))=decide (n=0);first |rfl |(rw [Bool.eq_iff_iff];simp;done) |(rw [Bool.eq_iff_iff];simp;omega)
 | 19,n,_,_,h=>by show (decide ((0:Int)<=n)&&decide (n<=(0:Int)))=decide (n=0);first |rfl |(rw [Bool.eq_iff_iff];simp;done) |(rw [Bool.eq_iff_iff];simp;omega)
 | 20,n,_,_,h=>by show (decide ((0:Int)<=n)&&decide (n<=(0:Int)))=decide (n=0);first |rfl |(rw [Bool.eq_iff_iff];simp;done) |(rw [Bool.eq_iff_iff];simp;omega)
 | 21,n,_,_,h=>by show (decide ((0:Int)<=n)&&decide (n<=(0:Int)))=decide (n=0);first |rfl |(rw [Bool.eq_iff_iff];simp;done) |(rw [Bool.eq_iff_iff];simp;omega)
 | 22,n,_,_,h=>by show (decide ((0:Int)<=n)&&decide (n<=(0:Int)))=decide (n=0);first |rfl |(rw [Bool.eq_iff_iff];simp;done) |(rw [Bool.eq_iff_iff];simp;omega)
 | 23,n,_,_,h=>by show (decide ((0:Int)<=n)&&decide (n<=(0:Int)))=decide (n=0);first |rfl |(rw [Bool.eq_iff_iff];simp;done) |(rw [Bool.eq_iff_iff];simp;omega)
 | 24,n,_,_,h=>by show (decide ((1:Int)<=n)&&decide (n<=(3:Int)))=(decide (1<=n)&&decide (n<=3));first |rfl |(rw [Bool.eq_iff_iff];simp;done) |(rw [Bool.eq_iff_iff];simp;omega)
 | 25,n,_,_,h=>by show (decide ((1:Int)<=n)&&decide (n<=(3:Int)))=(decide (1<=n)&&decide (n<=3));first |rfl |(rw [Bool.eq_iff_iff];simp;done) |(rw [Bool.eq_iff_iff];simp;omega)
 | 26,n,_,_,h=>by show (decide ((0:Int)<=n)&&decide (n<=(0:Int)))=decide (n=0);first |rfl |(rw [Bool.eq_iff_iff];simp;done) |(rw [Bool.eq_iff_iff];simp;omega)
 |n+27,_,_,h,_=>by omega
theorem Wfq {l:List Nd} {x:Nd} (hK:Z6 (kd l x.kids)) (hn:x.n<=9223372036854775807) (hl:x.kids.length<=9223372036854775807):Qg9 l x=J7 l x:=by
 unfold Qg9 J7;by_cases h:x.kind<1\/26<x.kind\/x.at_<0
 ·rw [Qk h,Wng (by omega)];rfl
 ·rw [Qd h];obtain ⟨k,hk⟩: ∃k:Nat,x.kind=(k:Int):=⟨x.kind.toNat,by omega⟩;have h1:1<=k:=by omega
  have h2:k<=26:=by omega
  unfold ownB;rw [decide_eq_true (show 1<=x.kind by omega),decide_eq_true (show x.kind<=26 by omega),decide_eq_true (show 0<=x.at_ by omega),hk,Ja,Wlo k x.n h1 h2 hn,Wpk k h1 h2 hK (by rw [Qcm];exact hl),Wjw k (by omega)];show _=(true&&true&&true&&(if Qej k=true then Xa x.t else decide (x.t=[]))&&Ej (k:Int) x.n&&Y9 (k:Int) (kd l x.kids));cases (if Qej k=true then Xa x.t else decide (x.t=[]))<;>simp
theorem Wmw (a:Option Addr) (c:Nat) (l:List Nd) (x:Nd) (w:World) (hT:Dp w) (hN:Nodes w a l) (hx:Ok w x) (hI:Sr l x.kids) (hKn:Z6 (kd l x.kids)) (hll:l.length<=9223372036854775807):
  Calls prog 114 #[.slice a l.length c,x.v] w λe w'=>e= .returned (.bool (J7 l x))/\Below w.heap.size w w':=by
 have h:=Wkc a c l x w hT hN hx hI hKn hll;have hl:=hx.len;rw [Wfq hKn hx.n1 (by omega)]at h;exact h
def Bools (w:World) (g n:Nat) (f:Nat->Bool):Prop:= ∃cs:Array Value,w.heap[g]? =some (.cells cs 4 (0,0))/\n<=cs.size/\ ∀j,j<n->cs[j]? =some (.bool (f j))
theorem Bools.cell {w:World} {g n:Nat} {f:Nat->Bool} (h:Bools w g n f) {j:Nat} (hj:j<n):w.cell? ⟨g,j,none⟩=some (.bool (f j)):=by obtain ⟨cs,hb,_,hc⟩:=h;simp [World.cell?,hb,hc j hj]
theorem Bools.frozen {w:World} {g n:Nat} {f:Nat->Bool} (h:Bools w g n f) (j:Nat):w.frozen? ⟨g,j,none⟩=false:=by obtain ⟨cs,hb,_,_⟩:=h;simp [World.frozen?,hb]
theorem Bools.lt {w:World} {g n:Nat} {f:Nat->Bool} (h:Bools w g n f):g<w.heap.size:=by obtain ⟨cs,hb,_,_⟩:=h;exact (Array.getElem?_eq_some_iff.1 hb).1
theorem Bools.below {w w':World} {g n:Nat} {f:Nat->Bool} (h:Bools w g n f) (hb:Below w.heap.size w w'):Bools w' g n f:=by have hlt:=h.lt;obtain ⟨cs,h1,h2,h3⟩:=h;exact ⟨cs,(hb.block g hlt).trans h1,h2,h3⟩
theorem Bools.congr {w:World} {g n:Nat} {f f':Nat->Bool} (h:Bools w g n f) (e: ∀j,j<n->f j=f' j):Bools w g n f':=by obtain ⟨cs,hb,hn,hc⟩:=h;exact ⟨cs,hb,hn,λj hj=>by rw [hc j hj,e j hj]⟩
theorem Bools.set {w:World} {g n:Nat} {f:Nat->Bool} (h:Bools w g n f) (i:Nat) (x:Bool):Bools (w.setCell ⟨g,i,none⟩ (.bool x)) g n (λj=>if j=i then x else f j):=by
 obtain ⟨cs,hb,hn,hc⟩:=h;refine ⟨cs.setIfInBounds i (.bool x),?_,by simpa using hn,λj hj=> ?_⟩
 ·simp [World.setCell,Array.getElem?_modify,hb]
 ·rw [Array.getElem?_setIfInBounds];by_cases e:j=i
  ·subst e;simp [show j<cs.size by omega]
  ·rw [Qd (λh=>e h.symm)];show cs[j]? =some (.bool (if j=i then x else f j));rw [Qd e];exact hc j hj
theorem Bools.made (w:World) (n:Nat):Bools (w.alloc (.cells (madeCells #[.bool false] n) 4)) w.heap.size n (λ_=>false):=by obtain ⟨c,hb,hn,hc⟩:=World.rowIs_made w (.bool false) n 4;exact ⟨c,hb,by omega,hc⟩
def mark (xs:List Int):Nat->Bool:=λj=>decide ((j:Int)∈xs)
theorem Wcm (xs:List Int) (q:Nat) (j:Nat):(if j=q then true else mark xs j)=mark (xs++[(q:Int)]) j:=by
 unfold mark;by_cases h:j=q
 ·subst h;simp
 ·rw [Qd h,Bool.eq_iff_iff];simp only [Wt,List.mem_append,Qqh];constructor
  ·exact .inl
  ·rintro (h1 |h1)
   ·exact h1
   ·omega
theorem Q95:(prog.info? 4).map (λi=>(i.zero,i.size,i.bytes))=some (some (.bool false),1,1):=by kernel_rfl
theorem Wht (a:Option Addr) (c:Nat) (l:List Nd) (w:World) (hN:Nodes w a l) (hll:l.length<=1000000000):
  Calls prog 113 #[.slice a l.length c] w (Jr (Hw l) w):=by
 have HN:=Qa hN;clear hN;obtain ⟨n,hn⟩:=Qb l.length;rw [<-hn]at hll ⊢;have Zn:=Qa hn;clear hn;have HB0:Hid (Below w.heap.size w (w.alloc (.cells (madeCells #[.bool false] n) 4))):=Qag;have HM0:=Qa (Bools.made w n);have hmk:=run_make_row' (P:=prog) 135 4 (.bool false) 1 underlying135 Q95 rfl .i64 .i64 n (by omega) (by omega);go_enter func113,ntmps113;go_wp2_with fail;obtain ⟨w1,hw1⟩:=Qb (w.alloc (.cells (madeCells #[.bool false] n) 4));rw [<-hw1]at HB0 HM0 ⊢;have K9:Hid (w.heap.size<=w.heap.size):=Qh _;obtain ⟨g,hg⟩:=Qb w.heap.size;rw [<-hg]at HM0 ⊢;have Fa:=Qa hg;clear hw1 hg hmk;go_loopw [4,14] (λt4 t14 wr=> ∃i q:Nat,i<=n/\t14= .int .i64 (i:Int)/\t4= .int .i64 (q:Int)/\q<=n/\Hid (q=(seen l i 0).length)/\Hid (Bools wr g n (mark (seen l i 0)))/\Hid (D9 l i 0)/\Hid (Below w.heap.size w wr)) (λ_ t14 _=>n-(intOf t14).toNat)
 case atStart=>
  refine ⟨0,0,by omega,rfl,rfl,by omega,(by show _=_;simp [seen,Jc]),?_,D9.start l,HB0⟩;exact HM0.out.congr (λj _=>by simp [mark,seen,Jc])
 case round=>
  obtain ⟨i,q,hi,rfl,rfl,hq,HQ,HM,HS,HB⟩:=hrel;by_cases hin:i<n
  ·have Wiw:(i:Int)<(n:Int):=(by omega);have hil:Hid (i<l.length):=(by show i<l.length;rw [<-Zn.out];exact hin);obtain ⟨lb,lo,rfl,hlb,h5⟩:=(HN.out.below HB.out).at_ hil.out;have hok:=HN.out.2 i hil.out;obtain ⟨x,hx⟩:=Qb (nd l i);rw [<-hx]at h5 hok;have HX:=Qa hx;clear hx;obtain ⟨c0,c1,c2,c3,c4⟩:=h5;obtain ⟨K,ka,kc,ks,nn,s,at_⟩:=x;have hkr:=hok.rows;have hkl:=hok.len;simp only at hkr hkl c0 c1 c2 c3 c4;obtain ⟨m,hm⟩:=Qb ks.length;rw [<-hm]at hkr hkl c1;have Lf:=Qa hm;have HKR:=Qa hkr;clear hm hkr hok;go_wp2_with fail;obtain ⟨w2,hw2⟩:=Qb (wr.alloc (.cells #[.int .i64 K,.slice ka m kc,.int .i64 nn,.string s,.int .i64 at_] 37));have HB2:Hid (Below wr.heap.size wr w2):=(by rw [hw2];exact Qag);have Xz:Hid (Below w.heap.size w w2):=HB.out.trans (HB2.out.mono HB.out.size);have HMA:=Qa (HM.out.below HB2.out);rw [<-hw2];clear hw2 c0 c1 c2 c3 c4;obtain ⟨wo,rfl⟩:=Qb wr;have H9:Hid ((nd l i).kids=ks):=(by show _=_;rw [<-HX.out]);go_loopw [4,22] (λt4 t22 wr=> ∃k q:Nat,k<=m/\t22= .int .i64 (k:Int)/\t4= .int .i64 (q:Int)/\q<=n/\Hid (q=(seen l i k).length)/\Hid (Bools wr g n (mark (seen l i k)))/\Hid (D9 l i k)/\Hid (Below w.heap.size w wr)) (λ_ t22 _=>m-(intOf t22).toNat)
   case atStart=>exact ⟨0,q,by omega,rfl,rfl,hq,HQ,HMA,HS,Xz⟩
   case round=>
    obtain ⟨k,q,hk,rfl,rfl,hq,HQ,HM,HS,HB⟩:=hrel;by_cases hkm:k<m
    ·have hkmi:(k:Int)<(m:Int):=(by omega);have hkl':Hid (k<(nd l i).kids.length):=(by show k<_;rw [H9.out,<-Lf.out];exact hkm);obtain ⟨kb,ko,rfl,hkb,hkc⟩:=(HKR.out.below HB.out) (by omega);have hc:=hkc k hkm;clear hkc;simp only at hc;obtain ⟨z,hz⟩:=Qb (ks.getD k 0);rw [<-hz]at hc;have HZ:Hid ((nd l i).kids.getD k 0=z):=(by show _=_;rw [H9.out,hz]);clear hz;by_cases hz0:z<0
     ·go_wp2_with fail;go_ret;exact Jr.no rfl (Q0z hil.out hkl'.out (by rw [HZ.out];omega)) HB.out
     ·have hz0':decide (z<0)=false:=(by simpa using hz0);by_cases hzi:(i:Int)<=z
      ·go_wp2_with fail;go_ret;exact Jr.no rfl (Q0z hil.out hkl'.out (by rw [HZ.out];omega)) HB.out
      ·have Wst:decide ((i:Int)<=z)=false:=(by simpa using hzi);obtain ⟨u,rfl⟩: ∃u:Nat,z=u:=⟨z.toNat,by omega⟩;have hui:u<i:=(by omega);have hun:(u:Int)<(n:Int):=(by omega);have hbc:=HM.out.cell (j:=u) (by omega);have hfz:=HM.out.frozen u;by_cases hmk:(u:Int)∈seen l i k
       ·have e:mark (seen l i k) u=true:=(by unfold mark;exact decide_eq_true hmk);rw [e]at hbc;have HMK:=Qa hmk;clear hmk e;go_wp2_with fail;go_ret;exact Jr.no rfl (Q8s hil.out hkl'.out (by rw [HZ.out];exact HMK.out)) HB.out
       ·have e:mark (seen l i k) u=false:=(by unfold mark;exact decide_eq_false hmk);rw [e]at hbc;have HMK:=Qa hmk;clear hmk e;have HS2:Hid (D9 l i (k+1)):=HS.out.next hkl'.out (by rw [HZ.out];omega) (by rw [HZ.out];omega) (by rw [HZ.out];exact HMK.out);have HE2:Hid (seen l i (k+1)=seen l i k++[(u:Int)]):=(by show _=_;rw [Qvt hkl'.out,HZ.out]);have hq2:q+1<=n:=by have h1:=HS2.out.len (Nat.le_of_lt hil.out);rw [HE2.out,Qf,<-HQ.out]at h1;simp at h1;omega
        go_wp2_with fail;go_roundw
        case rel=>
         refine ⟨k+1,q+1,by omega,by go_num,by go_num,hq2,?_,?_,HS2,?_⟩
         ·show _=_;rw [HE2.out,Qf,<-HQ.out];rfl
         ·show Bools _ _ _ _;rw [HE2.out];exact (HM.out.set u true).congr (λj _=>Wcm _ u j)
         ·exact HB.out.setCell (p:=⟨g,u,none⟩) (by show _<=g;rw [Fa.out];exact Qh _) _
        case measure=>simp [intOf];omega
    ·obtain rfl:k=m:=(by omega);go_wp2_with fail;go_roundw
     case rel=>
      have e1:Hid (seen l i k=seen l (i+1) 0):=by show _=_;rw [Lf.out,<-H9.out];exact Q3c hil.out
      refine ⟨i+1,q,by omega,by go_num,rfl,hq,?_,?_,?_,HB⟩
      ·show _=_;rw [<-e1.out];exact HQ.out
      ·show Bools _ _ _ _;rw [<-e1.out];exact HM.out
      ·refine D9.turn ?_ hil.out;rw [H9.out,<-Lf.out];exact HS.out
     case measure=>simp [intOf];omega
  ·obtain rfl:i=n:=(by omega);have Qqz:Hid (Hw l↔0<i/\q=i-1):=by have h1:=HS.out;rw [Zn.out]at h1;have h2:=Wld h1;rw [<-Zn.out,<-HQ.out]at h2;exact h2
   rcases Nat.eq_zero_or_pos i with h0 |h0
   ·subst h0;go_wp2_with fail;go_ret;exact Jr.no rfl (λh=>by have:=Qqz.out.1 h;omega) HB.out
   ·by_cases hqq:q=i-1
    ·have Wle:((q:Int)==(i:Int)-1)=true:=(by simp;omega);have HQQ:=Qa hqq;clear hqq;go_wp2_with fail;go_ret;exact Jr.yes rfl (Qqz.out.2 ⟨h0,HQQ.out⟩) HB.out
    ·have Wle:((q:Int)==(i:Int)-1)=false:=(by simp;omega);have HQQ:=Qa hqq;clear hqq;go_wp2_with fail;go_ret;exact Jr.no rfl (λh=>HQQ.out (Qqz.out.1 h).2) HB.out
def Qzp (l:List Nd) (P:Prop) (w:World) (e:Ending) (w':World):Prop:=
 Below w.heap.size w w'/\((P/\ ∃g,e= .returned (.slice (some ⟨g,0,none⟩) l.length l.length)/\Vd .i64 w' (some ⟨g,0,none⟩) l.length (λj=>(hgt l j:Int)))\/(¬P/\e= .returned (.slice none 0 0)))
theorem Wdl (w0:World) (a:Option Addr) (l:List Nd) (n c g hb lb rb:Nat) (hA:Ahead l) (hn:n=l.length) (hll:n<=1000000000) (at_:Nat) (hat:at_<l.length) (lv:Nat) (H:Nat->Int) (w:World) (z y:Int) (h1:1<=lv) (h2:lv<=201) (hE:Env w0 w a l n c g hb lb rb) (hM:Mine .i64 3 w g n H) (hz:z=(at_:Int)) (hy:y=(lv:Int)):
  Calls prog 139 #[.int .i64 z,.int .i64 y,.pointer (some ⟨hb,0,none⟩),.pointer (some ⟨lb,0,none⟩),.pointer (some ⟨rb,0,none⟩)] w (Reached l g n at_ lv H w):=by
 subst hz hy;exact Q9b w0 a l n c g hb lb rb hA hn hll (at_+1) at_ (by omega) hat lv H w h1 h2 hE hM
theorem Wkb (a:Option Addr) (c:Nat) (l:List Nd) (w:World) (hN:Nodes w a l) (hT:Hw l) (hll:l.length<=1000000000):
  Calls prog 115 #[.slice a l.length c] w (Qzp l (hgt l (l.length-1)<=200) w):=by
 have HN:=Qa hN;have HT:=Qa hT;have hpos:=hT.1;clear hN hT;obtain ⟨n,hn⟩:=Qb l.length;rw [<-hn]at hll hpos ⊢;have Zn:=Qa hn;clear hn;have hmk:=run_make_row' (P:=prog) 35 3 (.int .i64 0) 8 underlying35 Qlf rfl .i64 .i64 n (by omega) (by omega);go_enter func115,ntmps115;rw [Qz 3,Qz 4];go_wp2_with fail;obtain ⟨B,hB⟩:=Qb w.heap.size;rw [show w.heap.size+1+1+1=w.heap.size+3 by omega,show w.heap.size+1+1=w.heap.size+2 by omega,<-hB];obtain ⟨w1,hw1⟩:=Qb ((((w.alloc (.cells #[.slice a n c] 22)).alloc (.cells (madeCells #[.int .i64 0] n) 3)).alloc (.cells #[.slice (some ⟨B+1,0,none⟩) n n] 35)).alloc (.cells #[.nilFunc] 148));rw [<-hw1];have hl0:Held w1 B 22 #[.slice a n c]:=by rw [hw1,hB];exact (((Held.new w _ _).alloc _).alloc _).alloc _
 have hm0:Mine .i64 3 w1 (B+1) n (λ_=>0):=by
  have h:=Mine.made (w.alloc (.cells #[.slice a n c] 22)) .i64 3 n;have e:(w.alloc (.cells #[.slice a n c] 22)).heap.size=B+1:=by rw [hB];simp
  rw [e]at h;rw [hw1];refine (h.below Qag).below Qag
 have hh0:Held w1 (B+2) 35 #[.slice (some ⟨B+1,0,none⟩) n n]:=by
  have h:=Held.new ((w.alloc (.cells #[.slice a n c] 22)).alloc (.cells (madeCells #[.int .i64 0] n) 3)) 35 #[.slice (some ⟨B+1,0,none⟩) n n];have e:((w.alloc (.cells #[.slice a n c] 22)).alloc (.cells (madeCells #[.int .i64 0] n) 3)).heap.size=B+2:=by rw [hB];simp
  rw [e]at h;rw [hw1];exact h.alloc _
 have hr0:Held w1 (B+3) 148 #[.nilFunc]:=by
  have h:=Held.new (((w.alloc (.cells #[.slice a n c] 22)).alloc (.cells (madeCells #[.int .i64 0] n) 3)).alloc (.cells #[.slice (some ⟨B+1,0,none⟩) n n] 35)) 148 #[.nilFunc];have e:(((w.alloc (.cells #[.slice a n c] 22)).alloc (.cells (madeCells #[.int .i64 0] n) 3)).alloc (.cells #[.slice (some ⟨B+1,0,none⟩) n n] 35)).heap.size=B+3:=by rw [hB];simp
  rw [e]at h;rw [hw1];exact h
 have HB1:Hid (Below w.heap.size w w1):=by rw [hw1];exact ((Qag.alloc (by simp) _).alloc (by simp;omega) _).alloc (by simp;omega) _
 have Yx:=Qa hB;have X3:=Qa hl0;have HM0:=Qa hm0;have HH0:=Qa hh0;have Jg:=Qa hr0;clear hB hw1 hl0 hm0 hh0 hr0 hmk;have cr:=Jg.out.at_ (j:=0) (v:=.nilFunc) rfl;have fr:=Jg.out.frozen 0;refine Qn ?_;go_wp2_with fail;obtain ⟨w2,hw2⟩:=Qb (w1.setCell ⟨B+3,0,none⟩ (.func (.func 139) #[] #[.pointer (some ⟨B+2,0,none⟩),.pointer (some ⟨B,0,none⟩),.pointer (some ⟨B+3,0,none⟩)]));rw [<-hw2];have HB2:Hid (Below w.heap.size w w2):=by rw [hw2];exact HB1.out.setCell (p:=⟨B+3,0,none⟩) (by show _<=B+3;rw [Yx.out];omega) _
 have HE:Hid (Env w w2 a l n c (B+1) (B+2) B (B+3)):=by
  refine ⟨HN.out,HB2.out,by rw [Yx.out];omega,?_,?_,?_,by omega,by omega,by omega⟩
  ·rw [hw2];exact ((HH0.out.off (g':=B+3) (by omega) 0 _).at_ rfl)
  ·rw [hw2];exact ((X3.out.off (g':=B+3) (by omega) 0 _).at_ rfl)
  ·rw [hw2];exact ((Jg.out.set 0 _).at_ rfl)
 have U7:Hid (Mine .i64 3 w2 (B+1) n (λ_=>0)):=by rw [hw2];exact HM0.out.block (Below.heap_setCell _ _ _ _ (by show B+1≠B+3;omega))
 clear hw2 cr fr HM0 X3 HH0 Jg;have c1:=HE.out.rc;have c2:=HE.out.lc;have c3:=HE.out.hc;refine Qn ?_;go_wp2_with fail;have HA:Hid (Ahead l):=HT.out.2.1;have hlt:n-1<l.length:=by rw [<-Zn.out];omega
 have hz:(n:Int)-1=((n-1:Nat):Int):=by omega
 have HZ:=Qa hz;have HY:Hid ((1:Int)=((1:Nat):Int)):=rfl;clear hz
 (with_reducible refine (Wdl w a l n c (B+1) (B+2) B (B+3) HA.out Zn.out hll (n-1) hlt 1 (λ_=>0) w2 ((n:Int)-1) 1 (Qh _) (by omega) HE.out U7.out HZ.out HY.out).mono ?_)
 rintro e w3 ⟨b,H',rfl,hbt,hm3,hiff,htr⟩;have HB3:Hid (Below w.heap.size w w3):=hbt.below HB2.out HE.out.old;have Qx:=Qa (HE.out.but hbt);have HM3:=Qa hm3;have Ka:=Qa hiff;have HTR:=Qa htr;clear hbt hm3 hiff htr c1 c2 c3;cases b with
 |false=>
  go_wp2_with fail;go_ret;exact ⟨HB3.out,.inr ⟨(λh=>by cases Ka.out.2 (by omega)),rfl⟩⟩
 |true=>
  have c3:=Qx.out.hc;have hh:hgt l (n-1)<=200:=by have:=Ka.out.1 rfl;omega
  have HH:=Qa hh;obtain ⟨h1,_,_⟩:=HTR.out rfl;have HU:=Qa h1;clear h1 HTR Ka hh;go_wp2_with fail;go_ret;refine ⟨HB3.out,.inl ⟨HH.out,B+1,by rw [<-Zn.out];rfl,?_⟩⟩;rw [<-Zn.out];refine HM3.out.rows.congr λj hj=> ?_;exact HU.out j (by have:=Qq9 HT.out (l.length-1-j) j (Qh _) (by rw [<-Zn.out];exact hj);rw [<-Zn.out]at this;exact this)
theorem Wrh {l:List Nd} (hA:Ahead l) {i:Nat} (hi:i<l.length):Sr l (nd l i).kids:=by intro j hj;obtain ⟨q,h1,h2,_⟩:=Qd7 hA hi hj;exact ⟨q,h1,by omega⟩
theorem Q6k {l:List Nd} {x:Nd} (h:J7 l x=true):1<=x.kind/\x.kind<=26:=by unfold J7 ownB at h;simp only [Yo,Wt]at h;exact ⟨h.1.1.1.1.1,h.1.1.1.1.2⟩
theorem Wl2 {l:List Nd} (hA:Ahead l) {i:Nat} (hi:i<l.length) (hf: ∀j,j<i->J7 l (nd l j)=true):Z6 (kd l (nd l i).kids):=by intro j hj;rw [Qcm]at hj;obtain ⟨q,h1,h2,_⟩:=Qd7 hA hi hj;have:=Q6k (hf q h2);refine ⟨(nd l q).kind.toNat,?_,by omega⟩;rw [Q45 hj h1];omega
theorem Wdo (a:Option Addr) (c:Nat) (l:List Nd) (w:World) (Rm:Dp w) (hN:Nodes w a l) (hll:l.length<=1000000000):
  Calls prog 78 #[.slice a l.length c] w (Qzp l (Rt l) w):=by
 have HN:=Qa hN;have Fz:=Qa Rm;clear hN Rm;go_enter func78,ntmps78;go_wp2_with fail;refine (Wht a c l w HN.out hll).mono ?_;rintro e w1 ⟨b,rfl,hiff,hb1⟩;have HB1:=Qa hb1;have Ka:=Qa hiff;clear hb1 hiff;cases b with
 |false=>
  go_wp2_with fail;go_ret;exact ⟨HB1.out,.inr ⟨(λh=>by cases Ka.out.2 h.1),rfl⟩⟩
 |true=>
  have HT:Hid (Hw l):=Ka.out.1 rfl;have HA:Hid (Ahead l):=HT.out.2.1;clear Ka;go_wp2_with fail;go_loopw [4,10] (λ_ t wr=> ∃i:Nat,i<=l.length/\t= .int .i64 (i:Int)/\Hid (∀j,j<i->J7 l (nd l j)=true)/\Hid (Below w.heap.size w wr)) (λ_ t _=>l.length-(intOf t).toNat)
  case atStart=>exact ⟨0,by omega,rfl,(λj hj=>by omega),HB1⟩
  case round=>
   obtain ⟨i,hi,rfl,HF,HB⟩:=hrel;by_cases hil:i<l.length
   ·have Wkt:(i:Int)<(l.length:Int):=(by omega);obtain ⟨lb,lo,rfl,hlb,h5⟩:=(HN.out.below HB.out).at_ hil;have H8:=Qa ((HN.out.below HB.out).2 i hil);obtain ⟨x,hx⟩:=Qb (nd l i);rw [<-hx]at h5 H8;have HX:=Qa hx;clear hx;obtain ⟨c0,c1,c2,c3,c4⟩:=h5;go_wp2_with fail;obtain ⟨w2,hw2⟩:=Qb (wr.alloc (.cells #[.int .i64 x.kind,.slice x.ka x.kids.length x.kc,.int .i64 x.n,.string x.s,.int .i64 x.at_] 37));have HB2:Hid (Below wr.heap.size wr w2):=(by rw [hw2];exact Qag);have Xz:Hid (Below w.heap.size w w2):=HB.out.trans (HB2.out.mono HB.out.size);have HV:Hid (x.v= .agg #[.int .i64 x.kind,.slice x.ka x.kids.length x.kc,.int .i64 x.n,.string x.s,.int .i64 x.at_]):=rfl;have hcall:=Wmw (some ⟨lb,lo,none⟩) c l x w2 (Fz.out.below Xz.out) (HN.out.below Xz.out) (H8.out.below HB2.out) (by rw [HX.out];exact Wrh HA.out hil) (by rw [HX.out];exact Wl2 HA.out hil HF.out) (by omega);rw [HV.out]at hcall;have HC:=Qa hcall;rw [<-hw2];clear hw2 hcall c0 c1 c2 c3 c4;refine HC.out.mono ?_;rintro e w3 ⟨rfl,hb3⟩;have HB3:Hid (Below w.heap.size w w3):=Xz.out.trans (hb3.mono Xz.out.size);clear hb3;cases hf:J7 l x with
    |false=>
     have HFB:=Qa hf;clear hf;go_wp2_with fail;go_ret;refine ⟨HB3.out,.inr ⟨(λh=> ?_),rfl⟩⟩;have:=h.2.1 i hil;rw [<-HX.out,HFB.out]at this;cases this
    |true=>
     have HFB:=Qa hf;clear hf;go_wp2_with fail;go_roundw
     case rel=>exact ⟨i+1,by omega,by go_num,(λj hj=>by
      rcases V7 j i with g |g
      ·exact HF.out j g
      ·rw [show j=i by omega,<-HX.out];exact HFB.out),HB3⟩
     case measure=>simp [intOf];omega
   ·obtain rfl:i=l.length:=(by omega);go_wp2_with fail;refine (Wkb a c l wr (HN.out.below HB.out) HT.out hll).mono ?_;rintro e w2 ⟨hb2,hcase⟩;have HB2:Hid (Below w.heap.size w w2):=HB.out.trans (hb2.mono HB.out.size);clear hb2;rcases hcase with ⟨hP,g,rfl,hrows⟩ |⟨hP,rfl⟩
    ·have HP:=Qa hP;have HR:=Qa hrows;clear hP hrows;go_wp2_with fail;go_ret;exact ⟨HB2.out,.inl ⟨⟨HT.out,HF.out,HP.out⟩,g,rfl,HR.out⟩⟩
    ·have HP:=Qa hP;clear hP;go_wp2_with fail;go_ret;exact ⟨HB2.out,.inr ⟨(λh=>HP.out h.2.2),rfl⟩⟩
theorem Qsq (a:Option Addr) (c:Nat) (l:List Nd) (w:World) (Rm:Dp w) (hN:Nodes w a l) (hll:l.length<=1000000000):
  Calls prog 44 #[.slice a l.length c] w (Jr (Rt l) w):=by
 go_enter func44,ntmps44;go_wp2_with fail;refine (Wdo a c l w Rm hN hll).mono ?_;rintro e w1 ⟨hb1,hcase⟩;have HB1:=Qa hb1;clear hb1 Rm hN;rcases hcase with ⟨hP,g,rfl,hrows⟩ |⟨hP,rfl⟩
 ·have HP:=Qa hP;have hpos:0<l.length:=hP.1.1;clear hP hrows;go_wp2_with fail;go_ret;exact Jr.yes (by first |rfl |simp) HP.out HB1.out
 ·have HP:=Qa hP;clear hP;go_wp2_with fail;go_ret;exact Jr.no rfl HP.out HB1.out
def Wh (l:List Nd):Prop:=Rt l/\(nd l (l.length-1)).kind=26
theorem Wgi (a:Option Addr) (c n:Nat) (l:List Nd) (w:World) (hn:n=l.length) (Rm:Dp w) (hN:Nodes w a l) (hll:n<=1000000000):
  Calls prog 16 #[.slice a n c] w (Jr (Wh l) w):=by
 have Zn:=Qa hn;have HN:=Qa hN;have hcall:=Qsq a c l w Rm hN (by omega);rw [<-hn]at hcall;have HC:=Qa hcall;clear hn hN hcall Rm;go_enter func16,ntmps16;go_wp2_with fail;refine HC.out.mono ?_;rintro e w1 ⟨b,rfl,hiff,hb1⟩;have HB1:=Qa hb1;have Ka:=Qa hiff;clear hb1 hiff;cases b with
 |false=>
  go_wp2_with fail;go_ret;exact Jr.no rfl (λh=>by cases Ka.out.2 h.1) HB1.out
 |true=>
  have HR:Hid (Rt l):=Ka.out.1 rfl;have hpos:0<n:=by rw [Zn.out];exact HR.out.1.1
  obtain ⟨p,rfl⟩: ∃p,n=p+1:=⟨n-1,by omega⟩;have hpl:p<l.length:=by rw [<-Zn.out];omega
  obtain ⟨lb,lo,rfl,hlb,h5⟩:=(HN.out.below HB1.out).at_ hpl;have c0:=h5.1;obtain ⟨K,hK⟩:=Qb ((nd l p).kind);rw [<-hK]at c0;have HK:Hid ((nd l (l.length-1)).kind=K):=by show _=_;rw [<-Zn.out,Nat.add_sub_cancel,hK]
  clear hK h5 hpos;by_cases hk:K=26
  ·have hk':(K==26)=true:=(by simp [hk]);have HKK:=Qa hk;clear hk;go_wp2_with fail;go_ret;exact Jr.yes rfl ⟨HR.out,HK.out.trans HKK.out⟩ HB1.out
  ·have hk':(K==26)=false:=(by simp [hk]);have HKK:=Qa hk;clear hk;go_wp2_with fail;go_ret;exact Jr.no rfl (λh=>HKK.out (HK.out.symm.trans h.2)) HB1.out
theorem Qrq {l:List Nd} (hA:Ahead l): ∀(N i:Nat),i<N->i<l.length->hgt l i<=i+1:=by
 intro N
 induction N with
 |zero=>intro i h;omega
 |succ N ih=>
  intro i hiN hi;have: ∀j,j<=(nd l i).kids.length->mx l i j<=i+1:=by
   intro j
   induction j with
   |zero=>intro _;rw [Qp7];omega
   |succ j ihj=>
    intro hj;obtain ⟨q,hq,hqi,_⟩:=Qd7 hA hi (show j<(nd l i).kids.length by omega);rw [Qq6 (by omega) hq];have h1:=ihj (by omega);have h2:=ih q (by omega) (by omega);omega
  rw [<-Qio hA hi];exact this _ (Qh _)
theorem Q0u (a:Option Addr) (c n:Nat) (l:List Nd) (w:World) (hn:n=l.length) (hA:Ahead l) (hN:Nodes w a l) (hll:n<=1000000000): ∀(N i:Nat),i<N->i<l.length->
  Calls prog 43 #[.slice a n c,.int .i64 (i:Int)] w λe w'=>e= .returned (.int .i64 (hgt l i:Int))/\w'=w:=by
 intro N
 induction N with
 |zero=>intro i h;omega
 |succ N ih=>
  intro i hiN hi;have Zn:=Qa hn;have HN:=Qa hN;have HA:=Qa hA;have IH:=Qa ih;have Xl:=Qa hi;have hin:(i:Int)<(n:Int):=by omega
  clear ih;obtain ⟨lb,lo,ha,hlb,h5⟩:=HN.out.at_ Xl.out;have H8:=Qa (HN.out.2 i Xl.out);have c1:=h5.2.1;have HKR:=Qa H8.out.rows;have hkl:=H8.out.len;obtain ⟨ks,hks⟩:=Qb ((nd l i).kids);obtain ⟨ka,hka⟩:=Qb ((nd l i).ka);obtain ⟨kc,hkc⟩:=Qb ((nd l i).kc);obtain ⟨m,hm⟩:=Qb ks.length;rw [<-hks,<-hka,<-hkc,<-hm]at c1;rw [<-hks,<-hka,<-hm]at HKR;rw [<-hks,<-hm]at hkl;have H9:=Qa hks;have Lf:=Qa hm;have HHL:=Qa (Qrq HA.out (i+1) i (by omega) Xl.out);have HAA:=Qa ha;clear hks hka hkc hm h5 hn hN hA hi;subst ha;clear HAA;go_enter func43,ntmps43;go_wp2_with fail;go_loop [5,6] (λt5 t6=> ∃j h:Nat,j<=m/\t6= .int .i64 (j:Int)/\t5= .int .i64 (h:Int)/\h<=1000000001/\Hid (h=mx l i j)) (λ_ t6=>m-(intOf t6).toNat)
  case atStart=>exact ⟨0,1,by omega,rfl,rfl,by omega,(by show _=_;rw [Qp7])⟩
  case round=>
   obtain ⟨j,h,hj,rfl,rfl,hh,HH⟩:=hrel;by_cases hjm:j<m
   ·have Qgb:(j:Int)<(m:Int):=(by omega);have hjk:Hid (j<(nd l i).kids.length):=(by show j<_;rw [<-H9.out,<-Lf.out];exact hjm);obtain ⟨q,hq,hqi,_⟩:=Qd7 HA.out Xl.out hjk.out;obtain ⟨kb,ko,rfl,hkb,hkc⟩:=HKR.out (by omega);have hc:=hkc j hjm;simp only at hc;rw [H9.out,hq]at hc;have HQ:=Qa hq;have HQH:=Qa (Qrq HA.out (q+1) q (by omega) (by have:=Xl.out;omega));clear hkc hq;go_wp2_with fail;refine (IH.out q (by omega) (by have:=Xl.out;omega)).mono ?_;rintro e w1 ⟨rfl,hw1⟩;rw [hw1];clear hw1 w1;have hQ:hgt l q<=1000000000:=(by have:=HQH.out;omega);obtain ⟨Q,hQQ⟩:=Qb (hgt l q);have HMX:=Qa (Qq6 hjk.out HQ.out);rw [<-hQQ]at hQ HMX ⊢;clear hQQ;rcases (show h<1+Q\/1+Q<h\/h=1+Q by omega)with hlt |Wsn |heq
    ·go_wp2_with fail;go_round
     case rel=>exact ⟨j+1,1+Q,by omega,by go_num,by go_num,by omega,(by show _=_;rw [HMX.out,<-HH.out];omega)⟩
     case measure=>simp [intOf];omega
    ·go_wp2_with fail;go_round
     case rel=>exact ⟨j+1,h,by omega,by go_num,by go_num,by omega,(by show _=_;rw [HMX.out,<-HH.out];omega)⟩
     case measure=>simp [intOf];omega
    ·subst heq;go_wp2_with fail;go_round
     case rel=>exact ⟨j+1,1+Q,by omega,by go_num,by go_num,by omega,(by show _=_;rw [HMX.out,<-HH.out];omega)⟩
     case measure=>simp [intOf];omega
   ·obtain rfl:j=m:=(by omega);go_wp2_with fail;go_ret;refine ⟨?_,rfl⟩;have e:h=hgt l i:=(by rw [HH.out,Lf.out,H9.out,Qio HA.out Xl.out]);rw [<-e];rfl
theorem Q4s (a:Option Addr) (c n:Nat) (l:List Nd) (w:World) (z:Int) (i:Nat) (hn:n=l.length) (hA:Ahead l) (hN:Nodes w a l) (hll:n<=1000000000) (hi:i<l.length) (hz:z=(i:Int)):
  Calls prog 43 #[.slice a n c,.int .i64 z] w λe w'=>e= .returned (.int .i64 (hgt l i:Int))/\w'=w:=by
 subst hz;exact Q0u a c n l w hn hA hN hll (i+1) i (by omega) hi
theorem Wny (a:Option Addr) (c n:Nat) (l:List Nd) (w:World) (hn:n=l.length) (hN:Nodes w a l) (hll:n<=100000):
  Calls prog 13 #[.slice a n c] w (Jr (Rt l) w):=by
 have Zn:=Qa hn;have HN:=Qa hN;clear hn hN;have HST:=Qa (Built.start w #[] rfl);go_enter func13,ntmps13;go_wp2_with fail;go_loopw [3,4] (λt3 t4 wr=> ∃i:Nat,i<=n/\t4= .int .i64 (i:Int)/\Hid (Built w wr t3 (seen l i 0))/\Hid (D9 l i 0)/\Hid (∀j,j<i->J7 l (nd l j)=true)) (λ_ t4 _=>n-(intOf t4).toNat)
 case atStart=>exact ⟨0,by omega,rfl,(by show Built _ _ _ _;rw [Qr4];exact HST.out),D9.start l,λj hj=>by omega⟩
 case round=>
  rename_i t3 _;obtain ⟨i,hi,rfl,Rb,HS,HF⟩:=hrel;by_cases hin:i<n
  ·have Wiw:(i:Int)<(n:Int):=(by omega);have Xl:Hid (i<l.length):=(by show i<l.length;rw [<-Zn.out];exact hin);obtain ⟨lb,lo,ha,_,_⟩:=HN.out.at_ Xl.out;subst ha;have H8:=Qa (HN.out.2 i Xl.out);obtain ⟨x,hx⟩:=Qb (nd l i);rw [<-hx]at H8;have HX:=Qa hx;have HKL:=Qa H8.out.len;have hkl:=H8.out.len;clear hx;have H5: ∀w',Below w.heap.size w w'->Qes w' lb (lo+i*5) x:=by
    intro w' hb;obtain ⟨b,o,e,_,h5⟩:=(HN.out.below hb).at_ Xl.out;injection e with e
    injection e with e1 e2
    subst e1 e2;rw [HX.out];exact h5
   have Ch:=Qa H5;clear H5;have c1:=(Ch.out wr Rb.out.2).2.1;go_wp2_with fail;obtain ⟨wo,hwo⟩:=Qb wr;rw [<-hwo]at Rb c1 ⊢;clear hwo;clear c1;go_loopw [3,5] (λt3 t5 wr=> ∃k:Nat,k<=x.kids.length/\t5= .int .i64 (k:Int)/\Hid (Built w wr t3 (seen l i k))/\Hid (D9 l i k)) (λ_ t5 _=>x.kids.length-(intOf t5).toNat)
   case atStart=>exact ⟨0,by omega,rfl,Rb,HS⟩
   case round=>
    obtain ⟨k,hk,rfl,Rb,HS⟩:=hrel;have c1:=(Ch.out wr Rb.out.2).2.1;by_cases hkm:k<x.kids.length
    ·have hkmi:(k:Int)<(x.kids.length:Int):=(by omega);have hkl':Hid (k<(nd l i).kids.length):=(by show k<_;rw [<-HX.out];exact hkm);obtain ⟨kb,ko,hka,hkb,hkc⟩:=(H8.out.rows.below Rb.out.2) (by omega);have hc:=hkc k hkm;simp only at hc;rw [hka]at c1;obtain ⟨z,hz⟩:=Qb (x.kids.getD k 0);rw [<-hz]at hc;have HZ:Hid ((nd l i).kids.getD k 0=z):=(by show _=_;rw [<-HX.out,hz]);clear hz hkc hka;obtain ⟨ua,uc,hv,hur⟩:=Rb.out.rows;subst hv;have hlen:(seen l i k).length<=i:=HS.out.len (Nat.le_of_lt Xl.out);have HUR:=Qa hur;clear hur;obtain ⟨L,hL⟩:=Qb ((seen l i k).length);have G8:=Qa hL;rw [<-hL]at HUR hlen Rb ⊢;clear hL;by_cases hz0:z<0
     ·go_wp2_with fail;go_ret;exact Jr.no rfl (λh=>Q0z Xl.out hkl'.out (by rw [HZ.out];omega) h.1) Rb.out.2
     ·have hz0':decide (z<0)=false:=(by simpa using hz0);by_cases hzi:(i:Int)<=z
      ·go_wp2_with fail;go_ret;exact Jr.no rfl (λh=>Q0z Xl.out hkl'.out (by rw [HZ.out];omega) h.1) Rb.out.2
      ·have Wst:decide ((i:Int)<=z)=false:=(by simpa using hzi);obtain ⟨u,rfl⟩: ∃u:Nat,z=u:=⟨z.toNat,by omega⟩;go_wp2_with fail;refine (Qto _ _ _ (seen l i k) _ wr G8.out (by omega) HUR.out).mono ?_;rintro e w1 ⟨he,hw1⟩;rw [hw1];clear hw1 w1;by_cases hmk:(u:Int)∈seen l i k
       ·rw [decide_eq_true hmk]at he;subst he;have HMK:=Qa hmk;clear hmk;go_wp2_with fail;go_ret;exact Jr.no rfl (λh=>Q8s Xl.out hkl'.out (by rw [HZ.out];exact HMK.out) h.1) Rb.out.2
       ·rw [decide_eq_false hmk]at he;subst he;have HMK:=Qa hmk;clear hmk;have HS2:Hid (D9 l i (k+1)):=HS.out.next hkl'.out (by rw [HZ.out];omega) (by rw [HZ.out];omega) (by rw [HZ.out];exact HMK.out);have HE2:Hid (seen l i (k+1)=seen l i k++[(u:Int)]):=(by show _=_;rw [Qvt hkl'.out,HZ.out]);go_wp2_with (at_builtin;refine Wb7 rfl (.tmp 44) (.tmp 46) rfl w _ _ _ _ rfl rfl Rb.out (by rw [<-G8.out];omega) ?_;intro v1 w1 hb1);have HB1:=Qa hb1;clear hb1;go_wp2_with fail;go_roundw
        case rel=>exact ⟨k+1,by omega,by go_num,(by show Built _ _ _ _;rw [HE2.out];exact HB1.out),HS2⟩
        case measure=>simp [intOf];omega
    ·obtain ⟨ek⟩:Nonempty (k=x.kids.length):=⟨by omega⟩;have HEK:=Qa ek;clear ek;have HS1:Hid (D9 l (i+1) 0):=by refine D9.turn ?_ Xl.out;rw [<-HX.out,<-HEK.out];exact HS.out
     have Qu:Hid (seen l i k=seen l (i+1) 0):=by show _=_;rw [HEK.out,HX.out];exact Q3c Xl.out
     have hAK: ∀j,j<(nd l i).kids.length-> ∃q:Nat,(nd l i).kids.getD j 0=(q:Int)/\q<i:=by
      intro j hj;have hm:(nd l i).kids.getD j 0∈(nd l i).kids:=by rw [Yc,Y3 hj];exact F5 hj
      have:=HS1.out.ahead i (by omega) _ hm;exact ⟨((nd l i).kids.getD j 0).toNat,by omega,by omega⟩
     have HIN:Hid (Sr l x.kids):=by intro j hj;rw [HX.out]at hj ⊢;obtain ⟨q,h1,h2⟩:=hAK j hj;exact ⟨q,h1,by have:=Xl.out;omega⟩
     clear hAK;obtain ⟨c0,_,c2,c3,c4⟩:=Ch.out wr Rb.out.2;have HV:Hid (x.v= .agg #[.int .i64 x.kind,.slice x.ka x.kids.length x.kc,.int .i64 x.n,.string x.s,.int .i64 x.at_]):=rfl;have hown:=Wox x wr H8.out.s;rw [HV.out]at hown;have HOWN:=Qa hown;clear hown;go_wp2_with fail;refine HOWN.out.mono ?_;rintro e w1 ⟨rfl,hb1⟩;have HB1:Hid (Below w.heap.size w w1):=Rb.out.2.trans (hb1.mono Rb.out.2.size);have Qw1:=Qa (Rb.out.quiet hb1);clear hb1 c0 c1 c2 c3 c4;cases ho:ownB x with
     |false=>
      have HO:=Qa ho;clear ho;go_wp2_with fail;go_ret;refine Jr.no rfl (λh=> ?_) HB1.out;have:=h.2.1 i Xl.out;rw [<-HX.out]at this;unfold J7 at this;rw [HO.out]at this;cases this
     |true=>
      have HO:=Qa ho;clear ho;obtain ⟨c0,c1,c2,c3,c4⟩:=Ch.out w1 HB1.out;have Yg:=Q0c (some ⟨lb,lo,none⟩) c l x w1 (HN.out.below HB1.out) (H8.out.below HB1.out) HIN.out (by rw [<-Zn.out];omega);rw [HV.out,<-Zn.out]at Yg;have Vx:=Qa Yg;clear Yg;go_wp2_with fail;refine Vx.out.mono ?_;rintro e w2 ⟨rfl,hb2⟩;have HB2:Hid (Below w.heap.size w w2):=HB1.out.trans (hb2.mono HB1.out.size);have Q7h:=Qa (Qw1.out.quiet hb2);clear hb2 c0 c1 c2 c3 c4;cases hk2:Y9 x.kind (kk l x)with
      |false=>
       have Yq:=Qa hk2;clear hk2;go_wp2_with fail;go_ret;refine Jr.no rfl (λh=> ?_) HB2.out;have:=h.2.1 i Xl.out;rw [<-HX.out]at this;unfold J7 at this;rw [Yq.out]at this;simp at this
      |true=>
       have Yq:=Qa hk2;clear hk2;go_wp2_with fail;go_roundw
       case rel=>exact ⟨i+1,by omega,by go_num,(by show Built _ _ _ _;rw [<-Qu.out];exact Q7h.out),HS1,(λj hj=>by
        rcases V7 j i with g |g
        ·exact HF.out j g
        ·rw [show j=i by omega,<-HX.out];unfold J7;rw [HO.out,Yq.out];rfl)⟩
       case measure=>simp [intOf];omega
  ·obtain rfl:i=n:=(by omega);have HSN:Hid (D9 l l.length 0):=(by show D9 _ _ _;rw [<-Zn.out];exact HS.out);have Qqz:Hid (Hw l↔0<i/\(seen l i 0).length=i-1):=by have h2:=Wld HSN.out;rw [<-Zn.out]at h2;exact h2
   have HFT:Hid (Fits l):=λj hj=>HF.out j (by rw [Zn.out];exact hj);obtain ⟨ua,uc,hv,hur⟩:=Rb.out.rows;subst hv;have hlen:(seen l i 0).length<=i:=HS.out.len (by rw [<-Zn.out];exact Qh _);obtain ⟨L,hL⟩:=Qb ((seen l i 0).length);rw [<-hL]at Qqz hlen ⊢;clear hL hur;rcases Nat.eq_zero_or_pos i with h0 |h0
   ·subst h0;go_wp2_with fail;go_ret;exact Jr.no rfl (λh=>by have:=Qqz.out.1 h.1;omega) Rb.out.2
   ·by_cases hqq:L=i-1
    ·have Wle:((L:Int)==(i:Int)-1)=true:=(by simp;omega);have HT:Hid (Hw l):=Qqz.out.2 ⟨h0,hqq⟩;have HA:Hid (Ahead l):=HT.out.2.1;clear hqq;go_wp2_with fail;refine (Q4s a c i l wr _ (i-1) Zn.out HA.out (HN.out.below Rb.out.2) (by omega) (by rw [<-Zn.out];omega) (by omega)).mono ?_;rintro e w1 ⟨rfl,hw1⟩;rw [hw1];clear hw1 w1;have HHG:Hid (hgt l (l.length-1)=hgt l (i-1)):=(by show _=_;rw [<-Zn.out]);obtain ⟨G,hG⟩:=Qb (hgt l (i-1));rw [<-hG]at HHG ⊢;clear hG;by_cases hg:G<=200
     ·have hg':decide ((G:Int)<=200)=true:=(by simp;omega);go_wp2_with fail;go_ret;exact Jr.yes (by first |rfl |simp [hg]) ⟨HT.out,HFT.out,by rw [HHG.out];exact hg⟩ Rb.out.2
     ·have hg':decide ((G:Int)<=200)=false:=(by simp;omega);go_wp2_with fail;go_ret;exact Jr.no (by first |rfl |simp [hg]) (λh=>hg (by rw [<-HHG.out];exact h.2.2)) Rb.out.2
    ·have Wle:((L:Int)==(i:Int)-1)=false:=(by simp;omega);have HQ:=Qa hqq;clear hqq;go_wp2_with fail;go_ret;exact Jr.no rfl (λh=>HQ.out (Qqz.out.1 h.1).2) Rb.out.2
end
end Go.Proofs.YtdncpkkhkbijfaaGreatDoor
