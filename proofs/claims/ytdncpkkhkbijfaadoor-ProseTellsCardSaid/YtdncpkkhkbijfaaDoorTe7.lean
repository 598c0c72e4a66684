import Derived.Test.YtdncpkkhkbijfaaDoorTe6
import Derived.StillTailTactics
import Derived.Laws.BitsAllLaws
import Derived.Laws.EntriesVeiled
open Go.Proofs.Tryd
set_option linter.all false
set_option maxHeartbeats 0
set_option maxRecDepth 100000
namespace Go.Proofs.YtdncpkkhkbijfaaDoor
section
open Go.RowKit
structure Env (w0 w:World) (a:Option Addr) (l:List Nd) (n c g hb lb rb:Nat):Prop where
 nodes:Nodes w0 a l
 below:Below w0.heap.size w0 w
 old:w0.heap.size<=g
 hc:w.cell? ⟨hb,0,none⟩=some (.slice (some ⟨g,0,none⟩) n n)
 lc:w.cell? ⟨lb,0,none⟩=some (.slice a n c)
 rc:w.cell? ⟨rb,0,none⟩=some (.func (.func 66) #[] #[.pointer (some ⟨hb,0,none⟩),.pointer (some ⟨lb,0,none⟩),.pointer (some ⟨rb,0,none⟩)])
 hn:hb≠g
 ln:lb≠g
 rn:rb≠g
theorem Um {g b o:Nat} {w w':World} (h:But g w w') (hb:b≠g):w'.cell? ⟨b,o,none⟩=w.cell? ⟨b,o,none⟩:=by unfold World.cell?;rw [h.block b hb]
theorem Env.but {w0 w w':World} {a:Option Addr} {l:List Nd} {n c g hb lb rb:Nat} (h:Env w0 w a l n c g hb lb rb) (hb':But g w w'):Env w0 w' a l n c g hb lb rb:=
 ⟨h.nodes,hb'.below h.below h.old,h.old,(Um hb' h.hn).trans h.hc,(Um hb' h.ln).trans h.lc,(Um hb' h.rn).trans h.rc,h.hn,h.ln,h.rn⟩
def Reached (l:List Nd) (g n at_ lv:Nat) (H:Nat->Int) (w:World) (e:Ending) (w':World):Prop:=
 ∃(b:Bool) (H':Nat->Int),e= .returned (.bool b)/\But g w w'/\Mine .i64 3 w' g n H'/\(b=true↔lv+hgt l at_<=201)/\
  (b=true->(∀j,Under l at_ j->H' j=(hgt l j:Int))/\(∀j,H' j=H j\/H' j=(hgt l j:Int))/\ ∀j,at_<j->H' j=H j)
theorem Reached.no {l:List Nd} {g n at_ lv:Nat} {H H':Nat->Int} {w w':World} {e:Ending} (he:e= .returned (.bool false)) (hb:But g w w') (hm:Mine .i64 3 w' g n H') (h: ¬lv+hgt l at_<=201):Reached l g n at_ lv H w e w':=
 ⟨false,H',he,hb,hm,by simp [h],λh=>by cases h⟩
structure Sub (l:List Nd) (i j:Nat) (H H':Nat->Int):Prop where
 here:H' i=(mx l i j:Int)
 done: ∀j',j'<j-> ∀q:Nat,(nd l i).kids.getD j' 0=(q:Int)-> ∀x,Under l q x->H' x=(hgt l x:Int)
 else_: ∀x,x≠i->H' x=H x\/H' x=(hgt l x:Int)
 past: ∀x,i<x->H' x=H x
theorem Sub.start (l:List Nd) (i:Nat) (H:Nat->Int):Sub l i 0 H (λx=>if x=i then 1 else H x):=
 ⟨by rw [Wy rfl,Hu];rfl,λj' h=>by omega,λx hx=>by rw [Q6 hx];exact .inl rfl,λx hx=>by rw [Q6 (by omega)]⟩
theorem Sub.next {l:List Nd} {i j q:Nat} {H H' H2:Nat->Int} (hA:Ahead l) (hi:i<l.length) (hj:j<(nd l i).kids.length) (hq:(nd l i).kids.getD j 0=(q:Int)) (hqi:q<i) (h:Sub l i j H H')
  (h1: ∀x,Under l q x->H2 x=(hgt l x:Int)) (h2: ∀x,H2 x=H' x\/H2 x=(hgt l x:Int)) (h3: ∀x,q<x->H2 x=H' x):Sub l i (j+1) H (λx=>if x=i then (max (mx l i j) (1+hgt l q):Nat)else H2 x):=by
 have hun: ∀r,r<i-> ∀x,Under l r x->x≠i:=by intro r hr x hx e;have:=hx.le hA (by omega);omega
 refine ⟨by simp only [if_true];rw [L8 hj hq],?_,?_,?_⟩
 ·intro j' hj' r hr x hx;obtain ⟨r',hr',hlt,_⟩:=Cj hA hi (show j'<(nd l i).kids.length by omega);have e:r=r':=by rw [hr]at hr';omega
  subst e;simp only [Q6 (hun r hlt x hx)];rcases Xa j' j with g |g
  ·have:=h.done j' g r hr x hx;rcases h2 x with e |e
   ·rw [e];exact this
   ·exact e
  ·obtain rfl:j'=j:=(by omega);rw [hr]at hq;have e:r=q:=(by omega);subst e;exact h1 x hx
 ·intro x hx;simp only [Q6 hx];rcases h2 x with e |e
  ·rw [e];exact h.else_ x hx
  ·exact .inr e
 ·intro x hx;simp only [Q6 (show¬x=i by omega)];rw [h3 x (by omega)];exact h.past x hx
theorem Reached.yes {l:List Nd} {g n i lv:Nat} {H H':Nat->Int} {w w':World} {e:Ending} (hA:Ahead l) (hi:i<l.length) (he:e= .returned (.bool true)) (hb:But g w w') (hm:Mine .i64 3 w' g n H') (h:lv+hgt l i<=201)
  (hs:Sub l i (nd l i).kids.length H H'):Reached l g n i lv H w e w':=by
 refine ⟨true,H',he,hb,hm,by simp [h],λ_=>⟨?_,?_,hs.past⟩⟩
 ·intro x hx;cases hx with
  |refl=>rw [hs.here,Es hA hi]
  |step hk hu=>
   obtain ⟨j,hj,e⟩:=List.mem_iff_getElem.1 hk;obtain ⟨q,hq,_,_⟩:=Cj hA hi hj;rw [Yh,Za hj]at hq;have e3:_=(q:Int):=e.symm.trans hq;rw [e3,Jo]at hu;have hq:(nd l i).kids.getD j 0=(q:Int):=(by rw [Yh,Za hj];exact hq);exact hs.done j hj q hq x hu
 ·intro x;by_cases hx:x=i
  ·subst hx;right;rw [hs.here,Es hA hi]
  ·exact hs.else_ x hx
theorem Qlw (w0:World) (a:Option Addr) (l:List Nd) (n c g hb lb rb:Nat) (hA:Ahead l) (hn:n=l.length) (hll:n<=1000000000): ∀(N at_:Nat),at_<N->at_<l.length-> ∀(lv:Nat) (H:Nat->Int) (w:World),1<=lv->lv<=201->Env w0 w a l n c g hb lb rb->Mine .i64 3 w g n H->
  Calls prog 66 #[.int .i64 (at_:Int),.int .i64 (lv:Int),.pointer (some ⟨hb,0,none⟩),.pointer (some ⟨lb,0,none⟩),.pointer (some ⟨rb,0,none⟩)] w (Reached l g n at_ lv H w):=by
 intro N
 induction N with
 |zero=>intro at_ h;omega
 |succ N ih=>
  intro i Cv hil lv H w hlv1 hlv2 hE hM;have HE:=Qa hE;have HM:=Qa hM;have HA:=Qa hA;have Q0:=Qa hn;have IH:=Qa ih;clear hE hM ih;have HP:=Qkl HA.out hil;by_cases Qst:200<lv
  ·go_enter func66,ntmps66;go_wp2_with fail;go_ret;exact Reached.no rfl (But.refl g w) HM.out (by omega)
  ·have Qtv:(i:Int)<(n:Int):=(by omega);have c1:=HE.out.hc;have f1:=HM.out.frozen i;have c5:=HM.out.cell (j:=i) (by omega);have Wx:=Qa hil;clear hil hn hA;go_enter func66,ntmps66;rw [Vk 4];go_wp2_with fail;obtain ⟨w1,hw1⟩:=Qb (w.setCell ⟨g,i,none⟩ (.int .i64 1));have A9:Hid (But g w w1):=(by rw [hw1];exact But.setCell g i _ w);have HM1:Hid (Mine .i64 3 w1 g n (λx=>if x=i then 1 else H x)):=(by rw [hw1];exact HM.out.set i 1);have Qi:=Qa (HE.out.but A9.out);rw [<-hw1];clear hw1 c1 f1 c5;have c1:=Qi.out.lc;obtain ⟨nb,no,rfl,hnb,h5⟩:=(Qi.out.nodes.below Qi.out.below).at_ Wx.out;have hok:=Qi.out.nodes.2 i Wx.out;have hkr:=hok.rows;have hkl:=hok.len;have h51:=h5.2.1;obtain ⟨ks,hks⟩:=Qb ((nd l i).kids);obtain ⟨ka,hka⟩:=Qb ((nd l i).ka);obtain ⟨kc,hkc⟩:=Qb ((nd l i).kc);obtain ⟨m,hm⟩:=Qb ks.length;rw [<-hks,<-hka,<-hkc,<-hm]at h51;rw [<-hks,<-hka,<-hm]at hkr;rw [<-hks,<-hm]at hkl;have Ab:=Qa hks;have Db:=Qa hm;have G5:=Qa hkr;clear hks hka hkc hm hkr hok h5;refine Vp ?_;go_wp2_with fail;go_loopw [21] (λt wr=> ∃(j:Nat) (H':Nat->Int),j<=m/\t= .int .i64 (j:Int)/\Hid (But g w wr)/\Hid (Mine .i64 3 wr g n H')/\Hid (Sub l i j H H')/\Hid (lv+mx l i j<=201)) (λt _=>m-(intOf t).toNat)
   case atStart=>exact ⟨0,_,by omega,rfl,A9,HM1,Sub.start l i H,(by show _<=_;rw [Hu];omega)⟩
   case round=>
    obtain ⟨j,H',hj,rfl,HB,HM,HS,Yw⟩:=hrel;have Gm:=Qa (HE.out.but HB.out);by_cases hjm:j<m
    ·have hjk:Hid (j<(nd l i).kids.length):=(by show j<_;rw [<-Ab.out,<-Db.out];exact hjm);obtain ⟨q,hq,hqi,_⟩:=Cj HA.out Wx.out hjk.out;obtain ⟨kb,ko,rfl,hkb,hkc⟩:=(G5.out.below Gm.out.below) (by omega);have hc:=hkc j hjm;simp only at hc;rw [Ab.out,hq]at hc;have HQ:=Qa hq;have crc:=Gm.out.rc;clear hkc hq;have HKH:Hid (1+hgt l q<=hgt l i):=Qqt HA.out Wx.out hjk.out HQ.out;go_wp2_with fail;refine (IH.out q (by omega) (by have:=Wx.out;omega) (lv+1) H' wr (by omega) (by omega) Gm.out HM.out).mono ?_;rintro e w2 ⟨b,H2,rfl,hb2,hm2,hiff,Qeo⟩;have HB2:=Qa (HB.out.trans hb2);have HE2:=Qa (HE.out.but HB2.out);have Co:=Qa hm2;have Zr:=Qa hiff;have Ik:=Qa Qeo;clear hb2 hm2 hiff Qeo;cases b with
     |false=>
      go_wp2_with fail;go_ret;exact Reached.no rfl HB2.out Co.out (by have h1:=HKH.out;have h2: ¬lv+1+hgt l q<=201:=λh=>(by cases Zr.out.2 h);omega)
     |true=>
      have Lr:Hid (lv+1+hgt l q<=201):=Zr.out.1 rfl;obtain ⟨h1,h2,h3⟩:=Ik.out rfl;have HS2:=Qa (HS.out.next HA.out Wx.out hjk.out HQ.out hqi h1 h2 h3);have cH:=HE2.out.hc;have ci:=Co.out.cell (j:=i) (by omega);have cq:=Co.out.cell (j:=q) (by omega);rw [h3 i hqi,HS.out.here]at ci;rw [h1 q (.refl _)]at cq;have fi:=Co.out.frozen i;have Cg:=Qa (L8 hjk.out HQ.out);have Ru:mx l i j<=200:=(by have:=Yw.out;omega);have Qk4:hgt l q<=200:=(by have:=Lr.out;omega);obtain ⟨M,hM⟩:=Qb (mx l i j);obtain ⟨Q,hQ⟩:=Qb (hgt l q);rw [<-hM]at ci Ru Cg HS2 Yw;rw [<-hQ]at cq Qk4 Cg HS2 Lr;clear hM hQ h1 h2 h3 Ik Zr;have D9:(q:Int)<(n:Int):=(by omega);rcases (show M<Q+1\/Q+1<M\/M=Q+1 by omega)with hlt |Qpn |heq
      ·go_wp2_with fail;go_still_tail 13,(by kernel_rfl);change wpList _ _ _ _ _ w2.drew;go_wp2_with fail;go_roundw
       case rel=>
        refine ⟨j+1,_,by omega,by go_num,?_,?_,HS2,?_⟩
        ·exact ((HB2.out.trans (But.setCell g i _ w2))).drew
        ·exact (Co.out.set i _).congr λx hx=>by
          split
          ·first |rfl |(refine congrArg _ ?_;omega) |omega
          ·rfl
        ·show _<=_;rw [Cg.out];have h1:=Yw.out;have h2:=Lr.out;omega
       case measure=>simp [intOf];omega
      ·go_wp2_with fail;go_still_tail 13,(by kernel_rfl);change wpList _ _ _ _ _ w2.drew;go_wp2_with fail;go_roundw
       case rel=>
        refine ⟨j+1,_,by omega,by go_num,?_,?_,HS2,?_⟩
        ·exact ((HB2.out.trans (But.setCell g i _ w2))).drew
        ·exact (Co.out.set i _).congr λx hx=>by
          split
          ·first |rfl |(refine congrArg _ ?_;omega) |omega
          ·rfl
        ·show _<=_;rw [Cg.out];have h1:=Yw.out;have h2:=Lr.out;omega
       case measure=>simp [intOf];omega
      ·subst heq;go_wp2_with fail;go_still_tail 13,(by kernel_rfl);change wpList _ _ _ _ _ w2.drew;go_wp2_with fail;go_roundw
       case rel=>
        refine ⟨j+1,_,by omega,by go_num,?_,?_,HS2,?_⟩
        ·exact ((HB2.out.trans (But.setCell g i _ w2))).drew
        ·exact (Co.out.set i _).congr λx hx=>by
          split
          ·first |rfl |(refine congrArg _ ?_;omega) |omega
          ·rfl
        ·show _<=_;rw [Cg.out];have h1:=Yw.out;have h2:=Lr.out;omega
       case measure=>simp [intOf];omega
    ·obtain rfl:j=m:=(by omega);go_wp2_with fail;go_ret;have e:Hid (j=(nd l i).kids.length):=(by show _=_;rw [<-Ab.out];exact Db.out);refine Reached.yes HA.out Wx.out rfl HB.out HM.out ?_ ?_
     ·have:=Yw.out;rw [e.out,Es HA.out Wx.out]at this;exact this
     ·rw [<-e.out];exact HS.out
def Wt (m:Nat) (k:Int):Bool:=(Eb k.toNat &&& m) != 0
def Yv (m:Nat) (ks:List Int):Nat:=(ks.takeWhile (Wt m)).length
def rem (p:Nat->Pt) (ks:List Int):Nat->Option (List Int)
 | 0=>some ks
 |i+1=>match rem p ks i with
  |none=>none
  |some r=>if Z6 (p i).lo (p i).hi (Yv (p i).is r:Int)then some (r.drop (Yv (p i).is r))else none
def greedy (p:Nat->Pt) (ks:List Int):Bool:=match rem p ks 2 with
 |none=>false
 |some r=>decide (r.length=0)
theorem Lh {m:Nat}: ∀{ks:List Int} {k:Nat},(∀j,j<k->Wt m (ks.getD j 0)=true)->k<=ks.length->(k<ks.length->Wt m (ks.getD k 0)=false)->Yv m ks=k
 | [],k,_,hk,_=>by simp at hk;simp [Yv,hk]
 |x::r,0,_,_,h=>by have:=h (by simp);have h':Wt m x=false:=this;simp [Yv,h']
 |x::r,k+1,h,hk,h2=>by have h0:Wt m x=true:=h 0 (by omega);have ih:=Lh (m:=m) (ks:=r) (k:=k) (λj hj=>by have:=h (j+1) (by omega);simpa using this) (by simpa using hk) (λhlt=>by have:=h2 (by simpa using hlt);simpa using this);unfold Yv at ih ⊢;rw [List.takeWhile_cons,h0];simp [ih]
theorem Qg0 (m:Nat) (ks:List Int):Yv m ks<=ks.length:=(List.takeWhile_prefix _).length_le
theorem Hy {p:Nat->Pt} {ks r:List Int} {i:Nat} (h:rem p ks i=some r) (hb:Z6 (p i).lo (p i).hi (Yv (p i).is r:Int)=true):rem p ks (i+1)=some (r.drop (Yv (p i).is r)):=by simp only [rem,h,hb,if_true]
theorem Ui {p:Nat->Pt} {ks r:List Int} {i:Nat} (h:rem p ks i=some r) (hb:Z6 (p i).lo (p i).hi (Yv (p i).is r:Int)=false):rem p ks (i+1)=none:=by simp [rem,h,hb]
theorem Qkk {p:Nat->Pt} {ks:List Int} {i:Nat} (h:rem p ks i=none):rem p ks (i+1)=none:=by simp [rem,h]
theorem Pg {p:Nat->Pt} {ks:List Int} {i:Nat} (hi:i<2) (h:rem p ks (i+1)=none):greedy p ks=false:=by
 have:rem p ks 2=none:=by
  rcases (show i=0\/i=1 by omega)with rfl |rfl
  ·exact Qkk h
  ·exact h
 simp [greedy,this]
theorem M4 {p:Nat->Pt} {ks r:List Int} (h:rem p ks 2=some r):greedy p ks=decide (r.length=0):=by simp [greedy,h]
def Du (p:Nat->Pt):Value:=.agg #[.int .u8 ((p 0).is:Int),.int .i64 (p 0).lo,.int .i64 (p 0).hi,.int .u8 ((p 1).is:Int),.int .i64 (p 1).lo,.int .i64 (p 1).hi]
theorem Qj9 (p:Nat->Pt) (i:Nat) (hi:i<2) (w:World):(Instr.index 96 (Du p) (.int .i64 (i:Int))).run prog w= .ok (.agg #[.int .u8 ((p i).is:Int),.int .i64 (p i).lo,.int .i64 (p i).hi]) w:=by
 rcases (show i=0\/i=1 by omega)with rfl |rfl
 ·kernel_rfl
 ·kernel_rfl
def Yl (ks:List Int):Prop:= ∀j,j<ks.length-> ∃k:Nat,ks.getD j 0=(k:Int)/\k<27
theorem Yl.drop {ks:List Int} (h:Yl ks) (d:Nat):Yl (ks.drop d):=by intro j hj;rw [Xt]at hj;obtain ⟨k,h1,h2⟩:=h (d+j) (by omega);exact ⟨k,by rw [Ao];exact h1,h2⟩
theorem Qcg (a ka:Option Addr) (c kc m:Nat) (l:List Nd) (ks:List Int) (p:Nat->Pt) (w:World) (hT:Xp w) (hN:Nodes w a l) (hk:Wo .i64 w ka m (λj=>ks.getD j 0)) (hI:Yt l ks) (hKn:Yl (kd l ks)) (hp: ∀i,(p i).is<256)
  (hm:m=ks.length) (hcap:m<=kc) (hml:m<=140737488351232) (hll:l.length<=9223372036854775807):
  Calls prog 65 #[.slice a l.length c,.slice ka m kc,Du p] w λe w'=>e= .returned (.bool (greedy p (kd l ks)))/\Below w.heap.size w w':=by
 have HM:=Qa hm;have HN:=Qa hN;have HK:=Qa hk;have HI:=Qa hI;have HT:=Qa hT;have Nr:=Qa hKn;have HP:=Qa hp;clear hm hN hk hI hT hKn hp;obtain ⟨G,hG⟩:=Qb (greedy p (kd l ks));rw [<-hG];have HG:=Qa hG;clear hG;have HB0:Hid (Below w.heap.size w (w.alloc (.cells #[.int .u8 ((p 0).is:Int),.int .i64 (p 0).lo,.int .i64 (p 0).hi,.int .u8 ((p 1).is:Int),.int .i64 (p 1).lo,.int .i64 (p 1).hi] 96))):=Qn;obtain ⟨V,hV⟩:=Qb (Du p);have HV:=Qa hV;unfold Du;go_enter func65,ntmps65;go_wp2_with fail;unfold Du at hV;rw [<-hV];clear hV;go_loopw [1,8,9,11] (λs1 _ _ t wr=> ∃(i:Nat) (ks':List Int) (Tt:Option Addr) (Hz m':Nat),i<=2/\t= .int .i64 (i:Int)/\s1= .slice Tt m' Hz/\m'<=Hz/\m'<=140737488351232/\Hid (m'=ks'.length)/\Hid (rem p (kd l ks) i=some (kd l ks'))/\Hid (Wo .i64 wr Tt m' (λj=>ks'.getD j 0))/\Hid (Yt l ks')/\Hid (Yl (kd l ks'))/\Hid (Below w.heap.size w wr)) (λ_ _ _ t _=>2-(intOf t).toNat)
 case atStart=>exact ⟨0,ks,ka,kc,m,by omega,rfl,rfl,hcap,hml,HM,rfl,HK.out.below HB0.out,HI,Nr,HB0⟩
 case round=>
  obtain ⟨i,ks',Tt,Hz,m',hi,rfl,rfl,Qta,hml',Bw,Fq,HK',Mg,Ml,HB⟩:=hrel;by_cases hi2:i<2
  ·have hix:=Qj9 p i hi2;rw [<-HV.out]at hix;obtain ⟨q,hq⟩:=Qb (p i);rw [<-hq]at hix;have Ql5:q.is<256:=(by rw [hq];exact HP.out i);obtain ⟨Bq,lo,hi'⟩:=q;have HQ:=Qa hq;clear hq;go_wp2_with fail;obtain ⟨w1,hw1⟩:=Qb (wr.alloc (.cells #[.int .u8 (Bq:Int),.int .i64 lo,.int .i64 hi'] 95));have HB1:Hid (Below wr.heap.size wr w1):=(by rw [hw1];exact Qn);have HH:Hid (Held w1 wr.heap.size 95 #[.int .u8 (Bq:Int),.int .i64 lo,.int .i64 hi']):=(by rw [hw1];exact Held.new wr _ _);have Xu:Hid (Below w.heap.size w w1):=HB.out.trans (HB1.out.mono HB.out.size);have Y3:=Qa (HK'.out.below HB1.out);have G6:=Qa (HN.out.below Xu.out);have HT1:=Qa (HT.out.below Xu.out);obtain ⟨g,hg⟩:=Qb wr.heap.size;rw [<-hw1,<-hg];rw [<-hg]at HH;clear hw1 hg HB1 HK' HB;obtain ⟨wo,rfl⟩:=Qb wr;have cp:=HH.out.at_ (j:=0) (v:=.int .u8 (Bq:Int)) rfl;go_loopw [9] (λt wr=> ∃k q:Nat,k<=m'/\t= .int .i64 (k:Int)/\wr=w1.drewN q/\Hid (∀j,j<k->Wt Bq ((kd l ks').getD j 0)=true)) (λt _=>m'-(intOf t).toNat)
   case atStart=>exact ⟨0,0,by omega,rfl,rfl,λj hj=>by omega⟩
   case round=>
    obtain ⟨k,q,hk,rfl,rfl,hE⟩:=hrel;by_cases hkm:k<m'
    ·have hkmi:(k:Int)<(m':Int):=(by omega);obtain ⟨kb,ko,lb,lo',u,rfl,rfl,hc,hu,⟨h5,_⟩,hkd,_⟩:=F5 (j:=k) G6.out Y3.out Mg.out Bw.out hkm;obtain ⟨z,hz,Qfq⟩:=Ml.out k (by rw [Y7,<-Bw.out];exact hkm);rw [hz]at hkd;rw [<-hkd]at h5;have hui:(u:Int)<(l.length:Int):=(by omega);have hzi:(z:Int)<27:=(by omega);have ht:=Wv HT1.out.rows (Qb2 z Qfq);have Qa8:=u8_and_nat (Eb z) Bq (Qnc z Qfq) Ql5;obtain ⟨x,hx⟩:=Qb (Eb z &&& Bq);have Qct:Hid (Wt Bq ((kd l ks').getD k 0)=(x != 0)):=by show _=_;rw [hz,hx];unfold Wt;rw [Jo]
     rw [<-hx]at Qa8;clear hx hkd hz;obtain ⟨y,hy⟩:=Qb (Eb z);rw [<-hy]at ht Qa8;clear hy;by_cases hx0:x=0
     ·have hx0':((x:Int) != 0)=false:=(by simp [hx0]);have HR:Hid (Yv Bq (kd l ks')=k):=by refine Lh hE.out (by rw [Y7,<-Bw.out];exact hk) (λ_=> ?_);rw [Qct.out,hx0];rfl
      have cl:=HH.out.at_ (j:=1) (v:=.int .i64 lo) rfl;have ch:=HH.out.at_ (j:=2) (v:=.int .i64 hi') rfl;have Qts: ¬Hz=k:=(by omega);clear hx0;go_wp2_with fail;go_quiet (fail);go_wp2_with fail;refine (Mt (k:Int) lo hi' _).mono ?_;rintro e w2 ⟨rfl,hb2⟩;have HB2:Hid (Below w1.heap.size w1 w2):=(Q5 w1 _ _).trans hb2;have Gx:Hid (Below w.heap.size w w2):=Xu.out.trans (HB2.out.mono Xu.out.size);clear hb2;cases hbt:Z6 lo hi' (k:Int)with
      |false=>
       have A9:=Qa hbt;clear hbt;go_wp2_with fail;go_ret;exact ⟨by rw [HG.out,Pg hi2 (Ui Fq.out (by rw [<-HQ.out,HR.out];exact A9.out))];rfl,Gx.out⟩
      |true=>
       have A9:=Qa hbt;clear hbt;go_wp2_with fail;go_roundw
       case rel=>exact ⟨i+1,ks'.drop k,_,_,_,by omega,by go_num,rfl,by omega,by omega,(by have h:=Bw.out;show _=_;rw [Xt];omega),(by have h:=Hy Fq.out (by rw [<-HQ.out,HR.out];exact A9.out);rw [<-HQ.out,HR.out,Zy]at h;exact h),(Mx (d:=k) (Y3.out.below HB2.out)),Mg.out.drop k,(by show Yl _;rw [<-Zy];exact Ml.out.drop k),Gx⟩
       case measure=>simp [intOf];omega
     ·have hx0':((x:Int) != 0)=true:=(by simp;omega);have HX:Hid (Wt Bq ((kd l ks').getD k 0)=true):=by show _=_;rw [Qct.out];simpa using hx0
      go_wp2_with fail;go_quiet (fail);go_wp2_with fail;go_roundw
      case rel=>exact ⟨k+1,_,by omega,by go_num,rfl,λj hj=>by
       rcases Xa j k with h |h
       ·exact hE.out j h
       ·rw [show j=k by omega];exact HX.out⟩
      case measure=>simp [intOf];omega
    ·obtain rfl:k=m':=(by omega);have HR:Hid (Yv Bq (kd l ks')=k):=Lh hE.out (by rw [Y7,<-Bw.out];exact hk) (λh=>by rw [Y7,<-Bw.out]at h;omega);have cl:=HH.out.at_ (j:=1) (v:=.int .i64 lo) rfl;have ch:=HH.out.at_ (j:=2) (v:=.int .i64 hi') rfl;have hkk:decide (k<k)=false:=(by simp);go_wp2_with fail;go_quiet (fail);go_wp2_with fail;refine (Mt (k:Int) lo hi' _).mono ?_;rintro e w2 ⟨rfl,hb2⟩;have HB2:Hid (Below w1.heap.size w1 w2):=(Q5 w1 _ _).trans hb2;have Gx:Hid (Below w.heap.size w w2):=Xu.out.trans (HB2.out.mono Xu.out.size);clear hb2;cases hbt:Z6 lo hi' (k:Int)with
     |false=>
      have A9:=Qa hbt;clear hbt;go_wp2_with fail;go_ret;exact ⟨by rw [HG.out,Pg hi2 (Ui Fq.out (by rw [<-HQ.out,HR.out];exact A9.out))];rfl,Gx.out⟩
     |true=>
      have A9:=Qa hbt;clear hbt;by_cases hck:k=Hz
      ·subst hck;go_wp2_with fail;go_roundw
       case rel=>exact ⟨i+1,ks'.drop k,_,_,_,by omega,by go_num,rfl,by omega,by omega,(by have h:=Bw.out;show _=_;rw [Xt];omega),(by have h:=Hy Fq.out (by rw [<-HQ.out,HR.out];exact A9.out);rw [<-HQ.out,HR.out,Zy]at h;exact h),(λh=>by omega),Mg.out.drop k,(by show Yl _;rw [<-Zy];exact Ml.out.drop k),Gx⟩
       case measure=>simp [intOf];omega
      ·skip;go_wp2_with fail;go_roundw
       case rel=>exact ⟨i+1,ks'.drop k,_,_,_,by omega,by go_num,rfl,by omega,by omega,(by have h:=Bw.out;show _=_;rw [Xt];omega),(by have h:=Hy Fq.out (by rw [<-HQ.out,HR.out];exact A9.out);rw [<-HQ.out,HR.out,Zy]at h;exact h),(λh=>by omega),Mg.out.drop k,(by show Yl _;rw [<-Zy];exact Ml.out.drop k),Gx⟩
       case measure=>simp [intOf];omega
  ·obtain rfl:i=2:=(by omega);by_cases h0:m'=0
   ·have h0':((m':Int)==0)=true:=(by simp [h0]);have H0:=Qa h0;clear h0;go_wp2_with fail;go_ret;exact ⟨by rw [HG.out,M4 Fq.out,Y7,<-Bw.out,decide_eq_true H0.out];rfl,HB.out⟩
   ·have h0':((m':Int)==0)=false:=(by simp;omega);have H0:=Qa h0;clear h0;go_wp2_with fail;go_ret;exact ⟨by rw [HG.out,M4 Fq.out,Y7,<-Bw.out,decide_eq_false H0.out];rfl,HB.out⟩
def Q9 (k:Nat):Nat->Pt:=λi=>if i=0 then (Zh (F8 k)).1 else (Zh (F8 k)).2
def I7 (l:List Nd) (x:Nd):Bool:=
 if x.kind<1\/26<x.kind\/x.at_<0 then false
 else if (if Ew x.kind.toNat then Y2 x.t else decide (x.t=[]))then Z6 (lim (numOf x.kind.toNat)).1 (lim (numOf x.kind.toNat)).2 x.n&&greedy (Q9 x.kind.toNat) (kd l x.kids)
 else false
theorem Qr7: ∀j,j<11->(Zh j).1.is<256/\(Zh j).2.is<256
 | 0,_=>by decide
 | 1,_=>by decide
 | 2,_=>by decide
 | 3,_=>by decide
 | 4,_=>by decide
 | 5,_=>by decide
 | 6,_=>by decide
 | 7,_=>by decide
 | 8,_=>by decide
 | 9,_=>by decide
 | 10,_=>by decide
 |n+11,h=>by omega
theorem Qhh {k:Nat} (hk:k<27) (i:Nat):(Q9 k i).is<256:=by
 have:=Qr7 (F8 k) (Qev k hk);unfold Q9;split
 ·exact this.1
 ·exact this.2
theorem Qg8 (V:Value) (K:Int) (ka:Option Addr) (kc m:Nat) (n:Int) (s:ByteArray) (at_:Int) (w:World) (h:K<1\/26<K\/at_<0):
  Calls prog 50 #[V,.agg #[.int .i64 K,.slice ka m kc,.int .i64 n,.string s,.int .i64 at_]] w λe w'=>e= .returned (.bool false)/\Below w.heap.size w w':=by
 by_cases h1:K<1
 ·clear h;go_enter func50,ntmps50;go_wp2_with fail;go_ret;exact ⟨rfl,Qn⟩
 ·by_cases h2:26<K
  ·clear h;go_enter func50,ntmps50;go_wp2_with fail;go_ret;exact ⟨rfl,Qn⟩
  ·have h3:at_<0:=(by omega);clear h;go_enter func50,ntmps50;go_wp2_with fail;go_ret;exact ⟨rfl,Qn⟩
theorem Qrd (a ka:Option Addr) (c k kc m:Nat) (l:List Nd) (ks:List Int) (n:Int) (s:ByteArray) (at_:Int) (w:World) (h1:1<=k) (h2:k<=26) (h3:0<=at_) (hs:s.size<=140737488351232)
  (hT:Xp w) (hN:Nodes w a l) (hk:Wo .i64 w ka m (λj=>ks.getD j 0)) (hI:Yt l ks) (hKn:Yl (kd l ks)) (hm:m=ks.length) (hcap:m<=kc) (hml:m<=140737488351232) (hll:l.length<=9223372036854775807):
  Calls prog 50 #[.slice a l.length c,.agg #[.int .i64 (k:Int),.slice ka m kc,.int .i64 n,.string s,.int .i64 at_]] w λe w'=>e= .returned (.bool (if (if Ew k then Y2 s.data.toList else decide (s.data.toList=[]))then Z6 (lim (numOf k)).1 (lim (numOf k)).2 n&&greedy (Q9 k) (kd l ks)else false))/\Below w.heap.size w w':=by
 have Bt:k<27:=by omega
 have t0:=Wv hT.rows (Qdc k Bt);have t1:=Wv hT.rows (Qh7 k Bt);have t2:=Wv hT.rows (Qb2 k Bt);have t3:=Wv hT.rows (Qea k Bt);have t4:=Wv hT.rows (Qn6 k Bt);unfold txt at t0;have HN:=Qa hN;have HK:=Qa hk;have HI:=Qa hI;have HT:=Qa hT;have Nr:=Qa hKn;have HM:=Qa hm;have Jj:=Qa (Oi s);clear hN hk hI hT hKn hm;have hnl:=Qlc k Bt;have hml':=Qev k Bt;have Tc:=Qa (Qhh Bt);obtain ⟨W,hW⟩:=Qb (M8 k);obtain ⟨I,hI⟩:=Qb (Eb k);obtain ⟨U,hU⟩:=Qb (numOf k);obtain ⟨J,hJ⟩:=Qb (F8 k);obtain ⟨NM,hNM⟩:=Qb (Ew k);obtain ⟨p,hp⟩:=Qb (Q9 k);have HPV:Hid (Du p= .agg #[.int .u8 ((Zh J).1.is:Int),.int .i64 (Zh J).1.lo,.int .i64 (Zh J).1.hi,.int .u8 ((Zh J).2.is:Int),.int .i64 (Zh J).2.lo,.int .i64 (Zh J).2.hi]):=by rw [hp,hJ];rfl
 rw [<-hW]at t0;rw [<-hNM]at t1 ⊢;rw [<-hI]at t2;rw [<-hU]at t3 hnl ⊢;rw [<-hJ]at t4 hml';rw [<-hp]at Tc ⊢;clear hW hI hU hJ hNM hp;have HG2:Hid (4<w.heap.size):=Em t0;replace t0:=(World.cell?_alloc_lt w (.cells #[.int .i64 (k:Int),.slice ka m kc,.int .i64 n,.string s,.int .i64 at_] 25) ⟨4,k*5,none⟩ HG2.out).trans t0;replace t1:=(World.cell?_alloc_lt w (.cells #[.int .i64 (k:Int),.slice ka m kc,.int .i64 n,.string s,.int .i64 at_] 25) ⟨4,k*5+1,none⟩ HG2.out).trans t1;replace t2:=(World.cell?_alloc_lt w (.cells #[.int .i64 (k:Int),.slice ka m kc,.int .i64 n,.string s,.int .i64 at_] 25) ⟨4,k*5+2,none⟩ HG2.out).trans t2;replace t3:=(World.cell?_alloc_lt w (.cells #[.int .i64 (k:Int),.slice ka m kc,.int .i64 n,.string s,.int .i64 at_] 25) ⟨4,k*5+3,none⟩ HG2.out).trans t3;replace t4:=(World.cell?_alloc_lt w (.cells #[.int .i64 (k:Int),.slice ka m kc,.int .i64 n,.string s,.int .i64 at_] 25) ⟨4,k*5+4,none⟩ HG2.out).trans t4;obtain ⟨R,hR⟩:=Qb (if (if NM then Y2 s.data.toList else decide (s.data.toList=[]))then Z6 (lim U).1 (lim U).2 n&&greedy p (kd l ks)else false);rw [<-hR];have HRt:Hid (NM=true->Y2 s.data.toList=true->R=(Z6 (lim U).1 (lim U).2 n&&greedy p (kd l ks))):=by intro h1 h2;rw [hR,h1];simp [h2]
 have HRf:Hid (NM=true->Y2 s.data.toList=false->R=false):=by intro h1 h2;rw [hR,h1];simp [h2]
 have HRg:Hid (NM=false->s.data.toList=[]->R=(Z6 (lim U).1 (lim U).2 n&&greedy p (kd l ks))):=by intro h1 h2;rw [hR,h1];simp [h2]
 have HRh:Hid (NM=false-> ¬s.data.toList=[]->R=false):=by intro h1 h2;rw [hR,h1];simp [h2]
 clear hR;cases NM with
 |true=>
  go_enter func50,ntmps50;go_wp2_with fail;obtain ⟨w1,hw1⟩:=Qb ((w.alloc (.cells #[.int .i64 (k:Int),.slice ka m kc,.int .i64 n,.string s,.int .i64 at_] 25)).alloc (.cells #[.string ⟨W.toArray⟩,.bool true,.int .u8 (I:Int),.int .u8 (U:Int),.int .u8 (J:Int)] 87));have HB1:Hid (Below w.heap.size w w1):=by rw [hw1];exact Qn.alloc (by simp) _
  have HH0:Hid (Held w1 w.heap.size 25 #[.int .i64 (k:Int),.slice ka m kc,.int .i64 n,.string s,.int .i64 at_]):=by rw [hw1];exact (Held.new w _ _).alloc _
  have Qs:Hid (Held w1 (w.heap.size+1) 87 #[.string ⟨W.toArray⟩,.bool true,.int .u8 (I:Int),.int .u8 (U:Int),.int .u8 (J:Int)]):=by rw [hw1];have:=Held.new (w.alloc (.cells #[.int .i64 (k:Int),.slice ka m kc,.int .i64 n,.string s,.int .i64 at_] 25)) 87 #[.string ⟨W.toArray⟩,.bool true,.int .u8 (I:Int),.int .u8 (U:Int),.int .u8 (J:Int)];have e:(w.alloc (.cells #[.int .i64 (k:Int),.slice ka m kc,.int .i64 n,.string s,.int .i64 at_] 25)).heap.size=w.heap.size+1:=(by simp);rw [e]at this;exact this
  obtain ⟨g,hg⟩:=Qb w.heap.size;rw [<-hw1];rw [<-hg]at HH0 Qs ⊢;have Pm:=Qa hg;clear hw1 hg;refine (Qpb s w1 (HT.out.below HB1.out) hs).mono ?_;rintro e w2 ⟨rfl,hw2⟩;rw [hw2];clear hw2 w2;cases hb:Y2 s.data.toList with
  |false=>
   have Sd:=Qa hb;clear hb;go_wp2_with fail;go_ret;exact ⟨by rw [HRf.out (by first |rfl |trivial) Sd.out];rfl,HB1.out⟩
  |true=>
   have Sd:=Qa hb;clear hb;have r1:=Qs.out.at_ (j:=1) (v:=.bool true) rfl;go_wp2_with fail;have Xv:=HT.out.below HB1.out;have Dl:=HN.out.below HB1.out;have Vo:=HK.out.below HB1.out;have kn:=cell_regrown (HH0.out.at_ (j:=2) (v:=.int .i64 n) rfl);have R4:=cell_regrown (HH0.out.at_ (j:=1) (v:=.slice ka m kc) rfl);have ku:=cell_regrown (Qs.out.at_ (j:=3) (v:=.int .u8 (U:Int)) rfl);have kj:=cell_regrown (Qs.out.at_ (j:=4) (v:=.int .u8 (J:Int)) rfl);have kl:=cell_regrown (Wv Xv.limits (Qec U hnl));have kh:=cell_regrown (Wv Xv.limits (Qbq U hnl));have m0:=cell_regrown (Wv Xv.makings (Qcv J hml'));have m1:=cell_regrown (Wv Xv.makings (Qg5 J hml'));have m2:=cell_regrown (Wv Xv.makings (Qfb J hml'));have m3:=cell_regrown (Wv Xv.makings (Qcy J hml'));have m4:=cell_regrown (Wv Xv.makings (Qbr J hml'));have m5:=cell_regrown (Wv Xv.makings (Qbt J hml'));have cF: ∀d os,Calls prog 65 #[.slice a l.length c,.slice ka m kc,Du p] (Sort.grow (redrawn w1 d) os) λe w''=>e= .returned (.bool (greedy p (kd l ks)))/\ ∃q:Regrown,w''=Sort.grow (redrawn w1 q.d) q.os:=λd os=>Calls.regrown_of (Qcg a ka c kc m l ks p _ (Xv.below (below_regrown w1 d os)) (Dl.below (below_regrown w1 d os)) (Vo.below (below_regrown w1 d os)) HI.out Nr.out Tc.out HM.out hcap hml hll);rw [HPV.out]at cF;have cW: ∀d os,Calls prog 64 #[.int .i64 n,.agg #[.int .i64 (lim U).1,.int .i64 (lim U).2]] (Sort.grow (redrawn w1 d) os) λe w''=>e= .returned (.bool (Z6 (lim U).1 (lim U).2 n))/\ ∃q:Regrown,w''=Sort.grow (redrawn w1 q.d) q.os:=λd os=>Calls.regrown_of (Mt n (lim U).1 (lim U).2 _);clear Xv Dl Vo;obtain ⟨GB,Ey⟩:=Qb (greedy p (kd l ks));obtain ⟨WB,Eo⟩:=Qb (Z6 (lim U).1 (lim U).2 n);rw [<-Ey]at cF;rw [<-Eo]at cW;have Pz:=Qa Ey;have HWB:=Qa Eo;clear Ey Eo;obtain ⟨y0,hy0⟩:=Qb ((Zh J).1.is);obtain ⟨y1,hy1⟩:=Qb ((Zh J).1.lo);obtain ⟨y2,hy2⟩:=Qb ((Zh J).1.hi);obtain ⟨y3,hy3⟩:=Qb ((Zh J).2.is);obtain ⟨y4,hy4⟩:=Qb ((Zh J).2.lo);obtain ⟨y5,Fu⟩:=Qb ((Zh J).2.hi);obtain ⟨z1,hz1⟩:=Qb ((lim U).1);obtain ⟨z2,hz2⟩:=Qb ((lim U).2);rw [<-hy0]at m0;rw [<-hy1]at m1;rw [<-hy2]at m2;rw [<-hy3]at m3;rw [<-hy4]at m4;rw [<-Fu]at m5;rw [<-hy0,<-hy1,<-hy2,<-hy3,<-hy4,<-Fu]at cF;rw [<-hz1,<-hz2]at cW;rw [<-hz1]at kl;rw [<-hz2]at kh;clear hy0 hy1 hy2 hy3 hy4 Fu hz1 hz2;have hUi:(U:Int)<5:=(by omega);have hJi:(J:Int)<11:=(by omega);cases WB
   all_goals
    refine wp_region_quiet_below (by kernel_rfl) (by kernel_rfl) ?_
    repeat (any_goals (first |go_big_quiet_step (first |exact cF _ _ |exact cW _ _) |quiet_step (first |exact cF _ _ |exact cW _ _)))
    refine wpQuiet_nil ?_;intro _ hw';obtain ⟨⟨dq,osq⟩,hw''⟩:=hw';obtain ⟨w2,hw2⟩:=Qb (Sort.grow (redrawn w1 dq) osq);have HB3:Hid (Below w.heap.size w w2):=(by rw [hw2];exact HB1.out.trans ((below_regrown w1 dq osq).mono HB1.out.size));rw [hw'',<-hw2];clear hw2 hw'' kn R4 ku kj kl kh m0 m1 m2 m3 m4 m5 cF cW;go_wp2_with fail;go_ret;exact ⟨by rw [HRt.out (by first |rfl |trivial) Sd.out,<-HWB.out,<-Pz.out];rfl,HB3.out⟩
 |false=>
  by_cases hse:s.data.toList=[]
  ·have Qab:s.toList.isEmpty=true:=(by rw [Jj.out,hse];rfl);have Sr:s.toList=[]:=(by rw [Jj.out,hse]);have Dq:=Qa hse;clear hse;go_enter func50,ntmps50;go_wp2_with fail;obtain ⟨w1,hw1⟩:=Qb ((w.alloc (.cells #[.int .i64 (k:Int),.slice ka m kc,.int .i64 n,.string s,.int .i64 at_] 25)).alloc (.cells #[.string ⟨W.toArray⟩,.bool false,.int .u8 (I:Int),.int .u8 (U:Int),.int .u8 (J:Int)] 87));have HB1:Hid (Below w.heap.size w w1):=(by rw [hw1];exact Qn.alloc (by simp) _);have HH0:Hid (Held w1 w.heap.size 25 #[.int .i64 (k:Int),.slice ka m kc,.int .i64 n,.string s,.int .i64 at_]):=(by rw [hw1];exact (Held.new w _ _).alloc _);have Qs:Hid (Held w1 (w.heap.size+1) 87 #[.string ⟨W.toArray⟩,.bool false,.int .u8 (I:Int),.int .u8 (U:Int),.int .u8 (J:Int)]):=by rw [hw1];have:=Held.new (w.alloc (.cells #[.int .i64 (k:Int),.slice ka m kc,.int .i64 n,.string s,.int .i64 at_] 25)) 87 #[.string ⟨W.toArray⟩,.bool false,.int .u8 (I:Int),.int .u8 (U:Int),.int .u8 (J:Int)];have e:(w.alloc (.cells #[.int .i64 (k:Int),.slice ka m kc,.int .i64 n,.string s,.int .i64 at_] 25)).heap.size=w.heap.size+1:=(by simp);rw [e]at this;exact this
   obtain ⟨g,hg⟩:=Qb w.heap.size;rw [<-hw1];rw [<-hg]at HH0 Qs ⊢;have Pm:=Qa hg;clear hw1 hg;have Xv:=HT.out.below HB1.out;have Dl:=HN.out.below HB1.out;have Vo:=HK.out.below HB1.out;have kn:=cell_regrown (HH0.out.at_ (j:=2) (v:=.int .i64 n) rfl);have R4:=cell_regrown (HH0.out.at_ (j:=1) (v:=.slice ka m kc) rfl);have ku:=cell_regrown (Qs.out.at_ (j:=3) (v:=.int .u8 (U:Int)) rfl);have kj:=cell_regrown (Qs.out.at_ (j:=4) (v:=.int .u8 (J:Int)) rfl);have kl:=cell_regrown (Wv Xv.limits (Qec U hnl));have kh:=cell_regrown (Wv Xv.limits (Qbq U hnl));have m0:=cell_regrown (Wv Xv.makings (Qcv J hml'));have m1:=cell_regrown (Wv Xv.makings (Qg5 J hml'));have m2:=cell_regrown (Wv Xv.makings (Qfb J hml'));have m3:=cell_regrown (Wv Xv.makings (Qcy J hml'));have m4:=cell_regrown (Wv Xv.makings (Qbr J hml'));have m5:=cell_regrown (Wv Xv.makings (Qbt J hml'));have cF: ∀d os,Calls prog 65 #[.slice a l.length c,.slice ka m kc,Du p] (Sort.grow (redrawn w1 d) os) λe w''=>e= .returned (.bool (greedy p (kd l ks)))/\ ∃q:Regrown,w''=Sort.grow (redrawn w1 q.d) q.os:=λd os=>Calls.regrown_of (Qcg a ka c kc m l ks p _ (Xv.below (below_regrown w1 d os)) (Dl.below (below_regrown w1 d os)) (Vo.below (below_regrown w1 d os)) HI.out Nr.out Tc.out HM.out hcap hml hll);rw [HPV.out]at cF;have cW: ∀d os,Calls prog 64 #[.int .i64 n,.agg #[.int .i64 (lim U).1,.int .i64 (lim U).2]] (Sort.grow (redrawn w1 d) os) λe w''=>e= .returned (.bool (Z6 (lim U).1 (lim U).2 n))/\ ∃q:Regrown,w''=Sort.grow (redrawn w1 q.d) q.os:=λd os=>Calls.regrown_of (Mt n (lim U).1 (lim U).2 _);clear Xv Dl Vo;obtain ⟨GB,Ey⟩:=Qb (greedy p (kd l ks));obtain ⟨WB,Eo⟩:=Qb (Z6 (lim U).1 (lim U).2 n);rw [<-Ey]at cF;rw [<-Eo]at cW;have Pz:=Qa Ey;have HWB:=Qa Eo;clear Ey Eo;obtain ⟨y0,hy0⟩:=Qb ((Zh J).1.is);obtain ⟨y1,hy1⟩:=Qb ((Zh J).1.lo);obtain ⟨y2,hy2⟩:=Qb ((Zh J).1.hi);obtain ⟨y3,hy3⟩:=Qb ((Zh J).2.is);obtain ⟨y4,hy4⟩:=Qb ((Zh J).2.lo);obtain ⟨y5,Fu⟩:=Qb ((Zh J).2.hi);obtain ⟨z1,hz1⟩:=Qb ((lim U).1);obtain ⟨z2,hz2⟩:=Qb ((lim U).2);rw [<-hy0]at m0;rw [<-hy1]at m1;rw [<-hy2]at m2;rw [<-hy3]at m3;rw [<-hy4]at m4;rw [<-Fu]at m5;rw [<-hy0,<-hy1,<-hy2,<-hy3,<-hy4,<-Fu]at cF;rw [<-hz1,<-hz2]at cW;rw [<-hz1]at kl;rw [<-hz2]at kh;clear hy0 hy1 hy2 hy3 hy4 Fu hz1 hz2;have hUi:(U:Int)<5:=(by omega);have hJi:(J:Int)<11:=(by omega);cases WB
   all_goals
    refine wp_region_quiet_below (by kernel_rfl) (by kernel_rfl) ?_
    repeat (any_goals (first |go_big_quiet_step (first |exact cF _ _ |exact cW _ _) |quiet_step (first |exact cF _ _ |exact cW _ _)))
    refine wpQuiet_nil ?_;intro _ hw';obtain ⟨⟨dq,osq⟩,hw''⟩:=hw';obtain ⟨w2,hw2⟩:=Qb (Sort.grow (redrawn w1 dq) osq);have HB3:Hid (Below w.heap.size w w2):=(by rw [hw2];exact HB1.out.trans ((below_regrown w1 dq osq).mono HB1.out.size));rw [hw'',<-hw2];clear hw2 hw'' kn R4 ku kj kl kh m0 m1 m2 m3 m4 m5 cF cW;go_wp2_with fail;go_ret;exact ⟨by rw [HRg.out (by first |rfl |trivial) Dq.out,<-HWB.out,<-Pz.out];rfl,HB3.out⟩
  ·have Qab:s.toList.isEmpty=false:=(by rw [Jj.out,List.isEmpty_eq_false_iff];exact hse);have Sr: ¬s.toList=[]:=(by rw [Jj.out];exact hse);have Dq:=Qa hse;clear hse;go_enter func50,ntmps50;go_wp2_with fail;go_ret;exact ⟨by rw [HRh.out (by first |rfl |trivial) Dq.out];rfl,Qn.alloc (by simp) _⟩
theorem Qmh (a:Option Addr) (c:Nat) (l:List Nd) (x:Nd) (w:World) (hT:Xp w) (hN:Nodes w a l) (hx:Ok w x) (hI:Yt l x.kids) (hKn:Yl (kd l x.kids)) (hll:l.length<=9223372036854775807):
  Calls prog 50 #[.slice a l.length c,x.v] w λe w'=>e= .returned (.bool (I7 l x))/\Below w.heap.size w w':=by
 obtain ⟨K,ka,kc,ks,n,s,at_⟩:=x;have h1:=hx.rows;have h2:=hx.cap;have h3:=hx.len;have h4:=hx.s;by_cases h:K<1\/26<K\/at_<0
 ·refine (Qg8 _ K ka kc ks.length n s at_ w h).mono ?_;rintro e w' ⟨rfl,hb⟩;refine ⟨?_,hb⟩;unfold I7;rw [Wy h]
 ·obtain ⟨k,rfl⟩: ∃k:Nat,K=k:=⟨K.toNat,by omega⟩;refine (Qrd a ka c k kc ks.length l ks n s at_ w (by omega) (by omega) (by omega) h4 hT hN h1 hI hKn rfl h2 h3 hll).mono ?_;rintro e w' ⟨rfl,hb⟩;refine ⟨?_,hb⟩;unfold I7;rw [Q6 h];rfl
theorem Qkt: ∀k:Fin 27,Wt 1 (k.val:Int)=Qt k.val/\Wt 2 (k.val:Int)=Y9 k.val/\Wt 4 (k.val:Int)=decide ((k.val:Int)=23)/\Wt 8 (k.val:Int)=decide ((k.val:Int)=11)/\Wt 16 (k.val:Int)=decide ((k.val:Int)=24)/\Wt 32 (k.val:Int)=decide ((k.val:Int)=25):=by decide+kernel
theorem Qe6 (k:Int):Wt 0 k=false:=by unfold Wt;simp
theorem Wp {ks:List Int} (h:Yl ks) {j:Nat} (hj:j<ks.length):Wt 1 (ks.getD j 0)=Qt (ks.getD j 0)/\Wt 2 (ks.getD j 0)=Y9 (ks.getD j 0)/\Wt 4 (ks.getD j 0)=decide (ks.getD j 0=23)/\Wt 8 (ks.getD j 0)=decide (ks.getD j 0=11)/\Wt 16 (ks.getD j 0)=decide (ks.getD j 0=24)/\Wt 32 (ks.getD j 0)=decide (ks.getD j 0=25):=by obtain ⟨k,hk,hlt⟩:=h j hj;rw [hk];exact Qkt ⟨k,hlt⟩
theorem Rw {m:Nat}: ∀{ks:List Int} {j:Nat},j<Yv m ks->Wt m (ks.getD j 0)=true
 | [],j,h=>by simp [Yv]at h
 |x::r,j,h=>by
  unfold Yv at h;rw [List.takeWhile_cons]at h;split at h
  ·rename_i hx;cases j with
   |zero=>exact hx
   |succ j=>
    have:=Rw (m:=m) (ks:=r) (j:=j) (by unfold Yv;simpa using h);simpa using this
  ·simp at h
theorem Ia {p:Nat->Pt} {ks:List Int} (hd: ∀j,j<ks.length->Wt (p 1).is (ks.getD j 0)=true->Wt (p 0).is (ks.getD j 0)=false):
  greedy p ks=true↔ ∃n,n<=ks.length/\(∀j,j<n->Wt (p 0).is (ks.getD j 0)=true)/\(∀j,n<=j->j<ks.length->Wt (p 1).is (ks.getD j 0)=true)/\((p 0).lo<=(n:Int)/\(n:Int)<=(p 0).hi)/\((p 1).lo<=((ks.length-n:Nat):Int)/\((ks.length-n:Nat):Int)<=(p 1).hi):=by
 have hb: ∀lo hi n:Int,Z6 lo hi n=true↔lo<=n/\n<=hi:=by intro lo hi n;simp [Z6]
 have r1:rem p ks 1=if Z6 (p 0).lo (p 0).hi (Yv (p 0).is ks:Int)then some (ks.drop (Yv (p 0).is ks))else none:=rfl;constructor
 ·intro h;have h1:Z6 (p 0).lo (p 0).hi (Yv (p 0).is ks:Int)=true:=by
   cases hh:Z6 (p 0).lo (p 0).hi (Yv (p 0).is ks:Int)with
   |true=>rfl
   |false=>rw [Pg (i:=0) (by omega) (by rw [r1,hh];rfl)]at h;cases h
  have e1:rem p ks 1=some (ks.drop (Yv (p 0).is ks)):=by rw [r1,h1];rfl
  have h2:Z6 (p 1).lo (p 1).hi (Yv (p 1).is (ks.drop (Yv (p 0).is ks)):Int)=true:=by
   cases hh:Z6 (p 1).lo (p 1).hi (Yv (p 1).is (ks.drop (Yv (p 0).is ks)):Int)with
   |true=>rfl
   |false=>rw [Pg (i:=1) (by omega) (Ui e1 hh)]at h;cases h
  have e2:=Hy e1 h2;rw [M4 e2,Qu,Xt,Xt]at h;have l1:=Qg0 (p 0).is ks;have l2:=Qg0 (p 1).is (ks.drop (Yv (p 0).is ks));rw [Xt]at l2;have e3:Yv (p 1).is (ks.drop (Yv (p 0).is ks))=ks.length-Yv (p 0).is ks:=by omega
  rw [e3]at h2;refine ⟨Yv (p 0).is ks,l1,?_,?_,(hb _ _ _).1 h1,(hb _ _ _).1 h2⟩
  ·intro j hj;exact Rw hj
  ·intro j hj hjl;have:=Rw (m:=(p 1).is) (ks:=ks.drop (Yv (p 0).is ks)) (j:=j-Yv (p 0).is ks) (by omega);rw [Ao]at this;rw [show Yv (p 0).is ks+(j-Yv (p 0).is ks)=j by omega]at this;exact this
 ·rintro ⟨n,hn,hP,hQ,h1,h2⟩;have e0:Yv (p 0).is ks=n:=Lh hP hn (λh=>hd n h (hQ n (Yc _) h));have e1:rem p ks 1=some (ks.drop n):=by rw [r1,e0,(hb _ _ _).2 h1];rfl
  have e3:Yv (p 1).is (ks.drop n)=ks.length-n:=Lh (λj hj=>by rw [Ao];exact hQ (n+j) (by omega) (by omega)) (by rw [Xt];exact Yc _) (λh=>by rw [Xt]at h;omega);have e2:=Hy e1 (by rw [e3];exact (hb _ _ _).2 h2);rw [M4 e2,e3,Qu,Xt,Xt];omega
theorem Jk {ks:List Int} {n:Nat}:exprs ks n=true↔n<=ks.length/\ ∀j,j<n->Qt (ks.getD j 0)=true:=by
 constructor
 ·intro h;rcases Xa ks.length n with g |g
  ·rw [Qcj g]at h;cases h
  ·refine ⟨g,λj hj=> ?_⟩;cases hh:Qt (ks.getD j 0)with
   |true=>rfl
   |false=>rw [Qb6 hj g hh]at h;cases h
 ·rintro ⟨h1,h2⟩;exact Qdq h1 h2
theorem I8 {ks:List Int} {K:Int} {m:Nat}:Yp ks K m=true↔(∀j,j<ks.length->ks.getD j 0=K)/\ks.length<=m:=by
 constructor
 ·intro h;have h1: ∀j,j<ks.length->ks.getD j 0=K:=by
   intro j hj;by_cases hh:ks.getD j 0=K
   ·exact hh
   ·rw [Qgt hj hh]at h;cases h
  rw [Qan h1,Qu]at h;exact ⟨h1,h⟩
 ·rintro ⟨h1,h2⟩;rw [Qan h1,decide_eq_true h2]
theorem Qry {ks:List Int}:ks.all Y9=true↔ ∀j,j<ks.length->Y9 (ks.getD j 0)=true:=by
 constructor
 ·intro h j hj;cases hh:Y9 (ks.getD j 0)with
  |true=>rfl
  |false=>rw [Qe5 hj hh]at h;cases h
 ·exact Qcq
theorem Xl {p:Nat->Pt} {ks:List Int} {m:Nat} {lo hi:Int} (h0:p 0=⟨m,lo,hi⟩) (h1:p 1=⟨0,0,0⟩):greedy p ks=true↔(∀j,j<ks.length->Wt m (ks.getD j 0)=true)/\lo<=(ks.length:Int)/\(ks.length:Int)<=hi:=by
 rw [Ia (by intro j _ h;rw [h1,Qe6]at h;cases h),h0,h1];constructor
 ·rintro ⟨n,hn,hP,hQ,hb,_⟩;have:n=ks.length:=by
   rcases Xa n ks.length with g |g
   ·have:=hQ n (Yc _) g;rw [Qe6]at this;cases this
   ·omega
  subst this;exact ⟨hP,hb⟩
 ·rintro ⟨hP,hb⟩;exact ⟨ks.length,Yc _,hP,λj h1 h2=>by omega,hb,by simp⟩
theorem Zu {a b:Bool} (h:a=true↔b=true):a=b:=by rw [Bool.eq_iff_iff];exact h
theorem Qk1 {ks:List Int} (hK:Yl ks):greedy (Q9 5) ks=Qq 5 ks:=by
 refine Zu ?_;rw [Xl (p:=Q9 5) (m:=1) (lo:=2) (hi:=2) rfl rfl];show _↔(decide (ks.length=2)&&exprs ks 2)=true;rw [Q7,Qu,Jk];constructor
 ·rintro ⟨h1,h2,h3⟩;exact ⟨by omega,by omega,λj hj=>by rw [<-(Wp hK (j:=j) (by omega)).1];exact h1 j (by omega)⟩
 ·rintro ⟨h1,h2,h3⟩;exact ⟨λj hj=>by rw [(Wp hK hj).1];exact h3 j (by omega),by omega,by omega⟩
theorem Qmp {ks:List Int} (hK:Yl ks):greedy (Q9 8) ks=Qq 8 ks:=by
 refine Zu ?_;rw [Xl (p:=Q9 8) (m:=1) (lo:=2) (hi:=2) rfl rfl];show _↔(decide (ks.length=2)&&exprs ks 2)=true;rw [Q7,Qu,Jk];constructor
 ·rintro ⟨h1,h2,h3⟩;exact ⟨by omega,by omega,λj hj=>by rw [<-(Wp hK (j:=j) (by omega)).1];exact h1 j (by omega)⟩
 ·rintro ⟨h1,h2,h3⟩;exact ⟨λj hj=>by rw [(Wp hK hj).1];exact h3 j (by omega),by omega,by omega⟩
theorem Qnj {ks:List Int} (hK:Yl ks):greedy (Q9 14) ks=Qq 14 ks:=by
 refine Zu ?_;rw [Xl (p:=Q9 14) (m:=1) (lo:=2) (hi:=2) rfl rfl];show _↔(decide (ks.length=2)&&exprs ks 2)=true;rw [Q7,Qu,Jk];constructor
 ·rintro ⟨h1,h2,h3⟩;exact ⟨by omega,by omega,λj hj=>by rw [<-(Wp hK (j:=j) (by omega)).1];exact h1 j (by omega)⟩
 ·rintro ⟨h1,h2,h3⟩;exact ⟨λj hj=>by rw [(Wp hK hj).1];exact h3 j (by omega),by omega,by omega⟩
theorem Qq0 {ks:List Int} (hK:Yl ks):greedy (Q9 6) ks=Qq 6 ks:=by
 refine Zu ?_;rw [Xl (p:=Q9 6) (m:=1) (lo:=1) (hi:=1) rfl rfl];show _↔(decide (ks.length=1)&&exprs ks 1)=true;rw [Q7,Qu,Jk];constructor
 ·rintro ⟨h1,h2,h3⟩;exact ⟨by omega,by omega,λj hj=>by rw [<-(Wp hK (j:=j) (by omega)).1];exact h1 j (by omega)⟩
 ·rintro ⟨h1,h2,h3⟩;exact ⟨λj hj=>by rw [(Wp hK hj).1];exact h3 j (by omega),by omega,by omega⟩
theorem Qi0 {ks:List Int} (hK:Yl ks):greedy (Q9 7) ks=Qq 7 ks:=by
 refine Zu ?_;rw [Xl (p:=Q9 7) (m:=1) (lo:=1) (hi:=1) rfl rfl];show _↔(decide (ks.length=1)&&exprs ks 1)=true;rw [Q7,Qu,Jk];constructor
 ·rintro ⟨h1,h2,h3⟩;exact ⟨by omega,by omega,λj hj=>by rw [<-(Wp hK (j:=j) (by omega)).1];exact h1 j (by omega)⟩
 ·rintro ⟨h1,h2,h3⟩;exact ⟨λj hj=>by rw [(Wp hK hj).1];exact h3 j (by omega),by omega,by omega⟩
theorem Qla {ks:List Int} (hK:Yl ks):greedy (Q9 9) ks=Qq 9 ks:=by
 refine Zu ?_;rw [Xl (p:=Q9 9) (m:=1) (lo:=1) (hi:=1) rfl rfl];show _↔(decide (ks.length=1)&&exprs ks 1)=true;rw [Q7,Qu,Jk];constructor
 ·rintro ⟨h1,h2,h3⟩;exact ⟨by omega,by omega,λj hj=>by rw [<-(Wp hK (j:=j) (by omega)).1];exact h1 j (by omega)⟩
 ·rintro ⟨h1,h2,h3⟩;exact ⟨λj hj=>by rw [(Wp hK hj).1];exact h3 j (by omega),by omega,by omega⟩
theorem Qka {ks:List Int} (hK:Yl ks):greedy (Q9 10) ks=Qq 10 ks:=by
 refine Zu ?_;rw [Xl (p:=Q9 10) (m:=1) (lo:=1) (hi:=1) rfl rfl];show _↔(decide (ks.length=1)&&exprs ks 1)=true;rw [Q7,Qu,Jk];constructor
 ·rintro ⟨h1,h2,h3⟩;exact ⟨by omega,by omega,λj hj=>by rw [<-(Wp hK (j:=j) (by omega)).1];exact h1 j (by omega)⟩
 ·rintro ⟨h1,h2,h3⟩;exact ⟨λj hj=>by rw [(Wp hK hj).1];exact h3 j (by omega),by omega,by omega⟩
theorem Qqs {ks:List Int} (hK:Yl ks):greedy (Q9 12) ks=Qq 12 ks:=by
 refine Zu ?_;rw [Xl (p:=Q9 12) (m:=1) (lo:=1) (hi:=1) rfl rfl];show _↔(decide (ks.length=1)&&exprs ks 1)=true;rw [Q7,Qu,Jk];constructor
 ·rintro ⟨h1,h2,h3⟩;exact ⟨by omega,by omega,λj hj=>by rw [<-(Wp hK (j:=j) (by omega)).1];exact h1 j (by omega)⟩
 ·rintro ⟨h1,h2,h3⟩;exact ⟨λj hj=>by rw [(Wp hK hj).1];exact h3 j (by omega),by omega,by omega⟩
theorem Qmj {ks:List Int} (hK:Yl ks):greedy (Q9 13) ks=Qq 13 ks:=by
 refine Zu ?_;rw [Xl (p:=Q9 13) (m:=1) (lo:=1) (hi:=1) rfl rfl];show _↔(decide (ks.length=1)&&exprs ks 1)=true;rw [Q7,Qu,Jk];constructor
 ·rintro ⟨h1,h2,h3⟩;exact ⟨by omega,by omega,λj hj=>by rw [<-(Wp hK (j:=j) (by omega)).1];exact h1 j (by omega)⟩
 ·rintro ⟨h1,h2,h3⟩;exact ⟨λj hj=>by rw [(Wp hK hj).1];exact h3 j (by omega),by omega,by omega⟩
theorem Qqp {ks:List Int} (hK:Yl ks):greedy (Q9 20) ks=Qq 20 ks:=by
 refine Zu ?_;rw [Xl (p:=Q9 20) (m:=1) (lo:=1) (hi:=1) rfl rfl];show _↔(decide (ks.length=1)&&exprs ks 1)=true;rw [Q7,Qu,Jk];constructor
 ·rintro ⟨h1,h2,h3⟩;exact ⟨by omega,by omega,λj hj=>by rw [<-(Wp hK (j:=j) (by omega)).1];exact h1 j (by omega)⟩
 ·rintro ⟨h1,h2,h3⟩;exact ⟨λj hj=>by rw [(Wp hK hj).1];exact h3 j (by omega),by omega,by omega⟩
theorem Qjn {ks:List Int} (hK:Yl ks):greedy (Q9 21) ks=Qq 21 ks:=by
 refine Zu ?_;rw [Xl (p:=Q9 21) (m:=1) (lo:=1) (hi:=1) rfl rfl];show _↔(decide (ks.length=1)&&exprs ks 1)=true;rw [Q7,Qu,Jk];constructor
 ·rintro ⟨h1,h2,h3⟩;exact ⟨by omega,by omega,λj hj=>by rw [<-(Wp hK (j:=j) (by omega)).1];exact h1 j (by omega)⟩
 ·rintro ⟨h1,h2,h3⟩;exact ⟨λj hj=>by rw [(Wp hK hj).1];exact h3 j (by omega),by omega,by omega⟩
theorem Qlp {ks:List Int} (hK:Yl ks):greedy (Q9 11) ks=Qq 11 ks:=by
 refine Zu ?_;rw [Xl (p:=Q9 11) (m:=1) (lo:=0) (hi:=8) rfl rfl];show _↔(decide (ks.length<=8)&&exprs ks ks.length)=true;rw [Q7,Qu,Jk];constructor
 ·rintro ⟨h1,h2,h3⟩;exact ⟨by omega,by omega,λj hj=>by rw [<-(Wp hK (j:=j) (by omega)).1];exact h1 j (by omega)⟩
 ·rintro ⟨h1,h2,h3⟩;exact ⟨λj hj=>by rw [(Wp hK hj).1];exact h3 j (by omega),by omega,by omega⟩
theorem Qh5 {ks:List Int} (hK:Yl ks):greedy (Q9 15) ks=Qq 15 ks:=by
 refine Zu ?_;have hd: ∀j,j<ks.length->Wt (Q9 15 1).is (ks.getD j 0)=true->Wt (Q9 15 0).is (ks.getD j 0)=false:=by intro j hj h;have h4:Wt 4 (ks.getD j 0)=true:=h;rw [(Wp hK hj).2.2.1,Qu]at h4;show Wt 1 (ks.getD j 0)=false;rw [(Wp hK hj).1,h4];rfl
 rw [Ia hd];show (∃n,n<=ks.length/\(∀j,j<n->Wt 1 (ks.getD j 0)=true)/\(∀j,n<=j->j<ks.length->Wt 4 (ks.getD j 0)=true)/\((1:Int)<=(n:Int)/\(n:Int)<=1)/\((1:Int)<=((ks.length-n:Nat):Int)/\((ks.length-n:Nat):Int)<=2))↔(exprs ks 1&&decide (2<=ks.length)&&Yp (ks.drop 1) 23 2)=true;rw [Q7,Q7,Qu,Jk,I8,Xt];constructor
 ·rintro ⟨n,hn,hP,hQ,h1,h2⟩;obtain rfl:n=1:=by omega
  refine ⟨⟨⟨hn,λj hj=>by rw [<-(Wp hK (j:=j) (by omega)).1];exact hP j hj⟩,by omega⟩,λj hj=> ?_,by omega⟩;have:=hQ (1+j) (by omega) (by omega);rw [(Wp hK (by omega)).2.2.1,Qu]at this;rw [Ao];exact this
 ·rintro ⟨⟨⟨h1,h2⟩,h3⟩,h4,h5⟩;refine ⟨1,h1,λj hj=>by rw [(Wp hK (by omega)).1];exact h2 j hj,λj hj hl=> ?_,by omega,by omega⟩;have:=h4 (j-1) (by omega);rw [Ao,show 1+(j-1)=j by omega]at this;rw [(Wp hK hl).2.2.1,Qu];exact this
theorem Qpx {ks:List Int} (hK:Yl ks):greedy (Q9 16) ks=Qq 16 ks:=by
 refine Zu ?_;have hd: ∀j,j<ks.length->Wt (Q9 16 1).is (ks.getD j 0)=true->Wt (Q9 16 0).is (ks.getD j 0)=false:=by intro j hj h;have h4:Wt 4 (ks.getD j 0)=true:=h;rw [(Wp hK hj).2.2.1,Qu]at h4;show Wt 1 (ks.getD j 0)=false;rw [(Wp hK hj).1,h4];rfl
 rw [Ia hd];show (∃n,n<=ks.length/\(∀j,j<n->Wt 1 (ks.getD j 0)=true)/\(∀j,n<=j->j<ks.length->Wt 4 (ks.getD j 0)=true)/\((1:Int)<=(n:Int)/\(n:Int)<=1)/\((1:Int)<=((ks.length-n:Nat):Int)/\((ks.length-n:Nat):Int)<=1))↔(exprs ks 1&&decide (ks.length=2)&&Yp (ks.drop 1) 23 1)=true;rw [Q7,Q7,Qu,Jk,I8,Xt];constructor
 ·rintro ⟨n,hn,hP,hQ,h1,h2⟩;obtain rfl:n=1:=by omega
  refine ⟨⟨⟨hn,λj hj=>by rw [<-(Wp hK (j:=j) (by omega)).1];exact hP j hj⟩,by omega⟩,λj hj=> ?_,by omega⟩;have:=hQ (1+j) (by omega) (by omega);rw [(Wp hK (by omega)).2.2.1,Qu]at this;rw [Ao];exact this
 ·rintro ⟨⟨⟨h1,h2⟩,h3⟩,h4,h5⟩;refine ⟨1,h1,λj hj=>by rw [(Wp hK (by omega)).1];exact h2 j hj,λj hj hl=> ?_,by omega,by omega⟩;have:=h4 (j-1) (by omega);rw [Ao,show 1+(j-1)=j by omega]at this;rw [(Wp hK hl).2.2.1,Qu];exact this
theorem Qr8 {ks:List Int} (hK:Yl ks):greedy (Q9 17) ks=Qq 17 ks:=by
 refine Zu ?_;have hd: ∀j,j<ks.length->Wt (Q9 17 1).is (ks.getD j 0)=true->Wt (Q9 17 0).is (ks.getD j 0)=false:=by intro j hj h;have h4:Wt 4 (ks.getD j 0)=true:=h;rw [(Wp hK hj).2.2.1,Qu]at h4;show Wt 1 (ks.getD j 0)=false;rw [(Wp hK hj).1,h4];rfl
 rw [Ia hd];show (∃n,n<=ks.length/\(∀j,j<n->Wt 1 (ks.getD j 0)=true)/\(∀j,n<=j->j<ks.length->Wt 4 (ks.getD j 0)=true)/\((2:Int)<=(n:Int)/\(n:Int)<=2)/\((1:Int)<=((ks.length-n:Nat):Int)/\((ks.length-n:Nat):Int)<=1))↔(exprs ks 2&&decide (ks.length=3)&&Yp (ks.drop 2) 23 1)=true;rw [Q7,Q7,Qu,Jk,I8,Xt];constructor
 ·rintro ⟨n,hn,hP,hQ,h1,h2⟩;obtain rfl:n=2:=by omega
  refine ⟨⟨⟨hn,λj hj=>by rw [<-(Wp hK (j:=j) (by omega)).1];exact hP j hj⟩,by omega⟩,λj hj=> ?_,by omega⟩;have:=hQ (2+j) (by omega) (by omega);rw [(Wp hK (by omega)).2.2.1,Qu]at this;rw [Ao];exact this
 ·rintro ⟨⟨⟨h1,h2⟩,h3⟩,h4,h5⟩;refine ⟨2,h1,λj hj=>by rw [(Wp hK (by omega)).1];exact h2 j hj,λj hj hl=> ?_,by omega,by omega⟩;have:=h4 (j-2) (by omega);rw [Ao,show 2+(j-2)=j by omega]at this;rw [(Wp hK hl).2.2.1,Qu];exact this
theorem Qmi {ks:List Int} (hK:Yl ks):greedy (Q9 22) ks=Qq 22 ks:=by
 refine Zu ?_;rw [Xl (p:=Q9 22) (m:=8) (lo:=1) (hi:=1) rfl rfl];show _↔(decide (ks.length=1)&&decide (ks.getD 0 0=11))=true;rw [Q7,Qu,Qu];constructor
 ·rintro ⟨h1,h2,h3⟩;refine ⟨by omega,?_⟩;have:=h1 0 (by omega);rw [(Wp hK (by omega)).2.2.2.1,Qu]at this;exact this
 ·rintro ⟨h1,h2⟩;refine ⟨λj hj=> ?_,by omega,by omega⟩;obtain rfl:j=0:=by omega
  rw [(Wp hK hj).2.2.2.1,Qu];exact h2
theorem Qsf {ks:List Int} (hK:Yl ks) (hl:ks.length<=9223372036854775807):greedy (Q9 23) ks=Qq 23 ks:=by
 refine Zu ?_;rw [Xl (p:=Q9 23) (m:=2) (lo:=0) (hi:=9223372036854775807) rfl rfl];show _↔ks.all Y9=true;rw [Qry];constructor
 ·rintro ⟨h1,_⟩ j hj;rw [<-(Wp hK hj).2.1];exact h1 j hj
 ·intro h;exact ⟨λj hj=>by rw [(Wp hK hj).2.1];exact h j hj,by omega,by omega⟩
theorem Qqy {ks:List Int} (hK:Yl ks):greedy (Q9 25) ks=Qq 25 ks:=by
 refine Zu ?_;have hd: ∀j,j<ks.length->Wt (Q9 25 1).is (ks.getD j 0)=true->Wt (Q9 25 0).is (ks.getD j 0)=false:=by intro j hj h;have h4:Wt 4 (ks.getD j 0)=true:=h;rw [(Wp hK hj).2.2.1,Qu]at h4;show Wt 16 (ks.getD j 0)=false;rw [(Wp hK hj).2.2.2.2.1,h4];rfl
 rw [Ia hd];show (∃n,n<=ks.length/\(∀j,j<n->Wt 16 (ks.getD j 0)=true)/\(∀j,n<=j->j<ks.length->Wt 4 (ks.getD j 0)=true)/\((0:Int)<=(n:Int)/\(n:Int)<=8)/\((1:Int)<=((ks.length-n:Nat):Int)/\((ks.length-n:Nat):Int)<=1))↔(decide (1<=ks.length)&&Yp (ks.take (ks.length-1)) 24 8&&decide (ks.getD (ks.length-1) 0=23))=true;rw [Q7,Q7,Qu,Qu,I8,Vr];constructor
 ·rintro ⟨n,hn,hP,hQ,h1,h2⟩;have e:ks.length-1=n:=by omega
  rw [e];refine ⟨⟨by omega,λj hj=> ?_,by omega⟩,?_⟩
  ·have:=hP j (by omega);rw [(Wp hK (by omega)).2.2.2.2.1,Qu]at this;rw [Nl ks n j (by omega)];exact this
  ·have:=hQ n (Yc _) (by omega);rw [(Wp hK (by omega)).2.2.1,Qu]at this;exact this
 ·rintro ⟨⟨h1,h2,h3⟩,h4⟩;refine ⟨ks.length-1,by omega,λj hj=> ?_,λj hj hl=> ?_,by omega,by omega⟩
  ·have:=h2 j (by omega);rw [Nl ks _ j (by omega)]at this;rw [(Wp hK (by omega)).2.2.2.2.1,Qu];exact this
  ·obtain rfl:j=ks.length-1:=(by omega);rw [(Wp hK hl).2.2.1,Qu];exact h4
theorem Qmb {ks:List Int} (hK:Yl ks):greedy (Q9 26) ks=Qq 26 ks:=by
 refine Zu ?_;rw [Xl (p:=Q9 26) (m:=32) (lo:=0) (hi:=200) rfl rfl];show _↔Yp ks 25 200=true;rw [I8];constructor
 ·rintro ⟨h1,h2,h3⟩;refine ⟨λj hj=> ?_,by omega⟩;have:=h1 j hj;rw [(Wp hK hj).2.2.2.2.2,Qu]at this;exact this
 ·rintro ⟨h1,h2⟩;exact ⟨λj hj=>by rw [(Wp hK hj).2.2.2.2.2,Qu];exact h1 j hj,by omega,by omega⟩
theorem Qp0 {ks:List Int} (hK:Yl ks):greedy (Q9 1) ks=Qq 1 ks:=by
 refine Zu ?_;rw [Xl (p:=Q9 1) (m:=0) (lo:=0) (hi:=0) rfl rfl];show _↔decide (ks.length=0)=true;rw [Qu];constructor
 ·rintro ⟨h1,h2,h3⟩;omega
 ·intro h;exact ⟨λj hj=>by omega,by omega,by omega⟩
theorem Qr9 {ks:List Int} (hK:Yl ks):greedy (Q9 2) ks=Qq 2 ks:=by
 refine Zu ?_;rw [Xl (p:=Q9 2) (m:=0) (lo:=0) (hi:=0) rfl rfl];show _↔decide (ks.length=0)=true;rw [Qu];constructor
 ·rintro ⟨h1,h2,h3⟩;omega
 ·intro h;exact ⟨λj hj=>by omega,by omega,by omega⟩
theorem Qku {ks:List Int} (hK:Yl ks):greedy (Q9 3) ks=Qq 3 ks:=by
 refine Zu ?_;rw [Xl (p:=Q9 3) (m:=0) (lo:=0) (hi:=0) rfl rfl];show _↔decide (ks.length=0)=true;rw [Qu];constructor
 ·rintro ⟨h1,h2,h3⟩;omega
 ·intro h;exact ⟨λj hj=>by omega,by omega,by omega⟩
theorem Ql1 {ks:List Int} (hK:Yl ks):greedy (Q9 4) ks=Qq 4 ks:=by
 refine Zu ?_;rw [Xl (p:=Q9 4) (m:=0) (lo:=0) (hi:=0) rfl rfl];show _↔decide (ks.length=0)=true;rw [Qu];constructor
 ·rintro ⟨h1,h2,h3⟩;omega
 ·intro h;exact ⟨λj hj=>by omega,by omega,by omega⟩
theorem Qk3 {ks:List Int} (hK:Yl ks):greedy (Q9 18) ks=Qq 18 ks:=by
 refine Zu ?_;rw [Xl (p:=Q9 18) (m:=0) (lo:=0) (hi:=0) rfl rfl];show _↔decide (ks.length=0)=true;rw [Qu];constructor
 ·rintro ⟨h1,h2,h3⟩;omega
 ·intro h;exact ⟨λj hj=>by omega,by omega,by omega⟩
theorem Qq9 {ks:List Int} (hK:Yl ks):greedy (Q9 19) ks=Qq 19 ks:=by
 refine Zu ?_;rw [Xl (p:=Q9 19) (m:=0) (lo:=0) (hi:=0) rfl rfl];show _↔decide (ks.length=0)=true;rw [Qu];constructor
 ·rintro ⟨h1,h2,h3⟩;omega
 ·intro h;exact ⟨λj hj=>by omega,by omega,by omega⟩
theorem Qkb {ks:List Int} (hK:Yl ks):greedy (Q9 24) ks=Qq 24 ks:=by
 refine Zu ?_;rw [Xl (p:=Q9 24) (m:=0) (lo:=0) (hi:=0) rfl rfl];show _↔decide (ks.length=0)=true;rw [Qu];constructor
 ·rintro ⟨h1,h2,h3⟩;omega
 ·intro h;exact ⟨λj hj=>by omega,by omega,by omega⟩
theorem Qli: ∀(k:Nat) {ks:List Int},1<=k->k<=26->Yl ks->ks.length<=9223372036854775807->greedy (Q9 k) ks=Qq (k:Int) ks
 | 0,ks,h1,_,_,_=>by omega
 | 1,ks,_,_,hK,hl=>Qp0 hK
 | 2,ks,_,_,hK,hl=>Qr9 hK
 | 3,ks,_,_,hK,hl=>Qku hK
 | 4,ks,_,_,hK,hl=>Ql1 hK
 | 5,ks,_,_,hK,hl=>Qk1 hK
 | 6,ks,_,_,hK,hl=>Qq0 hK
 | 7,ks,_,_,hK,hl=>Qi0 hK
 | 8,ks,_,_,hK,hl=>Qmp hK
 | 9,ks,_,_,hK,hl=>Qla hK
 | 10,ks,_,_,hK,hl=>Qka hK
 | 11,ks,_,_,hK,hl=>Qlp hK
 | 12,ks,_,_,hK,hl=>Qqs hK
 | 13,ks,_,_,hK,hl=>Qmj hK
 | 14,ks,_,_,hK,hl=>Qnj hK
 | 15,ks,_,_,hK,hl=>Qh5 hK
 | 16,ks,_,_,hK,hl=>Qpx hK
 | 17,ks,_,_,hK,hl=>Qr8 hK
 | 18,ks,_,_,hK,hl=>Qk3 hK
 | 19,ks,_,_,hK,hl=>Qq9 hK
 | 20,ks,_,_,hK,hl=>Qqp hK
 | 21,ks,_,_,hK,hl=>Qjn hK
 | 22,ks,_,_,hK,hl=>Qmi hK
 | 23,ks,_,_,hK,hl=>Qsf hK hl
 | 24,ks,_,_,hK,hl=>Qkb hK
 | 25,ks,_,_,hK,hl=>Qqy hK
 | 26,ks,_,_,hK,hl=>Qmb hK
 |n+27,ks,_,h,_,_=>by omega
theorem Ql9: ∀(k:Nat) (n:Int),1<=k->k<=26->n<=9223372036854775807->Z6 (lim (numOf k)).1 (lim (numOf k)).2 n=Ko (k:Int) n
 | 0,n,h1,_,_=>by omega
 | 1,n,_,_,h=>by show (decide ((0:Int)<=n)&&decide (n<=(9223372036854775807:Int)))=decide (0<=n);first |rfl |(rw [Bool.eq_iff_iff];simp;done) |(rw [Bool.eq_iff_iff];simp;omega)
 | 2,n,_,_,h=>by show (decide ((0:Int)<=n)&&decide (n<=(1:Int)))=(decide (n=0)||decide (n=1));first |rfl |(rw [Bool.eq_iff_iff];simp;done) |(rw [Bool.eq_iff_iff];simp;omega)
 | 3,n,_,_,h=>by show (decide ((0:Int)<=n)&&decide (n<=(0:Int)))=decide (n=0);first |rfl |(rw [Bool.eq_iff_iff];simp;done) |(rw [Bool.eq_iff_iff];simp;omega)
 | 4,n,_,_,h=>by show (decide ((0:Int)<=n)&&decide (n<=(0:Int)))=decide (n=0);first |rfl |(rw [Bool.eq_iff_iff];simp;done) |(rw [Bool.eq_iff_iff];simp;omega)
 | 5,n,_,_,h=>by show (decide ((1:Int)<=n)&&decide (n<=(16:Int)))=(decide (1<=n)&&decide (n<=16));first |rfl |(rw [Bool.eq_iff_iff];simp;done) |(rw [Bool.eq_iff_iff];simp;omega)
 | 6,n,_,_,h=>by show (decide ((0:Int)<=n)&&decide (n<=(0:Int)))=decide (n=0);first |rfl |(rw [Bool.eq_iff_iff];simp;done) |(rw [Bool.eq_iff_iff];simp;omega)
 | 7,n,_,_,h=>by show (decide ((0:Int)<=n)&&decide (n<=(0:Int)))=decide (n=0);first |rfl |(rw [Bool.eq_iff_iff];simp;done) |(rw [Bool.eq_iff_iff];simp;omega)
 | 8,n,_,_,h=>by show (decide ((0:Int)<=n)&&decide (n<=(0:Int)))=decide (n=0);first |rfl |(rw [Bool.eq_iff_iff];simp;done) |(rw [Bool.eq_iff_iff];simp;omega)
 | 9,n,_,_,h=>by show (decide ((0:Int)<=n)&&decide (n<=(0:Int)))=decide (n=0);first |rfl |(rw [Bool.eq_iff_iff];simp;done) |(rw [Bool.eq_iff_iff];simp;omega)
 | 10,n,_,_,h=>by show (decide ((0:Int)<=n)&&decide (n<=(0:Int)))=decide (n=0);first |rfl |(rw [Bool.eq_iff_iff];simp;done) |(rw [Bool.eq_iff_iff];simp;omega)
 | 11,n,_,_,h=>by show (decide ((0:Int)<=n)&&decide (n<=(0:Int)))=decide (n=0);first |rfl |(rw [Bool.eq_iff_iff];simp;done) |(rw [Bool.eq_iff_iff];simp;omega)
 | 12,n,_,_,h=>by show (decide ((0:Int)<=n)&&decide (n<=(0:Int)))=decide (n=0);first |rfl |(rw [Bool.eq_iff_iff];simp;done) |(rw [Bool.eq_iff_iff];simp;omega)
 | 13,n,_,_,h=>by show (decide ((0:Int)<=n)&&decide (n<=(0:Int)))=decide (n=0);first |rfl |(rw [Bool.eq_iff_iff];simp;done) |(rw [Bool.eq_iff_iff];simp;omega)
 | 14,n,_,_,h=>by show (decide ((0:Int)<=n)&&decide (n<=(0:Int)))=decide (n=0);first |rfl |(rw [Bool.eq_iff_iff];simp;done) |(rw [Bool.eq_iff_iff];simp;omega)
 | 15,n,_,_,h=>by show (decide ((0:Int)<=n)&&decide (n<=(0:Int)))=decide (n=0);first |rfl |(rw [Bool.eq_iff_iff];simp;done) |(rw [Bool.eq_iff_iff];simp;omega)
 | 16,n,_,_,h=>by show (decide ((0:Int)<=n)&&decide (n<=(0:Int)))=decide (n=0);first |rfl |(rw [Bool.eq_iff_iff];simp;done) |(rw [Bool.eq_iff_iff];simp;omega)
 | 17,n,_,_,h=>by show (decide ((0:Int)<=n)&&decide (n<=(0:Int)))=decide (n=0);first |rfl |(rw [Bool.eq_iff_iff];simp;done) |(rw [Bool.eq_iff_iff];simp;omega)
 | 18,n,_,_,h=>by show (decide ((0:Int)<=n)&&decide (n<=(0:Int)))=decide (n=0);first |rfl |(rw [Bool.eq_iff_iff];simp;done) |(rw [Bool.eq_iff_iff];simp;omega)
 | 19,n,_,_,h=>by show (decide ((0:Int)<=n)&&decide (n<=(0:Int)))=decide (n=0);first |rfl |(rw [Bool.eq_iff_iff];simp;done) |(rw [Bool.eq_iff_iff];simp;omega)
 | 20,n,_,_,h=>by show (decide ((0:Int)<=n)&&decide (n<=(0:Int)))=decide (n=0);first |rfl |(rw [Bool.eq_iff_iff];simp;done) |(rw [Bool.eq_iff_iff];simp;omega)
 | 21,n,_,_,h=>by show (decide ((0:Int)<=n)&&decide (n<=(0:Int)))=decide (n=0);first |rfl |(rw [Bool.eq_iff_iff];simp;done) |(rw [Bool.eq_iff_iff];simp;omega)
 | 22,n,_,_,h=>by show (decide ((0:Int)<=n)&&decide (n<=(0:Int)))=decide (n=0);first |rfl |(rw [Bool.eq_iff_iff];simp;done) |(rw [Bool.eq_iff_iff];simp;omega)
 | 23,n,_,_,h=>by show (decide ((0:Int)<=n)&&decide (n<=(0:Int)))=decide (n=0);first |rfl |(rw [Bool.eq_iff_iff];simp;done) |(rw [Bool.eq_iff_iff];simp;omega)
 | 24,n,_,_,h=>by show (decide ((1:Int)<=n)&&decide (n<=(3:Int)))=(decide (1<=n)&&decide (n<=3));first |rfl |(rw [Bool.eq_iff_iff];simp;done) |(rw [Bool.eq_iff_iff];simp;omega)
 | 25,n,_,_,h=>by show (decide ((1:Int)<=n)&&decide (n<=(3:Int)))=(decide (1<=n)&&decide (n<=3));first |rfl |(rw [Bool.eq_iff_iff];simp;done) |(rw [Bool.eq_iff_iff];simp;omega)
 | 26,n,_,_,h=>by show (decide ((0:Int)<=n)&&decide (n<=(0:Int)))=decide (n=0);first |rfl |(rw [Bool.eq_iff_iff];simp;done) |(rw [Bool.eq_iff_iff];simp;omega)
 |n+27,_,_,h,_=>by omega
theorem Qly {l:List Nd} {x:Nd} (hK:Yl (kd l x.kids)) (hn:x.n<=9223372036854775807) (hl:x.kids.length<=9223372036854775807):I7 l x=Xc l x:=by
 unfold I7 Xc;by_cases h:x.kind<1\/26<x.kind\/x.at_<0
 ·rw [Wy h,Qei (by omega)];rfl
 ·rw [Q6 h];obtain ⟨k,hk⟩: ∃k:Nat,x.kind=(k:Int):=⟨x.kind.toNat,by omega⟩;have h1:1<=k:=by omega
  have h2:k<=26:=by omega
  unfold ownB;rw [decide_eq_true (show 1<=x.kind by omega),decide_eq_true (show x.kind<=26 by omega),decide_eq_true (show 0<=x.at_ by omega),hk,Jo,Ql9 k x.n h1 h2 hn,Qli k h1 h2 hK (by rw [Y7];exact hl),Qj3 k (by omega)];show _=(true&&true&&true&&(if Ew k=true then Y2 x.t else decide (x.t=[]))&&Ko (k:Int) x.n&&Qq (k:Int) (kd l x.kids));cases (if Ew k=true then Y2 x.t else decide (x.t=[]))<;>simp
theorem Qia (a:Option Addr) (c:Nat) (l:List Nd) (x:Nd) (w:World) (hT:Xp w) (hN:Nodes w a l) (hx:Ok w x) (hI:Yt l x.kids) (hKn:Yl (kd l x.kids)) (hll:l.length<=9223372036854775807):
  Calls prog 50 #[.slice a l.length c,x.v] w λe w'=>e= .returned (.bool (Xc l x))/\Below w.heap.size w w':=by
 have h:=Qmh a c l x w hT hN hx hI hKn hll;have hl:=hx.len;rw [Qly hKn hx.n1 (by omega)]at h;exact h
def Bools (w:World) (g n:Nat) (f:Nat->Bool):Prop:= ∃cs:Array Value,w.heap[g]? =some (.cells cs 4 (0,0))/\n<=cs.size/\ ∀j,j<n->cs[j]? =some (.bool (f j))
theorem Bools.cell {w:World} {g n:Nat} {f:Nat->Bool} (h:Bools w g n f) {j:Nat} (hj:j<n):w.cell? ⟨g,j,none⟩=some (.bool (f j)):=by obtain ⟨cs,hb,_,hc⟩:=h;simp [World.cell?,hb,hc j hj]
theorem Bools.frozen {w:World} {g n:Nat} {f:Nat->Bool} (h:Bools w g n f) (j:Nat):w.frozen? ⟨g,j,none⟩=false:=by obtain ⟨cs,hb,_,_⟩:=h;simp [World.frozen?,hb]
theorem Bools.lt {w:World} {g n:Nat} {f:Nat->Bool} (h:Bools w g n f):g<w.heap.size:=by obtain ⟨cs,hb,_,_⟩:=h;exact (Array.getElem?_eq_some_iff.1 hb).1
theorem Bools.below {w w':World} {g n:Nat} {f:Nat->Bool} (h:Bools w g n f) (hb:Below w.heap.size w w'):Bools w' g n f:=by have hlt:=h.lt;obtain ⟨cs,h1,h2,h3⟩:=h;exact ⟨cs,(hb.block g hlt).trans h1,h2,h3⟩
theorem Bools.congr {w:World} {g n:Nat} {f f':Nat->Bool} (h:Bools w g n f) (e: ∀j,j<n->f j=f' j):Bools w g n f':=by obtain ⟨cs,hb,hn,hc⟩:=h;exact ⟨cs,hb,hn,λj hj=>by rw [hc j hj,e j hj]⟩
theorem Bools.set {w:World} {g n:Nat} {f:Nat->Bool} (h:Bools w g n f) (i:Nat) (x:Bool):Bools (w.setCell ⟨g,i,none⟩ (.bool x)) g n (λj=>if j=i then x else f j):=by
 obtain ⟨cs,hb,hn,hc⟩:=h;refine ⟨cs.setIfInBounds i (.bool x),?_,by simpa using hn,λj hj=> ?_⟩
 ·simp [World.setCell,Array.getElem?_modify,hb]
 ·rw [Array.getElem?_setIfInBounds];by_cases e:j=i
  ·subst e;simp [show j<cs.size by omega]
  ·rw [Q6 (λh=>e h.symm)];show cs[j]? =some (.bool (if j=i then x else f j));rw [Q6 e];exact hc j hj
theorem Bools.made (w:World) (n:Nat):Bools (w.alloc (.cells (madeCells #[.bool false] n) 4)) w.heap.size n (λ_=>false):=by obtain ⟨c,hb,hn,hc⟩:=World.rowIs_made w (.bool false) n 4;exact ⟨c,hb,by omega,hc⟩
def mark (xs:List Int):Nat->Bool:=λj=>decide ((j:Int)∈xs)
theorem Qnp (xs:List Int) (q:Nat) (j:Nat):(if j=q then true else mark xs j)=mark (xs++[(q:Int)]) j:=by
 unfold mark;by_cases h:j=q
 ·subst h;simp
 ·rw [Q6 h,Bool.eq_iff_iff];simp only [Qu,List.mem_append,Sm];constructor
  ·exact .inl
  ·rintro (h1 |h1)
   ·exact h1
   ·omega
theorem Qjk:(prog.info? 4).map (λi=>(i.zero,i.size,i.bytes))=some (some (.bool false),1,1):=by kernel_rfl
theorem Qrk (a:Option Addr) (c:Nat) (l:List Nd) (w:World) (hN:Nodes w a l) (hll:l.length<=1000000000):
  Calls prog 49 #[.slice a l.length c] w (Zi (Y5 l) w):=by
 have HN:=Qa hN;clear hN;obtain ⟨n,hn⟩:=Qb l.length;rw [<-hn]at hll ⊢;have Q0:=Qa hn;clear hn;have HB0:Hid (Below w.heap.size w (w.alloc (.cells (madeCells #[.bool false] n) 4))):=Qn;have Gp:=Qa (Bools.made w n);have hmk:=run_make_row' (P:=prog) 85 4 (.bool false) 1 underlying85 Qjk rfl .i64 .i64 n (by omega) (by omega);go_enter func49,ntmps49;go_wp2_with fail;obtain ⟨w1,hw1⟩:=Qb (w.alloc (.cells (madeCells #[.bool false] n) 4));rw [<-hw1]at HB0 Gp ⊢;have X7:Hid (w.heap.size<=w.heap.size):=Yc _;obtain ⟨g,hg⟩:=Qb w.heap.size;rw [<-hg]at Gp ⊢;have Pm:=Qa hg;clear hw1 hg hmk;go_loopw [4,14] (λt4 Ti wr=> ∃i q:Nat,i<=n/\Ti= .int .i64 (i:Int)/\t4= .int .i64 (q:Int)/\q<=n/\Hid (q=(seen l i 0).length)/\Hid (Bools wr g n (mark (seen l i 0)))/\Hid (Zj l i 0)/\Hid (Below w.heap.size w wr)) (λ_ Ti _=>n-(intOf Ti).toNat)
 case atStart=>
  refine ⟨0,0,by omega,rfl,rfl,by omega,(by show _=_;simp [seen,Zt]),?_,Zj.start l,HB0⟩;exact Gp.out.congr (λj _=>by simp [mark,seen,Zt])
 case round=>
  obtain ⟨i,q,hi,rfl,rfl,hq,HQ,HM,HS,HB⟩:=hrel;by_cases hin:i<n
  ·have Ud:(i:Int)<(n:Int):=(by omega);have hil:Hid (i<l.length):=(by show i<l.length;rw [<-Q0.out];exact hin);obtain ⟨lb,lo,rfl,hlb,h5⟩:=(HN.out.below HB.out).at_ hil.out;have hok:=HN.out.2 i hil.out;obtain ⟨x,hx⟩:=Qb (nd l i);rw [<-hx]at h5 hok;have HX:=Qa hx;clear hx;obtain ⟨c0,c1,c2,c3,c4⟩:=h5;obtain ⟨K,ka,kc,ks,nn,s,at_⟩:=x;have hkr:=hok.rows;have hkl:=hok.len;simp only at hkr hkl c0 c1 c2 c3 c4;obtain ⟨m,hm⟩:=Qb ks.length;rw [<-hm]at hkr hkl c1;have Db:=Qa hm;have G5:=Qa hkr;clear hm hkr hok;go_wp2_with fail;obtain ⟨w2,hw2⟩:=Qb (wr.alloc (.cells #[.int .i64 K,.slice ka m kc,.int .i64 nn,.string s,.int .i64 at_] 25));have HB2:Hid (Below wr.heap.size wr w2):=(by rw [hw2];exact Qn);have Xu:Hid (Below w.heap.size w w2):=HB.out.trans (HB2.out.mono HB.out.size);have HMA:=Qa (HM.out.below HB2.out);rw [<-hw2];clear hw2 c0 c1 c2 c3 c4;obtain ⟨wo,rfl⟩:=Qb wr;have Ab:Hid ((nd l i).kids=ks):=(by show _=_;rw [<-HX.out]);go_loopw [4,22] (λt4 t22 wr=> ∃k q:Nat,k<=m/\t22= .int .i64 (k:Int)/\t4= .int .i64 (q:Int)/\q<=n/\Hid (q=(seen l i k).length)/\Hid (Bools wr g n (mark (seen l i k)))/\Hid (Zj l i k)/\Hid (Below w.heap.size w wr)) (λ_ t22 _=>m-(intOf t22).toNat)
   case atStart=>exact ⟨0,q,by omega,rfl,rfl,hq,HQ,HMA,HS,Xu⟩
   case round=>
    obtain ⟨k,q,hk,rfl,rfl,hq,HQ,HM,HS,HB⟩:=hrel;by_cases hkm:k<m
    ·have hkmi:(k:Int)<(m:Int):=(by omega);have hkl':Hid (k<(nd l i).kids.length):=(by show k<_;rw [Ab.out,<-Db.out];exact hkm);obtain ⟨kb,ko,rfl,hkb,hkc⟩:=(G5.out.below HB.out) (by omega);have hc:=hkc k hkm;clear hkc;simp only at hc;obtain ⟨z,hz⟩:=Qb (ks.getD k 0);rw [<-hz]at hc;have HZ:Hid ((nd l i).kids.getD k 0=z):=(by show _=_;rw [Ab.out,hz]);clear hz;by_cases hz0:z<0
     ·go_wp2_with fail;go_ret;exact Zi.no rfl (Ng hil.out hkl'.out (by rw [HZ.out];omega)) HB.out
     ·have hz0':decide (z<0)=false:=(by simpa using hz0);by_cases hzi:(i:Int)<=z
      ·go_wp2_with fail;go_ret;exact Zi.no rfl (Ng hil.out hkl'.out (by rw [HZ.out];omega)) HB.out
      ·have Qqd:decide ((i:Int)<=z)=false:=(by simpa using hzi);obtain ⟨u,rfl⟩: ∃u:Nat,z=u:=⟨z.toNat,by omega⟩;have hui:u<i:=(by omega);have hun:(u:Int)<(n:Int):=(by omega);have hbc:=HM.out.cell (j:=u) (by omega);have hfz:=HM.out.frozen u;by_cases hmk:(u:Int)∈seen l i k
       ·have e:mark (seen l i k) u=true:=(by unfold mark;exact decide_eq_true hmk);rw [e]at hbc;have Fh:=Qa hmk;clear hmk e;go_wp2_with fail;go_ret;exact Zi.no rfl (Qe1 hil.out hkl'.out (by rw [HZ.out];exact Fh.out)) HB.out
       ·have e:mark (seen l i k) u=false:=(by unfold mark;exact decide_eq_false hmk);rw [e]at hbc;have Fh:=Qa hmk;clear hmk e;have HS2:Hid (Zj l i (k+1)):=HS.out.next hkl'.out (by rw [HZ.out];omega) (by rw [HZ.out];omega) (by rw [HZ.out];exact Fh.out);have HE2:Hid (seen l i (k+1)=seen l i k++[(u:Int)]):=(by show _=_;rw [Nf hkl'.out,HZ.out]);have hq2:q+1<=n:=by have h1:=HS2.out.len (Nat.le_of_lt hil.out);rw [HE2.out,Qd,<-HQ.out]at h1;simp at h1;omega
        go_wp2_with fail;go_roundw
        case rel=>
         refine ⟨k+1,q+1,by omega,by go_num,by go_num,hq2,?_,?_,HS2,?_⟩
         ·show _=_;rw [HE2.out,Qd,<-HQ.out];rfl
         ·show Bools _ _ _ _;rw [HE2.out];exact (HM.out.set u true).congr (λj _=>Qnp _ u j)
         ·exact HB.out.setCell (p:=⟨g,u,none⟩) (by show _<=g;rw [Pm.out];exact Yc _) _
        case measure=>simp [intOf];omega
    ·obtain rfl:k=m:=(by omega);go_wp2_with fail;go_roundw
     case rel=>
      have e1:Hid (seen l i k=seen l (i+1) 0):=by show _=_;rw [Db.out,<-Ab.out];exact S9 hil.out
      refine ⟨i+1,q,by omega,by go_num,rfl,hq,?_,?_,?_,HB⟩
      ·show _=_;rw [<-e1.out];exact HQ.out
      ·show Bools _ _ _ _;rw [<-e1.out];exact HM.out
      ·refine Zj.turn ?_ hil.out;rw [Ab.out,<-Db.out];exact HS.out
     case measure=>simp [intOf];omega
  ·obtain rfl:i=n:=(by omega);have Dm:Hid (Y5 l↔0<i/\q=i-1):=by have h1:=HS.out;rw [Q0.out]at h1;have h2:=Qen h1;rw [<-Q0.out,<-HQ.out]at h2;exact h2
   rcases Nat.eq_zero_or_pos i with h0 |h0
   ·subst h0;go_wp2_with fail;go_ret;exact Zi.no rfl (λh=>by have:=Dm.out.1 h;omega) HB.out
   ·by_cases hqq:q=i-1
    ·have Rq:((q:Int)==(i:Int)-1)=true:=(by simp;omega);have U3:=Qa hqq;clear hqq;go_wp2_with fail;go_ret;exact Zi.yes rfl (Dm.out.2 ⟨h0,U3.out⟩) HB.out
    ·have Rq:((q:Int)==(i:Int)-1)=false:=(by simp;omega);have U3:=Qa hqq;clear hqq;go_wp2_with fail;go_ret;exact Zi.no rfl (λh=>U3.out (Dm.out.1 h).2) HB.out
def Qd5 (l:List Nd) (P:Prop) (w:World) (e:Ending) (w':World):Prop:=
 Below w.heap.size w w'/\((P/\ ∃g,e= .returned (.slice (some ⟨g,0,none⟩) l.length l.length)/\Wo .i64 w' (some ⟨g,0,none⟩) l.length (λj=>(hgt l j:Int)))\/(¬P/\e= .returned (.slice none 0 0)))
theorem Qjb (w0:World) (a:Option Addr) (l:List Nd) (n c g hb lb rb:Nat) (hA:Ahead l) (hn:n=l.length) (hll:n<=1000000000) (at_:Nat) (hat:at_<l.length) (lv:Nat) (H:Nat->Int) (w:World) (z y:Int) (h1:1<=lv) (h2:lv<=201) (hE:Env w0 w a l n c g hb lb rb) (hM:Mine .i64 3 w g n H) (hz:z=(at_:Int)) (hy:y=(lv:Int)):
  Calls prog 66 #[.int .i64 z,.int .i64 y,.pointer (some ⟨hb,0,none⟩),.pointer (some ⟨lb,0,none⟩),.pointer (some ⟨rb,0,none⟩)] w (Reached l g n at_ lv H w):=by
 subst hz hy;exact Qlw w0 a l n c g hb lb rb hA hn hll (at_+1) at_ (by omega) hat lv H w h1 h2 hE hM
theorem Qhk (a:Option Addr) (c:Nat) (l:List Nd) (w:World) (hN:Nodes w a l) (hT:Y5 l) (hll:l.length<=1000000000):
  Calls prog 51 #[.slice a l.length c] w (Qd5 l (hgt l (l.length-1)<=200) w):=by
 have HN:=Qa hN;have HT:=Qa hT;have hpos:=hT.1;clear hN hT;obtain ⟨n,hn⟩:=Qb l.length;rw [<-hn]at hll hpos ⊢;have Q0:=Qa hn;clear hn;have hmk:=run_make_row' (P:=prog) 23 3 (.int .i64 0) 8 underlying23 Qby rfl .i64 .i64 n (by omega) (by omega);go_enter func51,ntmps51;rw [Vk 3,Vk 4];go_wp2_with fail;obtain ⟨B,hB⟩:=Qb w.heap.size;rw [show w.heap.size+1+1+1=w.heap.size+3 by omega,show w.heap.size+1+1=w.heap.size+2 by omega,<-hB];obtain ⟨w1,hw1⟩:=Qb ((((w.alloc (.cells #[.slice a n c] 22)).alloc (.cells (madeCells #[.int .i64 0] n) 3)).alloc (.cells #[.slice (some ⟨B+1,0,none⟩) n n] 23)).alloc (.cells #[.nilFunc] 98));rw [<-hw1];have hl0:Held w1 B 22 #[.slice a n c]:=by rw [hw1,hB];exact (((Held.new w _ _).alloc _).alloc _).alloc _
 have hm0:Mine .i64 3 w1 (B+1) n (λ_=>0):=by
  have h:=Mine.made (w.alloc (.cells #[.slice a n c] 22)) .i64 3 n;have e:(w.alloc (.cells #[.slice a n c] 22)).heap.size=B+1:=by rw [hB];simp
  rw [e]at h;rw [hw1];refine (h.below Qn).below Qn
 have hh0:Held w1 (B+2) 23 #[.slice (some ⟨B+1,0,none⟩) n n]:=by
  have h:=Held.new ((w.alloc (.cells #[.slice a n c] 22)).alloc (.cells (madeCells #[.int .i64 0] n) 3)) 23 #[.slice (some ⟨B+1,0,none⟩) n n];have e:((w.alloc (.cells #[.slice a n c] 22)).alloc (.cells (madeCells #[.int .i64 0] n) 3)).heap.size=B+2:=by rw [hB];simp
  rw [e]at h;rw [hw1];exact h.alloc _
 have hr0:Held w1 (B+3) 98 #[.nilFunc]:=by
  have h:=Held.new (((w.alloc (.cells #[.slice a n c] 22)).alloc (.cells (madeCells #[.int .i64 0] n) 3)).alloc (.cells #[.slice (some ⟨B+1,0,none⟩) n n] 23)) 98 #[.nilFunc];have e:(((w.alloc (.cells #[.slice a n c] 22)).alloc (.cells (madeCells #[.int .i64 0] n) 3)).alloc (.cells #[.slice (some ⟨B+1,0,none⟩) n n] 23)).heap.size=B+3:=by rw [hB];simp
  rw [e]at h;rw [hw1];exact h
 have HB1:Hid (Below w.heap.size w w1):=by rw [hw1];exact ((Qn.alloc (by simp) _).alloc (by simp;omega) _).alloc (by simp;omega) _
 have X3:=Qa hB;have HL0:=Qa hl0;have Gp:=Qa hm0;have HH0:=Qa hh0;have O6:=Qa hr0;clear hB hw1 hl0 hm0 hh0 hr0 hmk;have cr:=O6.out.at_ (j:=0) (v:=.nilFunc) rfl;have fr:=O6.out.frozen 0;refine Vp ?_;go_wp2_with fail;obtain ⟨w2,hw2⟩:=Qb (w1.setCell ⟨B+3,0,none⟩ (.func (.func 66) #[] #[.pointer (some ⟨B+2,0,none⟩),.pointer (some ⟨B,0,none⟩),.pointer (some ⟨B+3,0,none⟩)]));rw [<-hw2];have HB2:Hid (Below w.heap.size w w2):=by rw [hw2];exact HB1.out.setCell (p:=⟨B+3,0,none⟩) (by show _<=B+3;rw [X3.out];omega) _
 have HE:Hid (Env w w2 a l n c (B+1) (B+2) B (B+3)):=by
  refine ⟨HN.out,HB2.out,by rw [X3.out];omega,?_,?_,?_,by omega,by omega,by omega⟩
  ·rw [hw2];exact ((HH0.out.off (g':=B+3) (by omega) 0 _).at_ rfl)
  ·rw [hw2];exact ((HL0.out.off (g':=B+3) (by omega) 0 _).at_ rfl)
  ·rw [hw2];exact ((O6.out.set 0 _).at_ rfl)
 have Co:Hid (Mine .i64 3 w2 (B+1) n (λ_=>0)):=by rw [hw2];exact Gp.out.block (Below.heap_setCell _ _ _ _ (by show B+1≠B+3;omega))
 clear hw2 cr fr Gp HL0 HH0 O6;have c1:=HE.out.rc;have c2:=HE.out.lc;have c3:=HE.out.hc;refine Vp ?_;go_wp2_with fail;have HA:Hid (Ahead l):=HT.out.2.1;have hlt:n-1<l.length:=by rw [<-Q0.out];omega
 have hz:(n:Int)-1=((n-1:Nat):Int):=by omega
 have HZ:=Qa hz;have HY:Hid ((1:Int)=((1:Nat):Int)):=rfl;clear hz
 (with_reducible refine (Qjb w a l n c (B+1) (B+2) B (B+3) HA.out Q0.out hll (n-1) hlt 1 (λ_=>0) w2 ((n:Int)-1) 1 (Yc _) (by omega) HE.out Co.out HZ.out HY.out).mono ?_)
 rintro e w3 ⟨b,H',rfl,hbt,hm3,hiff,htr⟩;have HB3:Hid (Below w.heap.size w w3):=hbt.below HB2.out HE.out.old;have Qj:=Qa (HE.out.but hbt);have HM3:=Qa hm3;have Zr:=Qa hiff;have Ik:=Qa htr;clear hbt hm3 hiff htr c1 c2 c3;cases b with
 |false=>
  go_wp2_with fail;go_ret;exact ⟨HB3.out,.inr ⟨(λh=>by cases Zr.out.2 (by omega)),rfl⟩⟩
 |true=>
  have c3:=Qj.out.hc;have hh:hgt l (n-1)<=200:=by have:=Zr.out.1 rfl;omega
  have HH:=Qa hh;obtain ⟨h1,_,_⟩:=Ik.out rfl;have HU:=Qa h1;clear h1 Ik Zr hh;go_wp2_with fail;go_ret;refine ⟨HB3.out,.inl ⟨HH.out,B+1,by rw [<-Q0.out];rfl,?_⟩⟩;rw [<-Q0.out];refine HM3.out.rows.congr λj hj=> ?_;exact HU.out j (by have:=Py HT.out (l.length-1-j) j (Yc _) (by rw [<-Q0.out];exact hj);rw [<-Q0.out]at this;exact this)
theorem Qii {l:List Nd} (hA:Ahead l) {i:Nat} (hi:i<l.length):Yt l (nd l i).kids:=by intro j hj;obtain ⟨q,h1,h2,_⟩:=Cj hA hi hj;exact ⟨q,h1,by omega⟩
theorem Qck {l:List Nd} {x:Nd} (h:Xc l x=true):1<=x.kind/\x.kind<=26:=by unfold Xc ownB at h;simp only [Q7,Qu]at h;exact ⟨h.1.1.1.1.1,h.1.1.1.1.2⟩
theorem Qjp {l:List Nd} (hA:Ahead l) {i:Nat} (hi:i<l.length) (hf: ∀j,j<i->Xc l (nd l j)=true):Yl (kd l (nd l i).kids):=by intro j hj;rw [Y7]at hj;obtain ⟨q,h1,h2,_⟩:=Cj hA hi hj;have:=Qck (hf q h2);refine ⟨(nd l q).kind.toNat,?_,by omega⟩;rw [Qcm hj h1];omega
theorem Qmn (a:Option Addr) (c:Nat) (l:List Nd) (w:World) (A8:Xp w) (hN:Nodes w a l) (hll:l.length<=1000000000):
  Calls prog 33 #[.slice a l.length c] w (Qd5 l (Rt l) w):=by
 have HN:=Qa hN;have Gj:=Qa A8;clear hN A8;go_enter func33,ntmps33;go_wp2_with fail;refine (Qrk a c l w HN.out hll).mono ?_;rintro e w1 ⟨b,rfl,hiff,hb1⟩;have HB1:=Qa hb1;have Zr:=Qa hiff;clear hb1 hiff;cases b with
 |false=>
  go_wp2_with fail;go_ret;exact ⟨HB1.out,.inr ⟨(λh=>by cases Zr.out.2 h.1),rfl⟩⟩
 |true=>
  have HT:Hid (Y5 l):=Zr.out.1 rfl;have HA:Hid (Ahead l):=HT.out.2.1;clear Zr;go_wp2_with fail;go_loopw [4,10] (λ_ t wr=> ∃i:Nat,i<=l.length/\t= .int .i64 (i:Int)/\Hid (∀j,j<i->Xc l (nd l j)=true)/\Hid (Below w.heap.size w wr)) (λ_ t _=>l.length-(intOf t).toNat)
  case atStart=>exact ⟨0,by omega,rfl,(λj hj=>by omega),HB1⟩
  case round=>
   obtain ⟨i,hi,rfl,HF,HB⟩:=hrel;by_cases hil:i<l.length
   ·have Qs1:(i:Int)<(l.length:Int):=(by omega);obtain ⟨lb,lo,rfl,hlb,h5⟩:=(HN.out.below HB.out).at_ hil;have Ve:=Qa ((HN.out.below HB.out).2 i hil);obtain ⟨x,hx⟩:=Qb (nd l i);rw [<-hx]at h5 Ve;have HX:=Qa hx;clear hx;obtain ⟨c0,c1,c2,c3,c4⟩:=h5;go_wp2_with fail;obtain ⟨w2,hw2⟩:=Qb (wr.alloc (.cells #[.int .i64 x.kind,.slice x.ka x.kids.length x.kc,.int .i64 x.n,.string x.s,.int .i64 x.at_] 25));have HB2:Hid (Below wr.heap.size wr w2):=(by rw [hw2];exact Qn);have Xu:Hid (Below w.heap.size w w2):=HB.out.trans (HB2.out.mono HB.out.size);have HV:Hid (x.v= .agg #[.int .i64 x.kind,.slice x.ka x.kids.length x.kc,.int .i64 x.n,.string x.s,.int .i64 x.at_]):=rfl;have hcall:=Qia (some ⟨lb,lo,none⟩) c l x w2 (Gj.out.below Xu.out) (HN.out.below Xu.out) (Ve.out.below HB2.out) (by rw [HX.out];exact Qii HA.out hil) (by rw [HX.out];exact Qjp HA.out hil HF.out) (by omega);rw [HV.out]at hcall;have HC:=Qa hcall;rw [<-hw2];clear hw2 hcall c0 c1 c2 c3 c4;refine HC.out.mono ?_;rintro e w3 ⟨rfl,hb3⟩;have HB3:Hid (Below w.heap.size w w3):=Xu.out.trans (hb3.mono Xu.out.size);clear hb3;cases hf:Xc l x with
    |false=>
     have Rx:=Qa hf;clear hf;go_wp2_with fail;go_ret;refine ⟨HB3.out,.inr ⟨(λh=> ?_),rfl⟩⟩;have:=h.2.1 i hil;rw [<-HX.out,Rx.out]at this;cases this
    |true=>
     have Rx:=Qa hf;clear hf;go_wp2_with fail;go_roundw
     case rel=>exact ⟨i+1,by omega,by go_num,(λj hj=>by
      rcases Xa j i with g |g
      ·exact HF.out j g
      ·rw [show j=i by omega,<-HX.out];exact Rx.out),HB3⟩
     case measure=>simp [intOf];omega
   ·obtain rfl:i=l.length:=(by omega);go_wp2_with fail;refine (Qhk a c l wr (HN.out.below HB.out) HT.out hll).mono ?_;rintro e w2 ⟨hb2,hcase⟩;have HB2:Hid (Below w.heap.size w w2):=HB.out.trans (hb2.mono HB.out.size);clear hb2;rcases hcase with ⟨hP,g,rfl,hrows⟩ |⟨hP,rfl⟩
    ·have HP:=Qa hP;have HR:=Qa hrows;clear hP hrows;go_wp2_with fail;go_ret;exact ⟨HB2.out,.inl ⟨⟨HT.out,HF.out,HP.out⟩,g,rfl,HR.out⟩⟩
    ·have HP:=Qa hP;clear hP;go_wp2_with fail;go_ret;exact ⟨HB2.out,.inr ⟨(λh=>HP.out h.2.2),rfl⟩⟩
theorem U1 (a:Option Addr) (c:Nat) (l:List Nd) (w:World) (A8:Xp w) (hN:Nodes w a l) (hll:l.length<=1000000000):
  Calls prog 19 #[.slice a l.length c] w (Zi (Rt l) w):=by
 go_enter func19,ntmps19;go_wp2_with fail;refine (Qmn a c l w A8 hN hll).mono ?_;rintro e w1 ⟨hb1,hcase⟩;have HB1:=Qa hb1;clear hb1 A8 hN;rcases hcase with ⟨hP,g,rfl,hrows⟩ |⟨hP,rfl⟩
 ·have HP:=Qa hP;have hpos:0<l.length:=hP.1.1;clear hP hrows;go_wp2_with fail;go_ret;exact Zi.yes (by first |rfl |simp) HP.out HB1.out
 ·have HP:=Qa hP;clear hP;go_wp2_with fail;go_ret;exact Zi.no rfl HP.out HB1.out
def Wh (l:List Nd):Prop:=Rt l/\(nd l (l.length-1)).kind=26
theorem Qnd (a:Option Addr) (c n:Nat) (l:List Nd) (w:World) (hn:n=l.length) (A8:Xp w) (hN:Nodes w a l) (hll:n<=1000000000):
  Calls prog 13 #[.slice a n c] w (Zi (Wh l) w):=by
 have Q0:=Qa hn;have HN:=Qa hN;have hcall:=U1 a c l w A8 hN (by omega);rw [<-hn]at hcall;have HC:=Qa hcall;clear hn hN hcall A8;go_enter func13,ntmps13;go_wp2_with fail;refine HC.out.mono ?_;rintro e w1 ⟨b,rfl,hiff,hb1⟩;have HB1:=Qa hb1;have Zr:=Qa hiff;clear hb1 hiff;cases b with
 |false=>
  go_wp2_with fail;go_ret;exact Zi.no rfl (λh=>by cases Zr.out.2 h.1) HB1.out
 |true=>
  have HR:Hid (Rt l):=Zr.out.1 rfl;have hpos:0<n:=by rw [Q0.out];exact HR.out.1.1
  obtain ⟨p,rfl⟩: ∃p,n=p+1:=⟨n-1,by omega⟩;have hpl:p<l.length:=by rw [<-Q0.out];omega
  obtain ⟨lb,lo,rfl,hlb,h5⟩:=(HN.out.below HB1.out).at_ hpl;have c0:=h5.1;obtain ⟨K,hK⟩:=Qb ((nd l p).kind);rw [<-hK]at c0;have HK:Hid ((nd l (l.length-1)).kind=K):=by show _=_;rw [<-Q0.out,Nat.add_sub_cancel,hK]
  clear hK h5 hpos;by_cases hk:K=26
  ·have hk':(K==26)=true:=(by simp [hk]);have HKK:=Qa hk;clear hk;go_wp2_with fail;go_ret;exact Zi.yes rfl ⟨HR.out,HK.out.trans HKK.out⟩ HB1.out
  ·have hk':(K==26)=false:=(by simp [hk]);have HKK:=Qa hk;clear hk;go_wp2_with fail;go_ret;exact Zi.no rfl (λh=>HKK.out (HK.out.symm.trans h.2)) HB1.out
theorem Qbb {l:List Nd} (hA:Ahead l): ∀(N i:Nat),i<N->i<l.length->hgt l i<=i+1:=by
 intro N
 induction N with
 |zero=>intro i h;omega
 |succ N ih=>
  intro i Cv hi;have: ∀j,j<=(nd l i).kids.length->mx l i j<=i+1:=by
   intro j
   induction j with
   |zero=>intro _;rw [Hu];omega
   |succ j ihj=>
    intro hj;obtain ⟨q,hq,hqi,_⟩:=Cj hA hi (show j<(nd l i).kids.length by omega);rw [L8 (by omega) hq];have h1:=ihj (by omega);have h2:=ih q (by omega) (by omega);omega
  rw [<-Es hA hi];exact this _ (Yc _)
theorem Qoh (a:Option Addr) (c n:Nat) (l:List Nd) (w:World) (hn:n=l.length) (hA:Ahead l) (hN:Nodes w a l) (hll:n<=1000000000): ∀(N i:Nat),i<N->i<l.length->
  Calls prog 41 #[.slice a n c,.int .i64 (i:Int)] w λe w'=>e= .returned (.int .i64 (hgt l i:Int))/\w'=w:=by
 intro N
 induction N with
 |zero=>intro i h;omega
 |succ N ih=>
  intro i Cv hi;have Q0:=Qa hn;have HN:=Qa hN;have HA:=Qa hA;have IH:=Qa ih;have Wx:=Qa hi;have hin:(i:Int)<(n:Int):=by omega
  clear ih;obtain ⟨lb,lo,ha,hlb,h5⟩:=HN.out.at_ Wx.out;have Ve:=Qa (HN.out.2 i Wx.out);have c1:=h5.2.1;have G5:=Qa Ve.out.rows;have hkl:=Ve.out.len;obtain ⟨ks,hks⟩:=Qb ((nd l i).kids);obtain ⟨ka,hka⟩:=Qb ((nd l i).ka);obtain ⟨kc,hkc⟩:=Qb ((nd l i).kc);obtain ⟨m,hm⟩:=Qb ks.length;rw [<-hks,<-hka,<-hkc,<-hm]at c1;rw [<-hks,<-hka,<-hm]at G5;rw [<-hks,<-hm]at hkl;have Ab:=Qa hks;have Db:=Qa hm;have HHL:=Qa (Qbb HA.out (i+1) i (by omega) Wx.out);have HAA:=Qa ha;clear hks hka hkc hm h5 hn hN hA hi;subst ha;clear HAA;go_enter func41,ntmps41;go_wp2_with fail;go_loop [5,6] (λt5 t6=> ∃j h:Nat,j<=m/\t6= .int .i64 (j:Int)/\t5= .int .i64 (h:Int)/\h<=1000000001/\Hid (h=mx l i j)) (λ_ t6=>m-(intOf t6).toNat)
  case atStart=>exact ⟨0,1,by omega,rfl,rfl,by omega,(by show _=_;rw [Hu])⟩
  case round=>
   obtain ⟨j,h,hj,rfl,rfl,hh,HH⟩:=hrel;by_cases hjm:j<m
   ·have Bp:(j:Int)<(m:Int):=(by omega);have hjk:Hid (j<(nd l i).kids.length):=(by show j<_;rw [<-Ab.out,<-Db.out];exact hjm);obtain ⟨q,hq,hqi,_⟩:=Cj HA.out Wx.out hjk.out;obtain ⟨kb,ko,rfl,hkb,hkc⟩:=G5.out (by omega);have hc:=hkc j hjm;simp only at hc;rw [Ab.out,hq]at hc;have HQ:=Qa hq;have HQH:=Qa (Qbb HA.out (q+1) q (by omega) (by have:=Wx.out;omega));clear hkc hq;go_wp2_with fail;refine (IH.out q (by omega) (by have:=Wx.out;omega)).mono ?_;rintro e w1 ⟨rfl,hw1⟩;rw [hw1];clear hw1 w1;have hQ:hgt l q<=1000000000:=(by have:=HQH.out;omega);obtain ⟨Q,hQQ⟩:=Qb (hgt l q);have Cg:=Qa (L8 hjk.out HQ.out);rw [<-hQQ]at hQ Cg ⊢;clear hQQ;rcases (show h<1+Q\/1+Q<h\/h=1+Q by omega)with hlt |Qpn |heq
    ·go_wp2_with fail;go_round
     case rel=>exact ⟨j+1,1+Q,by omega,by go_num,by go_num,by omega,(by show _=_;rw [Cg.out,<-HH.out];omega)⟩
     case measure=>simp [intOf];omega
    ·go_wp2_with fail;go_round
     case rel=>exact ⟨j+1,h,by omega,by go_num,by go_num,by omega,(by show _=_;rw [Cg.out,<-HH.out];omega)⟩
     case measure=>simp [intOf];omega
    ·subst heq;go_wp2_with fail;go_round
     case rel=>exact ⟨j+1,1+Q,by omega,by go_num,by go_num,by omega,(by show _=_;rw [Cg.out,<-HH.out];omega)⟩
     case measure=>simp [intOf];omega
   ·obtain rfl:j=m:=(by omega);go_wp2_with fail;go_ret;refine ⟨?_,rfl⟩;have e:h=hgt l i:=(by rw [HH.out,Db.out,Ab.out,Es HA.out Wx.out]);rw [<-e];rfl
theorem Qp4 (a:Option Addr) (c n:Nat) (l:List Nd) (w:World) (z:Int) (i:Nat) (hn:n=l.length) (hA:Ahead l) (hN:Nodes w a l) (hll:n<=1000000000) (hi:i<l.length) (hz:z=(i:Int)):
  Calls prog 41 #[.slice a n c,.int .i64 z] w λe w'=>e= .returned (.int .i64 (hgt l i:Int))/\w'=w:=by
 subst hz;exact Qoh a c n l w hn hA hN hll (i+1) i (by omega) hi
theorem Qnx (a:Option Addr) (c n:Nat) (l:List Nd) (w:World) (hn:n=l.length) (hN:Nodes w a l) (hll:n<=100000):
  Calls prog 21 #[.slice a n c] w (Zi (Rt l) w):=by
 have Q0:=Qa hn;have HN:=Qa hN;clear hn hN;have HST:=Qa (Built.start w #[] rfl);go_enter func21,ntmps21;go_wp2_with fail;go_loopw [3,4] (λt3 t4 wr=> ∃i:Nat,i<=n/\t4= .int .i64 (i:Int)/\Hid (Built w wr t3 (seen l i 0))/\Hid (Zj l i 0)/\Hid (∀j,j<i->Xc l (nd l j)=true)) (λ_ t4 _=>n-(intOf t4).toNat)
 case atStart=>exact ⟨0,by omega,rfl,(by show Built _ _ _ _;rw [Oy];exact HST.out),Zj.start l,λj hj=>by omega⟩
 case round=>
  rename_i t3 _;obtain ⟨i,hi,rfl,Xm,HS,HF⟩:=hrel;by_cases hin:i<n
  ·have Ud:(i:Int)<(n:Int):=(by omega);have Wx:Hid (i<l.length):=(by show i<l.length;rw [<-Q0.out];exact hin);obtain ⟨lb,lo,ha,_,_⟩:=HN.out.at_ Wx.out;subst ha;have Ve:=Qa (HN.out.2 i Wx.out);obtain ⟨x,hx⟩:=Qb (nd l i);rw [<-hx]at Ve;have HX:=Qa hx;have HKL:=Qa Ve.out.len;have hkl:=Ve.out.len;clear hx;have H5: ∀w',Below w.heap.size w w'->D5 w' lb (lo+i*5) x:=by
    intro w' hb;obtain ⟨b,o,e,_,h5⟩:=(HN.out.below hb).at_ Wx.out;injection e with e
    injection e with e1 e2
    subst e1 e2;rw [HX.out];exact h5
   have Xg:=Qa H5;clear H5;have c1:=(Xg.out wr Xm.out.2).2.1;go_wp2_with fail;obtain ⟨wo,hwo⟩:=Qb wr;rw [<-hwo]at Xm c1 ⊢;clear hwo;clear c1;go_loopw [3,5] (λt3 t5 wr=> ∃k:Nat,k<=x.kids.length/\t5= .int .i64 (k:Int)/\Hid (Built w wr t3 (seen l i k))/\Hid (Zj l i k)) (λ_ t5 _=>x.kids.length-(intOf t5).toNat)
   case atStart=>exact ⟨0,by omega,rfl,Xm,HS⟩
   case round=>
    obtain ⟨k,hk,rfl,Xm,HS⟩:=hrel;have c1:=(Xg.out wr Xm.out.2).2.1;by_cases hkm:k<x.kids.length
    ·have hkmi:(k:Int)<(x.kids.length:Int):=(by omega);have hkl':Hid (k<(nd l i).kids.length):=(by show k<_;rw [<-HX.out];exact hkm);obtain ⟨kb,ko,hka,hkb,hkc⟩:=(Ve.out.rows.below Xm.out.2) (by omega);have hc:=hkc k hkm;simp only at hc;rw [hka]at c1;obtain ⟨z,hz⟩:=Qb (x.kids.getD k 0);rw [<-hz]at hc;have HZ:Hid ((nd l i).kids.getD k 0=z):=(by show _=_;rw [<-HX.out,hz]);clear hz hkc hka;obtain ⟨ua,uc,hv,hur⟩:=Xm.out.rows;subst hv;have hlen:(seen l i k).length<=i:=HS.out.len (Nat.le_of_lt Wx.out);have HUR:=Qa hur;clear hur;obtain ⟨L,hL⟩:=Qb ((seen l i k).length);have HLL:=Qa hL;rw [<-hL]at HUR hlen Xm ⊢;clear hL;by_cases hz0:z<0
     ·go_wp2_with fail;go_ret;exact Zi.no rfl (λh=>Ng Wx.out hkl'.out (by rw [HZ.out];omega) h.1) Xm.out.2
     ·have hz0':decide (z<0)=false:=(by simpa using hz0);by_cases hzi:(i:Int)<=z
      ·go_wp2_with fail;go_ret;exact Zi.no rfl (λh=>Ng Wx.out hkl'.out (by rw [HZ.out];omega) h.1) Xm.out.2
      ·have Qqd:decide ((i:Int)<=z)=false:=(by simpa using hzi);obtain ⟨u,rfl⟩: ∃u:Nat,z=u:=⟨z.toNat,by omega⟩;go_wp2_with fail;refine (Qeu _ _ _ (seen l i k) _ wr HLL.out (by omega) HUR.out).mono ?_;rintro e w1 ⟨he,hw1⟩;rw [hw1];clear hw1 w1;by_cases hmk:(u:Int)∈seen l i k
       ·rw [decide_eq_true hmk]at he;subst he;have Fh:=Qa hmk;clear hmk;go_wp2_with fail;go_ret;exact Zi.no rfl (λh=>Qe1 Wx.out hkl'.out (by rw [HZ.out];exact Fh.out) h.1) Xm.out.2
       ·rw [decide_eq_false hmk]at he;subst he;have Fh:=Qa hmk;clear hmk;have HS2:Hid (Zj l i (k+1)):=HS.out.next hkl'.out (by rw [HZ.out];omega) (by rw [HZ.out];omega) (by rw [HZ.out];exact Fh.out);have HE2:Hid (seen l i (k+1)=seen l i k++[(u:Int)]):=(by show _=_;rw [Nf hkl'.out,HZ.out]);go_wp2_with (at_builtin;refine Qkd rfl (.tmp 44) (.tmp 46) rfl w _ _ _ _ rfl rfl Xm.out (by rw [<-HLL.out];omega) ?_;intro v1 w1 hb1);have HB1:=Qa hb1;clear hb1;go_wp2_with fail;go_roundw
        case rel=>exact ⟨k+1,by omega,by go_num,(by show Built _ _ _ _;rw [HE2.out];exact HB1.out),HS2⟩
        case measure=>simp [intOf];omega
    ·obtain ⟨ek⟩:Nonempty (k=x.kids.length):=⟨by omega⟩;have HEK:=Qa ek;clear ek;have HS1:Hid (Zj l (i+1) 0):=by refine Zj.turn ?_ Wx.out;rw [<-HX.out,<-HEK.out];exact HS.out
     have Qi:Hid (seen l i k=seen l (i+1) 0):=by show _=_;rw [HEK.out,HX.out];exact S9 Wx.out
     have hAK: ∀j,j<(nd l i).kids.length-> ∃q:Nat,(nd l i).kids.getD j 0=(q:Int)/\q<i:=by
      intro j hj;have hm:(nd l i).kids.getD j 0∈(nd l i).kids:=by rw [Yh,Za hj];exact Ca hj
      have:=HS1.out.ahead i (by omega) _ hm;exact ⟨((nd l i).kids.getD j 0).toNat,by omega,by omega⟩
     have HIN:Hid (Yt l x.kids):=by intro j hj;rw [HX.out]at hj ⊢;obtain ⟨q,h1,h2⟩:=hAK j hj;exact ⟨q,h1,by have:=Wx.out;omega⟩
     clear hAK;obtain ⟨c0,_,c2,c3,c4⟩:=Xg.out wr Xm.out.2;have HV:Hid (x.v= .agg #[.int .i64 x.kind,.slice x.ka x.kids.length x.kc,.int .i64 x.n,.string x.s,.int .i64 x.at_]):=rfl;have hown:=Qmf x wr Ve.out.s;rw [HV.out]at hown;have HOWN:=Qa hown;clear hown;go_wp2_with fail;refine HOWN.out.mono ?_;rintro e w1 ⟨rfl,hb1⟩;have HB1:Hid (Below w.heap.size w w1):=Xm.out.2.trans (hb1.mono Xm.out.2.size);have Qkg:=Qa (Xm.out.quiet hb1);clear hb1 c0 c1 c2 c3 c4;cases ho:ownB x with
     |false=>
      have HO:=Qa ho;clear ho;go_wp2_with fail;go_ret;refine Zi.no rfl (λh=> ?_) HB1.out;have:=h.2.1 i Wx.out;rw [<-HX.out]at this;unfold Xc at this;rw [HO.out]at this;cases this
     |true=>
      have HO:=Qa ho;clear ho;obtain ⟨c0,c1,c2,c3,c4⟩:=Xg.out w1 HB1.out;have Qx:=Qm4 (some ⟨lb,lo,none⟩) c l x w1 (HN.out.below HB1.out) (Ve.out.below HB1.out) HIN.out (by rw [<-Q0.out];omega);rw [HV.out,<-Q0.out]at Qx;have Yq:=Qa Qx;clear Qx;go_wp2_with fail;refine Yq.out.mono ?_;rintro e w2 ⟨rfl,hb2⟩;have HB2:Hid (Below w.heap.size w w2):=HB1.out.trans (hb2.mono HB1.out.size);have Qnq:=Qa (Qkg.out.quiet hb2);clear hb2 c0 c1 c2 c3 c4;cases hk2:Qq x.kind (kk l x)with
      |false=>
       have Ws:=Qa hk2;clear hk2;go_wp2_with fail;go_ret;refine Zi.no rfl (λh=> ?_) HB2.out;have:=h.2.1 i Wx.out;rw [<-HX.out]at this;unfold Xc at this;rw [Ws.out]at this;simp at this
      |true=>
       have Ws:=Qa hk2;clear hk2;go_wp2_with fail;go_roundw
       case rel=>exact ⟨i+1,by omega,by go_num,(by show Built _ _ _ _;rw [<-Qi.out];exact Qnq.out),HS1,(λj hj=>by
        rcases Xa j i with g |g
        ·exact HF.out j g
        ·rw [show j=i by omega,<-HX.out];unfold Xc;rw [HO.out,Ws.out];rfl)⟩
       case measure=>simp [intOf];omega
  ·obtain rfl:i=n:=(by omega);have HSN:Hid (Zj l l.length 0):=(by show Zj _ _ _;rw [<-Q0.out];exact HS.out);have Dm:Hid (Y5 l↔0<i/\(seen l i 0).length=i-1):=by have h2:=Qen HSN.out;rw [<-Q0.out]at h2;exact h2
   have HFT:Hid (Fits l):=λj hj=>HF.out j (by rw [Q0.out];exact hj);obtain ⟨ua,uc,hv,hur⟩:=Xm.out.rows;subst hv;have hlen:(seen l i 0).length<=i:=HS.out.len (by rw [<-Q0.out];exact Yc _);obtain ⟨L,hL⟩:=Qb ((seen l i 0).length);rw [<-hL]at Dm hlen ⊢;clear hL hur;rcases Nat.eq_zero_or_pos i with h0 |h0
   ·subst h0;go_wp2_with fail;go_ret;exact Zi.no rfl (λh=>by have:=Dm.out.1 h.1;omega) Xm.out.2
   ·by_cases hqq:L=i-1
    ·have Rq:((L:Int)==(i:Int)-1)=true:=(by simp;omega);have HT:Hid (Y5 l):=Dm.out.2 ⟨h0,hqq⟩;have HA:Hid (Ahead l):=HT.out.2.1;clear hqq;go_wp2_with fail;refine (Qp4 a c i l wr _ (i-1) Q0.out HA.out (HN.out.below Xm.out.2) (by omega) (by rw [<-Q0.out];omega) (by omega)).mono ?_;rintro e w1 ⟨rfl,hw1⟩;rw [hw1];clear hw1 w1;have P8:Hid (hgt l (l.length-1)=hgt l (i-1)):=(by show _=_;rw [<-Q0.out]);obtain ⟨G,hG⟩:=Qb (hgt l (i-1));rw [<-hG]at P8 ⊢;clear hG;by_cases hg:G<=200
     ·have hg':decide ((G:Int)<=200)=true:=(by simp;omega);go_wp2_with fail;go_ret;exact Zi.yes (by first |rfl |simp [hg]) ⟨HT.out,HFT.out,by rw [P8.out];exact hg⟩ Xm.out.2
     ·have hg':decide ((G:Int)<=200)=false:=(by simp;omega);go_wp2_with fail;go_ret;exact Zi.no (by first |rfl |simp [hg]) (λh=>hg (by rw [<-P8.out];exact h.2.2)) Xm.out.2
    ·have Rq:((L:Int)==(i:Int)-1)=false:=(by simp;omega);have HQ:=Qa hqq;clear hqq;go_wp2_with fail;go_ret;exact Zi.no rfl (λh=>HQ.out (Dm.out.1 h.1).2) Xm.out.2
end
end Go.Proofs.YtdncpkkhkbijfaaDoor
