import Derived.Test.YtdncpkkhkbijfaaGreatDoorBa18
import Derived.Test.YtdncpkkhkbijfaaGreatDoorBa35
open Go.Proofs.Tryz
set_option linter.all false
set_option maxHeartbeats 0
set_option maxRecDepth 100000
namespace Go.Proofs.YtdncpkkhkbijfaaGreatDoor
section
open Go.RowKit
def Wh6 (l:List Nd) (w:World) (e:Ending) (w':World):Prop:=Below w.heap.size w w'/\
 ((Wh l/\ ∃fs,XR l ((l.length-1:Nat):Int) fs/\e= .returned (.tuple #[.string ⟨(Xv fs).toArray⟩,.bool true]))\/(¬Wh l/\e= .returned (.tuple #[.string ⟨#[]⟩,.bool false])))
theorem Q6q (f:Wm): ∀fs:List Wm,Xv (fs++[f])=Xv fs++f.txt
 | []=>by show Xv [f]=_;simp [Xv]
 |x::fs=>by show Xv (x::(fs++[f]))=_;rw [Xv,Xv,Q6q f fs,Qy]
theorem Wnr {fs:List Wm} {j:Nat} (hj:j<fs.length):Xv (fs.take (j+1))=Xv (fs.take j)++(fs.getD j ⟨[],[],0,[]⟩).txt:=by rw [Qos (d:=(⟨[],[],0,[]⟩:Wm)) hj,Q6q]
theorem Q4b: ∀(fs:List Wm) (j:Nat),(Xv (fs.take j)).length<=(Xv fs).length
 | [],j=>by rw [List.take_nil];exact Qh _
 |x::fs,0=>by rw [List.take_zero,Xv];exact Vh _
 |x::fs,j+1=>by have:=Q4b fs j;rw [List.take_succ_cons,Xv,Xv];simp only [Qf];omega
theorem Wf9 {l:List Nd} (H:Wz l) {i:Nat} (hi:i<l.length) {ks:List Int} (hks: ∀k∈ks,k∈(nd l i).kids/\Yp l k=24) {ps:List (List UInt8×Nat)} (hx:Gc (XP l) ks ps): ∀j,j<ks.length-> ∃q:Nat,ks.getD j 0=(q:Int)/\q<l.length/\Qv l q 24 ((ps.getD j ([],0)).2:Int) (ps.getD j ([],0)).1 []/\Qd0 (ps.getD j ([],0)):=by
 intro j hj;have hm:=hks _ (Qhi hj);have hX:=Qlt (d:=(([],0):List UInt8×Nat)) hx j hj;have hk:=H.kid hi hm.1;obtain ⟨q,hq⟩: ∃q:Nat,ks.getD j 0=(q:Int):=⟨(ks.getD j 0).toNat,by omega⟩;rw [hq]at hX hm hk;have M6:q<l.length:=by omega
 obtain ⟨s,m,h1,h2,h3,ha,hY⟩:=H.k24 M6 (by show (nd l q).kind=24;exact hm.2);rw [hX.one hY];exact ⟨q,hq,M6,ha,h1,h2,h3⟩
theorem Q19 (a:Option Addr) (c n:Nat) (l:List Nd) (w:World) (hn:n=l.length) (hf:n<=1000000) (hc:n<=c) (hN:Nodes w a l) (hP:Ir w) (J5: ∀j,j<l.length->(nd l j).n<=9223372036854775807):
  Calls prog 8 #[.slice a n c] w (Wh6 l w):=by
 have HR:=Qa (Wgi a c n l w hn hP.tabs hN (by omega));have HN:=Qa hN;have HP:=Qa hP;have Zn:=Qa hn;have Qdw:=Qa J5;clear hN hP hn J5;go_enter func8,ntmps8;rw [Qz 3,Qz 4,Qz 5];go_wp2_with fail;refine HR.out.mono ?_;rintro e w1 ⟨b,rfl,hiff,hb1⟩;have HB1:=Qa hb1;have Ka:=Qa hiff;clear hb1 hiff;cases b with
 |false=>
  have V9:Hid (¬Wh l):=λh=>by cases Ka.out.2 h
  go_wp2_with fail;exact bodyPost_ret (v:=.tuple #[.string ⟨#[]⟩,.bool false]) (by simp [results,results8,go_sem]) rfl ⟨HB1.out,.inr ⟨V9.out,rfl⟩⟩
 |true=>
  have HWH:Hid (Wh l):=Ka.out.1 rfl;have hpos:0<n:=by rw [Zn.out];exact HWH.out.1.1.1
  obtain ⟨p,rfl⟩: ∃p,n=p+1:=⟨n-1,by omega⟩;have hpl:p<l.length:=by rw [<-Zn.out];omega
  have HPE:Hid (l.length-1=p):=by show _=_;rw [<-Zn.out,Nat.add_sub_cancel]
  have Oo:=Qa (Wz.of HWH.out.1 Qdw.out);obtain ⟨ks,fs,Qco,hat,Q2m,hX,hXR⟩:=Oo.out.k26 hpl (by rw [<-HPE.out];exact HWH.out.2);have HAT:=Qa hat;have HKF:=Qa Q2m;have HX:=Qa hX;have HXR:=Qa hXR;have HLEN:Hid ((Xv fs).length<=3000000000000):=by have h1:(Ko fs).size=sz l p:=hXR.z;have h2:=Qlo HWH.out.1.1;rw [HPE.out]at h2;have h3:Zg (fs.map Wm.part)+1=(Ko fs).size:=rfl;have h5:=Zn.out;have h4:=Qsk fs 1000000 2000060 hXR.fin.fns (by omega) rfl;have h6:2000060*Zg (fs.map Wm.part)<=2000060*1000000:=Nat.mul_le_mul_left _ (by omega);show _<=_;omega
  obtain ⟨m,hm⟩:=Qb ks.length;have HM:Hid (ks.length=m):=hm.symm;have Uc:Hid (fs.length=m):=by rw [hm];exact (Qc6 hX).symm
  have Q6x:m<=200:=by omega
  clear hat Q2m hX hXR hm Qco;go_wp2_with fail;refine Qn ?_;go_wp2_with fail;obtain ⟨ob,Ip⟩:=Qb w1.heap.size;obtain ⟨w2,hw2⟩:=Qb (w1.alloc (.cells #[.pointer none,.slice none 0 0] 42));have Qrr:Hid (Below w1.heap.size w1 w2):=by rw [hw2];exact Qag
  have Wf6:Hid (Bd w1.heap.size ob [] w2):=by rw [Ip];exact Q8f (by rw [hw2];exact Held.new w1 _ _)
  rw [<-hw2,<-Ip];clear hw2 Ip;have HN1:=Qa (HN.out.below HB1.out);have HP1:=Qa (HP.out.below HB1.out);refine Qn ?_;go_wp2_with fail;refine (Wac (c:=c) HN1.out Zn.out (by omega) hc Oo.out HP1.out Qrr.out Wf6.out).mono ?_;rintro e w3 ⟨Ho,Ih,G6,Gw,lb,xb,sb,eb,rfl,Ye,hb3⟩;have Qx:=Qa Ye;have Yj:Hid (Below w1.heap.size w1 w3):=Qrr.out.trans (hb3.mono Qrr.out.size);clear Ye hb3;have HEE:Hid (Zt ⟨w1,a,l,p+1,c,ob,Ho,Ih,G6,Gw⟩ [] w3):=Qx.out.ee;obtain ⟨nb,no,ka,kc,at_,hNA⟩:=K4 HEE.out HAT.out;have HNA:=Qa hNA;have ha:a=some ⟨nb,no,none⟩:=hNA.base;subst ha;obtain ⟨c0,c1,c2,c3,c4⟩:=HNA.out.cells _ w3 HEE.out;rw [HM.out]at c1;have hpi:(p:Int)<(p:Int)+1:=by omega
  have hwp:IntKind.i64.wrap (p:Int)=(p:Int):=Go.IntWalk.i64_in _ (by omega);clear hNA c0 c2 c3 c4;go_wp2_with fail;refine Qn ?_;go_wp2_with fail;clear c1;go_loopw [7,8,9,23] (λ_ _ _ v wr=> ∃j:Nat,j<=m/\v= .int .i64 (j:Int)/\Hid (D8 ⟨⟨w1,some ⟨nb,no,none⟩,l,p+1,c,ob,Ho,Ih,G6,Gw⟩,lb,xb,sb,eb⟩ (Xv (fs.take j)) wr)/\Hid (Qi w1.heap.size ob w3 wr)) (λ_ _ _ v _=>m-(intOf v).toNat)
  case atStart=>exact ⟨0,by omega,rfl,(by rw [List.take_zero,Xv];exact Qx),Qa (Qi.refl _ _ _)⟩
  case round=>
   obtain ⟨j,hj,rfl,HEr,HKr⟩:=hrel;by_cases hjm:j<m
   ·have Qgb:(j:Int)<(m:Int):=(by omega);obtain ⟨kb,ko,hka,hkc⟩:=HNA.out.kids (by rw [HM.out];omega);obtain ⟨q,hq⟩: ∃q:Nat,ks.getD j 0=(q:Int):=by have:=Oo.out.kid hpl (k:=ks.getD j 0) (by rw [HAT.out.ks];exact Qhi (by rw [HM.out];exact hjm));exact ⟨(ks.getD j 0).toNat,by omega⟩
    have hmem:ks.getD j 0∈ks:=Qhi (by rw [HM.out];exact hjm);have M6:q<l.length:=by have:=Oo.out.kid hpl (k:=ks.getD j 0) (by rw [HAT.out.ks];exact hmem);omega
    have ck:=hkc _ wr HEr.out.ee j (q:Int) (by rw [<-hq];exact Qmd (by rw [HM.out];exact hjm));have hXF:=Qlt (d:=(⟨[],[],0,[]⟩:Wm)) HX.out j (by rw [HM.out];exact hjm);rw [hq]at hXF;obtain ⟨s,kd,qs,bq,ps,body,hs,hk1,hk3,h8,Qh7,Q0y,Qqa,hps,hbody,Q6e⟩:=Oo.out.k25 M6 (by have:=HKF.out _ hmem;rw [hq]at this;exact this);have HFN:Hid (Xv (fs.take (j+1))=Xv (fs.take j)++(Wm.mk s ps kd body).txt):=by show _=_;rw [Wnr (by rw [Uc.out];exact hjm),hXF.one Q6e]
    have Z9:=Qa (Q4b fs (j+1));have Qo:Hid ((Wm.mk s ps kd body).txt=([102,110,32]++s++[40]++Fj true ps++[41,32]++Xh kd++[32])++Bf body 0++[10]):=(by show _=_;unfold Wm.txt;simp [Ki]);obtain ⟨fnb,fno,fka,fkc,fat,hNQ⟩:=K4 HEr.out.ee Qh7;obtain ⟨Um,Uj,rfl,Qpp⟩:=hNQ.kids (by rw [Qf,Yw];omega);have e1:nb=fnb/\no=fno:=by
     have:=hNQ.base;injection this with this
     injection this with x1 x2
     exact ⟨x1,x2⟩
    obtain ⟨e1,e2⟩:=e1;subst e1 e2;obtain ⟨c0,c1,c2,c3,c4⟩:=hNQ.cells _ wr HEr.out.ee;obtain ⟨r,hr⟩:=Qb qs.length;have hlen:(qs++[bq]).length=r+1:=(by rw [Qf,Yw,hr]);rw [hlen]at c1;have Wsh:r+1<=fkc:=(by rw [<-hlen];exact hNQ.cap);obtain ⟨u,hu⟩: ∃u:Nat,bq=(u:Int):=by have:=Oo.out.kid M6 (k:=bq) (by rw [Qh7.ks];simp);exact ⟨bq.toNat,by omega⟩
    have Oy:u<l.length:=by have:=Oo.out.kid M6 (k:=bq) (by rw [Qh7.ks];simp);omega
    have HKU:Hid (∀t' w',Zt ⟨w1,some ⟨nb,no,none⟩,l,p+1,c,ob,Ho,Ih,G6,Gw⟩ t' w'->w'.cell? ⟨Um,Uj+r,none⟩=some (.int .i64 (u:Int))):=λt' w' h=>Qpp t' w' h r (u:Int) (by rw [Ht (by omega),hr,Nat.sub_self,hu];rfl);have Qit:=Qa (Wf9 Oo.out M6 (λk hk=>⟨by rw [Qh7.ks];exact List.mem_append_left _ hk,Q0y k hk⟩) hps);have Qed:Hid (∀t' w',Zt ⟨w1,some ⟨nb,no,none⟩,l,p+1,c,ob,Ho,Ih,G6,Gw⟩ t' w'->Vd .i64 w' (some ⟨Um,Uj,none⟩) r (λj=>qs.getD j 0)):=by intro t' w' h hp;have hcell: ∀j,j<r->w'.cell? ⟨Um,Uj+j,none⟩=some (.int .i64 (qs.getD j 0)):=λj hj=>Qpp t' w' h j _ (by rw [Qg1 (by omega),Qmd (by omega)]);exact ⟨Um,Uj,rfl,block_lt_of_cell (hcell 0 hp),hcell⟩
    have hr8:r<=8:=(by rw [hr];exact h8);have Q5c:Hid (ps.length=r):=(by rw [hr];exact (Qc6 hps).symm);obtain ⟨PB,hPB⟩:=Qb (⟨(Fj true ps).toArray⟩:ByteArray);obtain ⟨KB,hKB⟩:=Qb (⟨(Xh kd).toArray⟩:ByteArray);obtain ⟨SB,hSB⟩:=Qb (⟨s.toArray⟩:ByteArray);have HBY:Hid (PB.data.toList=Fj true ps/\KB.data.toList=Xh kd/\SB.data.toList=s):=(by rw [hPB,hKB,hSB];exact ⟨rfl,rfl,rfl⟩);have hsbz:SB.size<=32:=(by rw [hSB,Ad];exact hs.short);have Wic:KB.size<=4:=(by rw [hKB,Ad];exact Qo6 _);have Wsw:PB.size<=10000:=by
     rw [hPB,Ad];have h1:=Qoo ps (λq hq=>by obtain ⟨k,hk⟩:=Qig hps q hq;exact hk.fin) true;have h2: ∀qs:List (List UInt8×Nat),Zg (qs.map Zb)=qs.length:=λqs=>by
      induction qs with
      |nil=>rfl
      |cons q qs ih=>show (Zb q).size+Zg (qs.map Zb)=qs.length+1;rw [ih];show 0+1+qs.length=_;omega
     rw [h2,Q5c.out]at h1;omega
    have HPC:Hid (∀t' w',Zt ⟨w1,some ⟨nb,no,none⟩,l,p+1,c,ob,Ho,Ih,G6,Gw⟩ t' w'->Calls prog 19 #[.slice (some ⟨nb,no,none⟩) (p+1) c,.slice (some ⟨Um,Uj,none⟩) r fkc] w' λe w''=>e= .returned (.string PB)/\Below w'.heap.size w' w''):=by intro t' w' h;rw [hPB];exact Wom Zn.out hf (h.nodes.below h.below) (h.tabs.below h.below) hr hr8 (Qed.out t' w' h) Q5c.out (by rw [hr];exact Qit.out)
    have Z7:Hid (∀t' w',Zt ⟨w1,some ⟨nb,no,none⟩,l,p+1,c,ob,Ho,Ih,G6,Gw⟩ t' w'->Calls prog 20 #[.int .i64 (kd:Int)] w' λe w''=>e= .returned (.string KB)/\Below w'.heap.size w' w''):=by intro t' w' h;rw [hKB];refine (Qso (kd:Int) w' (h.tabs.below h.below).tabs).mono ?_;rintro e w'' ⟨he,hw⟩;rw [Q13 hk3]at he;exact ⟨he,by rw [hw];exact Below.refl _ _⟩
    have Df:=Qa ((Wik (Q:=⟨⟨w1,some ⟨nb,no,none⟩,l,p+1,c,ob,Ho,Ih,G6,Gw⟩,lb,xb,sb,eb⟩) Oo.out (u+1) u (by omega) Oy).2 (by show (nd l u).kind=23;rw [hu]at Qqa;exact Qqa) body (by rw [hu]at hbody;exact hbody) 0);rw [<-hSB]at c3;obtain ⟨kI,hkI⟩:=Qb ((kd:Int):Int);rw [<-hkI]at c2 Z7;have hqn:(q:Int)<(p:Int)+1:=(by have:=Zn.out;omega);have hrw:IntKind.i64.wrap (r:Int)=(r:Int):=Go.IntWalk.i64_in _ (by omega);rw [hka];have Ga:=Qa hka;clear hka hkc hq hmem hXF hs hk1 hk3 h8 Qh7 Q0y Qqa hps hbody Q6e hNQ Qpp hlen hr hu Oy hPB hKB hSB hkI M6;go_wp2_with fail;obtain ⟨wB,hwB⟩:=Qb (wr.alloc (.cells #[.int .i64 25,.slice (some ⟨Um,Uj,none⟩) (r+1) fkc,.int .i64 kI,.string SB,.int .i64 fat] 37));obtain ⟨xn,hxn⟩:=Qb wr.heap.size;have Yx:Hid (Below wr.heap.size wr wB):=(by rw [hwB];exact Qag);have HHB:Hid (Held wB xn 37 #[.int .i64 25,.slice (some ⟨Um,Uj,none⟩) (r+1) fkc,.int .i64 kI,.string SB,.int .i64 fat]):=(by rw [hwB,hxn];exact Held.new wr _ _);have Wqr:ob<wr.heap.size:=HEr.out.ee.bd.lt;have Q5:Hid (xn≠ob):=(by show _≠_;omega);clear Wqr;rw [<-hwB,<-hxn];have HEB:=Qa (HEr.out.since Yx.out);have Whz:Hid (Qi w1.heap.size ob w3 wB):=HKr.out.trans (.of HEr.out.ee.bd.size Yx.out);clear hwB hxn c0 c1 c2 c3 c4 ck;have r0:=cell_regrown (HHB.out.at_ (j:=0) (v:=.int .i64 25) rfl);have r1:=cell_regrown (HHB.out.at_ (j:=1) (v:=.slice (some ⟨Um,Uj,none⟩) (r+1) fkc) rfl);have r2:=cell_regrown (HHB.out.at_ (j:=2) (v:=.int .i64 kI) rfl);have r3:=cell_regrown (HHB.out.at_ (j:=3) (v:=.string SB) rfl);have rH:=cell_regrown (show wB.cell? ⟨0,25,none⟩=some (.string ⟨([102,110,32]:List UInt8).toArray⟩)from Zc (Y0 HEB.out.ee.tabs.heads HEB.out.ee.below) (Ac 25 (by decide)));have Qqr: ∀d os,Calls prog 19 #[.slice (some ⟨nb,no,none⟩) (p+1) c,.slice (some ⟨Um,Uj,none⟩) r fkc] (Sort.grow (redrawn wB d) os) λe w''=>e= .returned (.string PB)/\ ∃q:Regrown,w''=Sort.grow (redrawn wB q.d) q.os:=λd os=>Calls.regrown_of (HPC.out _ _ (HEB.out.ee.since (below_regrown wB d os)));have Qp5: ∀d os,Calls prog 20 #[.int .i64 kI] (Sort.grow (redrawn wB d) os) λe w''=>e= .returned (.string KB)/\ ∃q:Regrown,w''=Sort.grow (redrawn wB q.d) q.os:=λd os=>Calls.regrown_of (Z7.out _ _ (HEB.out.ee.since (below_regrown wB d os)));refine Wk2 21 (by kernel_rfl) (by kernel_rfl) ?_;simp only [List.take_succ_cons,List.take_zero,List.drop_succ_cons,List.drop_zero]
    repeat (any_goals (first |go_big_quiet_step (first |exact Qqr _ _ |exact Qp5 _ _) |quiet_step (first |exact Qqr _ _ |exact Qp5 _ _)))
    refine wpQuiet_nil ?_;intro w' hw';obtain ⟨⟨dq,osq⟩,hw''⟩:=hw';obtain ⟨wC,hwC⟩:=Qb (Sort.grow (redrawn wB dq) osq);have HBC:Hid (Below wB.heap.size wB wC):=(by rw [hwC];exact below_regrown wB dq osq);rw [hw'',<-hwC];clear hw'' hwC r0 r1 r2 r3 rH Qqr Qp5;have HEC:=Qa (HEB.out.since HBC.out);have HHC:=Qa (HHB.out.since HBC.out);have Wis:Hid (Qi w1.heap.size ob w3 wC):=Whz.out.trans (.of HEB.out.ee.bd.size HBC.out);go_wp2_with fail;refine (Bn _ ([102,110,32]++s++[40]++Fj true ps++[41,32]++Xh kd++[32]) (by simp [HBY.out.1,HBY.out.2.1,HBY.out.2.2]) HEC.out.ee.bd (by have h1:=HLEN.out;have h2:=Z9.out;rw [HFN.out,Qo.out]at h2;simp only [Qf,Qp,Q8]at h2 ⊢;omega)).mono ?_;rintro e wD ⟨rfl,heD,hkD⟩;have Ak:=Qa (HEC.out.keep hkD heD);have Vx:Hid (Qi w1.heap.size ob w3 wD):=Wis.out.trans hkD;have Ui:=Qa (hkD.held HHC.out Q5.out (by decide));clear heD hkD;have c1:=Ui.out.at_ (j:=1) (v:=.slice (some ⟨Um,Uj,none⟩) (r+1) fkc) rfl;have cu:=HKU.out _ wD Ak.out.ee;have hri:(r:Int)<(r:Int)+1:=(by omega);go_wp2_with fail;refine (Df.out _ _ Ak.out (by have h1:=HLEN.out;have h2:=Z9.out;rw [HFN.out,Qo.out]at h2;simp only [Qf,Qp,Q8]at h2 ⊢;omega)).mono ?_;rintro e wE ⟨rfl,heE,hkE⟩;have Q4f:=Qa heE;have HKE:Hid (Qi w1.heap.size ob w3 wE):=Vx.out.trans hkE;clear heE hkE c1 cu;go_wp2_with fail;refine (Zw [10] Q4f.out.ee.bd (by have h1:=HLEN.out;have h2:=Z9.out;rw [HFN.out,Qo.out]at h2;simp only [Qf,Qp,Q8]at h2 ⊢;omega)).mono ?_;rintro e wF ⟨rfl,heF,hkF⟩;have HEF:=Qa (Q4f.out.keep hkF heF);have Wex:Hid (Qi w1.heap.size ob w3 wF):=HKE.out.trans hkF;clear heF hkF;have Iz:Hid (D8 ⟨⟨w1,some ⟨nb,no,none⟩,l,p+1,c,ob,Ho,Ih,G6,Gw⟩,lb,xb,sb,eb⟩ (Xv (fs.take (j+1))) wF):=by have h9:=HEF.out;show D8 _ _ _;rw [HFN.out,Qo.out];simp only [Qy]at h9 ⊢;exact h9
    go_wp2_with fail;go_roundw
    case rel=>exact ⟨j+1,by omega,by go_num,Iz,Wex⟩
    case measure=>simp [intOf];omega
   ·have HJ:Hid (fs.take j=fs):=(by show _=_;rw [F6 (by rw [Uc.out];omega)]);rw [HJ.out]at HEr;have Xz:Hid (Below w.heap.size w wr):=HB1.out.trans ((Yj.out.trans HKr.out.below).mono HB1.out.size);go_wp2_with fail;refine (Tryz.Builder_String_any_k w1.heap.size ob (Xv fs) wr HEr.out.ee.bd HEr.out.ee.bd.size).mono ?_;rintro e w6 ⟨rfl,_,hb6,_⟩;have Br:Hid (Below w.heap.size w w6):=Xz.out.trans (hb6.mono HB1.out.size);clear hb6;go_wp2_with fail;exact bodyPost_ret (v:=.tuple #[.string ⟨(Xv fs).toArray⟩,.bool true]) (by simp [results,results8,go_sem]) rfl ⟨Br.out,.inl ⟨HWH.out,fs,by rw [HPE.out];exact HXR.out,rfl⟩⟩
def Jk (kb:Nat):List Nd:=[⟨4,none,0,[],0,⟨#[97]⟩,0⟩,⟨1,none,0,[],1,⟨#[]⟩,0⟩,⟨5,some ⟨kb,0,none⟩,2,[0,1],9,⟨#[]⟩,0⟩,⟨4,none,0,[],0,⟨#[98]⟩,0⟩,⟨6,some ⟨kb+1,0,none⟩,1,[3],0,⟨#[]⟩,0⟩,⟨5,some ⟨kb+1+1,0,none⟩,2,[2,4],13,⟨#[]⟩,0⟩]
theorem Wjv (kb:Nat):Ahead (Jk kb):=by
 intro i hi k hk
 match i,hi with
 | 0,_=>exact absurd hk (by show k ∉ [];simp)
 | 1,_=>exact absurd hk (by show k ∉ [];simp)
 | 2,_=>
  have hk':k∈[(0:Int),1]:=hk;simp at hk';omega
 | 3,_=>exact absurd hk (by show k ∉ [];simp)
 | 4,_=>
  have hk':k∈[(3:Int)]:=hk;simp at hk';omega
 | 5,_=>
  have hk':k∈[(2:Int),4]:=hk;simp at hk';omega
theorem Wdw (kb:Nat):Hw (Jk kb):=by
 have e:Jc (Jk kb) (Jk kb).length=[0,1,3,2,4]:=rfl;refine ⟨by show 0<6;omega,Wjv kb,?_,?_⟩
 ·rw [e];decide
 ·rw [e];rfl
theorem Wdm (kb:Nat):Fits (Jk kb):=by
 intro i hi
 match i,hi with
 | 0,_=>show J7 (Jk kb) (nd (Jk kb) 0)=true;kernel_rfl
 | 1,_=>show J7 (Jk kb) (nd (Jk kb) 1)=true;kernel_rfl
 | 2,_=>show J7 (Jk kb) (nd (Jk kb) 2)=true;kernel_rfl
 | 3,_=>show J7 (Jk kb) (nd (Jk kb) 3)=true;kernel_rfl
 | 4,_=>show J7 (Jk kb) (nd (Jk kb) 4)=true;kernel_rfl
 | 5,_=>show J7 (Jk kb) (nd (Jk kb) 5)=true;kernel_rfl
theorem Wli (kb:Nat):hgt (Jk kb) 5=3:=by kernel_rfl
theorem Wll (kb:Nat):Rt (Jk kb):=⟨Wdw kb,Wdm kb,by show hgt (Jk kb) 5<=200;rw [Wli kb];omega⟩
theorem Q6z (kb:Nat): ∀j,j<(Jk kb).length->(nd (Jk kb) j).n<=9223372036854775807:=by
 intro j hj
 match j,hj with
 | 0,_=>show (0:Int)<=_;omega
 | 1,_=>show (1:Int)<=_;omega
 | 2,_=>show (9:Int)<=_;omega
 | 3,_=>show (0:Int)<=_;omega
 | 4,_=>show (0:Int)<=_;omega
 | 5,_=>show (13:Int)<=_;omega
theorem Wc3:Lib.itoa ((1:Nat):Int)=[49]:=by unfold Lib.itoa;rw [Qd (by omega)];exact Lib.decDigits_one (by decide)
theorem Q80 (kb:Nat) {x:Ex} (h:XE (Jk kb) ((5:Nat):Int) x):x.txt=[40,97,32,43,32,49,41,32,42,32,45,98]:=by
 have h1:Yb (Jk kb) 5= .ex (.bin 13 (.bin 9 (.var [97]) (.num 1)) (.neg (.var [98]))):=by kernel_rfl
 have h2:Yb (Jk kb) 5= .ex x:=h.r;rw [h1]at h2;injection h2 with h2
 rw [<-h2];simp only [Ex.txt,Wc3];rfl
def Qku (B:Nat):Array Value:= #[.int .i64 4,.slice none 0 0,.int .i64 0,.string ⟨#[97]⟩,.int .i64 0,.int .i64 1,.slice none 0 0,.int .i64 1,.string ⟨#[]⟩,.int .i64 0,.int .i64 5,.slice (some ⟨B,0,none⟩) 2 2,.int .i64 9,.string ⟨#[]⟩,.int .i64 0,.int .i64 4,.slice none 0 0,.int .i64 0,.string ⟨#[98]⟩,.int .i64 0,.int .i64 6,.slice (some ⟨B+1,0,none⟩) 1 1,.int .i64 0,.string ⟨#[]⟩,.int .i64 0,.int .i64 5,.slice (some ⟨B+1+1,0,none⟩) 2 2,.int .i64 13,.string ⟨#[]⟩,.int .i64 0]
theorem Ql6 (w:World) (hP:Ir w):
  Calls prog 7 #[] w λe w'=>e= .returned (.bool true)/\Below w.heap.size w w':=by
 have HP:=Qa hP;clear hP;go_enter func7,ntmps7;rw [Qz 2];go_wp2_with fail;obtain ⟨B,hB⟩:=Qb w.heap.size;rw [<-hB];obtain ⟨w1,hw1⟩:=Qb ((((w.alloc (.cells #[.int .i64 0,.int .i64 1] 3)).alloc (.cells #[.int .i64 3] 3)).alloc (.cells #[.int .i64 2,.int .i64 4] 3)).alloc (.cells (Qku B) 37));have HH0:Hid (Held w1 B 3 #[.int .i64 0,.int .i64 1]):=by rw [hw1,hB];exact (((Held.new w _ _).alloc _).alloc _).alloc _
 have Wo:Hid (Held w1 (B+1) 3 #[.int .i64 3]):=by
  have h:=((Held.new (w.alloc (.cells #[.int .i64 0,.int .i64 1] 3)) 3 #[.int .i64 3]).alloc (.cells #[.int .i64 2,.int .i64 4] 3)).alloc (.cells (Qku B) 37);have e:(w.alloc (.cells #[.int .i64 0,.int .i64 1] 3)).heap.size=B+1:=by rw [hB];simp
  rw [e]at h;rw [hw1];exact h
 have Q7:Hid (Held w1 (B+1+1) 3 #[.int .i64 2,.int .i64 4]):=by
  have h:=(Held.new ((w.alloc (.cells #[.int .i64 0,.int .i64 1] 3)).alloc (.cells #[.int .i64 3] 3)) 3 #[.int .i64 2,.int .i64 4]).alloc (.cells (Qku B) 37);have e:((w.alloc (.cells #[.int .i64 0,.int .i64 1] 3)).alloc (.cells #[.int .i64 3] 3)).heap.size=B+1+1:=by rw [hB];simp
  rw [e]at h;rw [hw1];exact h
 have Q9:Hid (Held w1 (B+1+1+1) 37 (Qku B)):=by
  have h:=Held.new (((w.alloc (.cells #[.int .i64 0,.int .i64 1] 3)).alloc (.cells #[.int .i64 3] 3)).alloc (.cells #[.int .i64 2,.int .i64 4] 3)) 37 (Qku B);have e:(((w.alloc (.cells #[.int .i64 0,.int .i64 1] 3)).alloc (.cells #[.int .i64 3] 3)).alloc (.cells #[.int .i64 2,.int .i64 4] 3)).heap.size=B+1+1+1:=by rw [hB];simp
  rw [e]at h;rw [hw1];exact h
 have HB1:Hid (Below w.heap.size w w1):=by rw [hw1];exact ((Qag.alloc (by simp) _).alloc (by simp;omega) _).alloc (by simp;omega) _
 rw [show (((w.alloc (.cells #[.int .i64 0,.int .i64 1] 3)).alloc (.cells #[.int .i64 3] 3)).alloc (.cells #[.int .i64 2,.int .i64 4] 3)).alloc (.cells #[.int .i64 4,.slice none 0 0,.int .i64 0,.string ⟨#[97]⟩,.int .i64 0,.int .i64 1,.slice none 0 0,.int .i64 1,.string ⟨#[]⟩,.int .i64 0,.int .i64 5,.slice (some ⟨B,0,none⟩) 2 2,.int .i64 9,.string ⟨#[]⟩,.int .i64 0,.int .i64 4,.slice none 0 0,.int .i64 0,.string ⟨#[98]⟩,.int .i64 0,.int .i64 6,.slice (some ⟨B+1,0,none⟩) 1 1,.int .i64 0,.string ⟨#[]⟩,.int .i64 0,.int .i64 5,.slice (some ⟨B+1+1,0,none⟩) 2 2,.int .i64 13,.string ⟨#[]⟩,.int .i64 0] 37)=w1 from hw1.symm];have HN:Hid (Nodes w1 (some ⟨B+1+1+1,0,none⟩) (Jk B)):=by
  refine ⟨λ_=>⟨B+1+1+1,0,rfl,Q9.out.lt,λj hj=> ?_⟩,λj hj=> ?_⟩
  ·match j,hj with
   | 0,_=>exact ⟨Q9.out.at_ rfl,Q9.out.at_ rfl,Q9.out.at_ rfl,Q9.out.at_ rfl,Q9.out.at_ rfl⟩
   | 1,_=>exact ⟨Q9.out.at_ rfl,Q9.out.at_ rfl,Q9.out.at_ rfl,Q9.out.at_ rfl,Q9.out.at_ rfl⟩
   | 2,_=>exact ⟨Q9.out.at_ rfl,Q9.out.at_ rfl,Q9.out.at_ rfl,Q9.out.at_ rfl,Q9.out.at_ rfl⟩
   | 3,_=>exact ⟨Q9.out.at_ rfl,Q9.out.at_ rfl,Q9.out.at_ rfl,Q9.out.at_ rfl,Q9.out.at_ rfl⟩
   | 4,_=>exact ⟨Q9.out.at_ rfl,Q9.out.at_ rfl,Q9.out.at_ rfl,Q9.out.at_ rfl,Q9.out.at_ rfl⟩
   | 5,_=>exact ⟨Q9.out.at_ rfl,Q9.out.at_ rfl,Q9.out.at_ rfl,Q9.out.at_ rfl,Q9.out.at_ rfl⟩
  ·match j,hj with
   | 0,_=>exact ⟨λh=>absurd h (by show¬0<0;omega),by show 0<=0;omega,λ_=>rfl,by show 0<=_;omega,by show _<=(0:Int);omega,by show (0:Int)<=_;omega,by show 1<=_;omega⟩
   | 1,_=>exact ⟨λh=>absurd h (by show¬0<0;omega),by show 0<=0;omega,λ_=>rfl,by show 0<=_;omega,by show _<=(1:Int);omega,by show (1:Int)<=_;omega,by show 0<=_;omega⟩
   | 2,_=>
    refine ⟨λ_=>⟨B,0,rfl,HH0.out.lt,λk hk=> ?_⟩,by show 2<=2;omega,(λh=>by cases h),by show 2<=_;omega,by show _<=(9:Int);omega,by show (9:Int)<=_;omega,by show 0<=_;omega⟩
    match k,hk with
    | 0,_=>exact HH0.out.at_ rfl
    | 1,_=>exact HH0.out.at_ rfl
   | 3,_=>exact ⟨λh=>absurd h (by show¬0<0;omega),by show 0<=0;omega,λ_=>rfl,by show 0<=_;omega,by show _<=(0:Int);omega,by show (0:Int)<=_;omega,by show 1<=_;omega⟩
   | 4,_=>
    refine ⟨λ_=>⟨B+1,0,rfl,Wo.out.lt,λk hk=> ?_⟩,by show 1<=1;omega,(λh=>by cases h),by show 1<=_;omega,by show _<=(0:Int);omega,by show (0:Int)<=_;omega,by show 0<=_;omega⟩
    match k,hk with
    | 0,_=>exact Wo.out.at_ rfl
   | 5,_=>
    refine ⟨λ_=>⟨B+1+1,0,rfl,Q7.out.lt,λk hk=> ?_⟩,by show 2<=2;omega,(λh=>by cases h),by show 2<=_;omega,by show _<=(13:Int);omega,by show (13:Int)<=_;omega,by show 0<=_;omega⟩
    match k,hk with
    | 0,_=>exact Q7.out.at_ rfl
    | 1,_=>exact Q7.out.at_ rfl
 have HP1:=Qa (HP.out.below HB1.out);obtain ⟨C,hC⟩:=Qb (B+1+1+1);obtain ⟨D,hD⟩:=Qb (B+1+1);rw [<-hC]at HN Q9 ⊢;have Wv:=Qa hD;clear hw1 hB hC HH0 Wo Q7;rw [<-hD];clear hD;have A8:=Qa (Wkz (some ⟨C,0,none⟩) 6 6 (Jk B) w1 rfl (by decide) (by decide) HN.out HP1.out (Q6z B));refine Qn ?_;go_wp2_with fail;refine A8.out.mono ?_;rintro e w2 ⟨hb2,hcase⟩;obtain ⟨X,hX⟩:=Qb (⟨#[40,97,32,43,32,49,41,32,42,32,45,98]⟩:ByteArray);have Tp:(X.toList==[40,97,32,43,32,49,41,32,42,32,45,98])=true:=by rw [hX,ByteArray.toList_eq];rfl
 have he:e= .returned (.tuple #[.string X,.bool true]):=by
  rcases hcase with ⟨_,_,x,hX',h⟩ |⟨h,_⟩
  ·rw [h,Q80 B hX',hX]
  ·exact absurd ⟨Wll B,by kernel_rfl⟩ h
 subst he;have HN2:=Qa (HN.out.below hb2);have Gl:=Qa (HP1.out.below hb2);have HB2:Hid (Below w.heap.size w w2):=HB1.out.trans (hb2.mono HB1.out.size);have Qo:=Qa (Q19 (some ⟨C,0,none⟩) 6 6 (Jk B) w2 rfl (by decide) (by decide) HN2.out Gl.out (Q6z B));clear hcase hb2 hX;go_wp2_with fail;refine Qo.out.mono ?_;rintro e w3 ⟨hb3,hcase⟩;have he:e= .returned (.tuple #[.string ⟨#[]⟩,.bool false]):=by
  rcases hcase with ⟨h,_⟩ |⟨_,h⟩
  ·exact absurd h.2 (by show¬(5:Int)=26;omega)
  ·exact h
 subst he;have Mv:=Qa (HN2.out.below hb3);have HP3:=Qa (Gl.out.below hb3);have HB3:Hid (Below w.heap.size w w3):=HB2.out.trans (hb3.mono HB2.out.size);have Jb:=Qa (Lm 5 13 (some ⟨D,0,none⟩) 2 2 ⟨#[]⟩ 0 w3 HP3.out);obtain ⟨nb,no,hx,hlt,d0,d1,d2,d3,d4⟩:=Mv.out.at_ (j:=5) (show 5<6 by omega);injection hx with hx
 injection hx with h1 h2
 subst h1 h2;have c0:w3.cell? ⟨C,25,none⟩=some (.int .i64 5):=d0;have c1:w3.cell? ⟨C,26,none⟩=some (.slice (some ⟨D,0,none⟩) 2 2):=by rw [Wv.out];exact d1
 have c2:w3.cell? ⟨C,27,none⟩=some (.int .i64 13):=d2;have c3:w3.cell? ⟨C,28,none⟩=some (.string ⟨#[]⟩):=d3;have c4:w3.cell? ⟨C,29,none⟩=some (.int .i64 0):=d4;clear hcase hb3 d0 d1 d2 d3 d4 hlt;go_wp2_with fail;refine Jb.out.mono ?_;rintro e w4 ⟨rfl,hb4⟩;have Jf:Hid (Below w.heap.size w w4):=HB3.out.trans (hb4.mono HB3.out.size);have hs5:Jt 5 13=5:=rfl;rw [hs5];clear hb4 c0 c1 c2 c3 c4;go_wp2_with fail;go_ret;exact ⟨rfl,Jf.out⟩
def Qp3 (l:List Nd):Prop:=l.length<=80/\(Jc l l.length).length<=200/\ ∀i,i<l.length->(nd l i).s.size<=40
def Qap (l:List Nd) (w:World) (e:Ending) (w':World):Prop:= ∃b:Bool,e= .returned (.bool b)/\(b=true->Qp3 l)/\w'=w
theorem Qap.no {l:List Nd} {w:World} {e:Ending} (he:e= .returned (.bool false)):Qap l w e w:=⟨false,he,(λh=>by cases h),rfl⟩
theorem Qap.yes {l:List Nd} {w:World} {e:Ending} (he:e= .returned (.bool true)) (h:Qp3 l):Qap l w e w:=⟨true,he,(λ_=>h),rfl⟩
theorem Wr7 (a:Option Addr) (c n:Nat) (l:List Nd) (w:World) (hn:n=l.length) (hN:Nodes w a l) (hb:80<n) (hm:n<=9223372036854775807):
  Calls prog 5 #[.slice a n c] w (Qap l w):=by
 have Zn:=Qa hn;have HN:=Qa hN;clear hn hN;go_enter func5,ntmps5;go_wp2_with fail;go_loop [3,4] (λt3 t4=> ∃(i:Nat) (z:Int),i<=n/\t4= .int .i64 (i:Int)/\t3= .int .i64 z) (λ_ t4=>n-(intOf t4).toNat)
 case atStart=>exact ⟨0,0,by omega,rfl,rfl⟩
 case round=>
  obtain ⟨i,z,hi,rfl,rfl⟩:=hrel;by_cases hin:i<n
  ·have Wiw:(i:Int)<(n:Int):=(by omega);have Xl:Hid (i<l.length):=(by show i<l.length;rw [<-Zn.out];exact hin);obtain ⟨lb,lo,rfl,hlb,h5⟩:=HN.out.at_ Xl.out;have hs:=(HN.out.2 i Xl.out).s;have hk:=(HN.out.2 i Xl.out).len;have c1:=h5.2.1;have c3:=h5.2.2.2.1;obtain ⟨x,hx⟩:=Qb (nd l i);rw [<-hx]at hs hk c1 c3;obtain ⟨m,hm⟩:=Qb x.kids.length;obtain ⟨S,hS⟩:=Qb x.s;rw [<-hm]at hk c1;rw [<-hS]at hs c3;clear hx hm hS h5;by_cases h40:S.size<=40
   ·have Qlk:decide ((40:Int)<(S.size:Int))=false:=(by simp;omega);go_wp2_with fail;go_round
    case rel=>exact ⟨i+1,_,by omega,by go_num,rfl⟩
    case measure=>simp [intOf];omega
   ·have Qlk:decide ((40:Int)<(S.size:Int))=true:=(by simp;omega);go_wp2_with fail;go_ret;exact Qap.no rfl
  ·have h60:decide ((n:Int)<=80)=false:=(by simp;omega);go_wp2_with fail;go_ret;exact Qap.no rfl
theorem Wi3 (a:Option Addr) (c n:Nat) (l:List Nd) (w:World) (hn:n=l.length) (hN:Nodes w a l) (hb:n<=80):
  Calls prog 5 #[.slice a n c] w (Qap l w):=by
 have Zn:=Qa hn;have HN:=Qa hN;clear hn hN;go_enter func5,ntmps5;go_wp2_with fail;go_loop [3,4] (λt3 t4=> ∃(i q:Nat),i<=n/\t4= .int .i64 (i:Int)/\t3= .int .i64 (q:Int)/\q<=i*140737488351232/\Hid (q=(Jc l i).length)/\Hid (∀j,j<i->(nd l j).s.size<=40)) (λ_ t4=>n-(intOf t4).toNat)
 case atStart=>exact ⟨0,0,by omega,rfl,rfl,by omega,(by show _=_;simp [Jc]),λj hj=>by omega⟩
 case round=>
  obtain ⟨i,q,hi,rfl,rfl,hq,HQ,HF⟩:=hrel;by_cases hin:i<n
  ·have Wiw:(i:Int)<(n:Int):=(by omega);have Xl:Hid (i<l.length):=(by show i<l.length;rw [<-Zn.out];exact hin);obtain ⟨lb,lo,rfl,hlb,h5⟩:=HN.out.at_ Xl.out;have hs:=(HN.out.2 i Xl.out).s;have hk:=(HN.out.2 i Xl.out).len;have c1:=h5.2.1;have c3:=h5.2.2.2.1;have Yi:=Qa (Qf0 Xl.out);have Qj5:Hid ((Jc l (i+1)).length=(Jc l i).length+(nd l i).kids.length):=(by show _=_;rw [Yi.out,Qf]);obtain ⟨x,hx⟩:=Qb (nd l i);have HX:=Qa hx;rw [<-hx]at hs hk c1 c3 Qj5;obtain ⟨m,hm⟩:=Qb x.kids.length;obtain ⟨S,hS⟩:=Qb x.s;rw [<-hm]at hk c1 Qj5;rw [<-hS]at hs c3;have HS:Hid (S=(nd l i).s):=(by show _=_;rw [hS,hx]);clear hx hm hS h5 Yi;by_cases h40:S.size<=40
   ·have Qlk:decide ((40:Int)<(S.size:Int))=false:=(by simp;omega);go_wp2_with fail;go_round
    case rel=>
     refine ⟨i+1,q+m,by omega,by go_num,by go_num,by omega,(by show _=_;rw [Qj5.out,HQ.out]),λj hj=> ?_⟩;rcases V7 j i with g |g
     ·exact HF.out j g
     ·rw [show j=i by omega,<-HS.out];exact h40
    case measure=>simp [intOf];omega
   ·have Qlk:decide ((40:Int)<(S.size:Int))=true:=(by simp;omega);go_wp2_with fail;go_ret;exact Qap.no rfl
  ·obtain rfl:i=n:=(by omega);have h60:decide ((i:Int)<=80)=true:=(by simp;omega);by_cases Qco:q<=200
   ·have Wl0:decide ((q:Int)<=200)=true:=(by simp;omega);go_wp2_with fail;go_ret;exact Qap.yes (by first |rfl |simp [Qco]) ⟨by rw [<-Zn.out];exact hb,by rw [<-Zn.out,<-HQ.out];exact Qco,λj hj=>HF.out j (by rw [Zn.out];exact hj)⟩
   ·have Wl0:decide ((q:Int)<=200)=false:=(by simp;omega);go_wp2_with fail;go_ret;exact Qap.no (by first |rfl |simp [Qco])
theorem Q4c (a:Option Addr) (c n:Nat) (l:List Nd) (w:World) (hn:n=l.length) (hN:Nodes w a l) (hm:n<=9223372036854775807):
  Calls prog 5 #[.slice a n c] w (Qap l w):=by
 rcases V7 80 n with h |h
 ·exact Wr7 a c n l w hn hN h hm
 ·exact Wi3 a c n l w hn hN h
end
section
def Zf (x:Nd):Nd:=⟨x.kind,none,0,x.kids,x.n,x.s,0⟩
def Seg (l:List Nd) (b:Nat) (X:List Nd):Prop:= ∃pre post,l.map Zf=pre++(X.map Zf++post)/\pre.length=b
variable {l:List Nd}{b:Nat}
theorem Seg.left {X Y:List Nd} (h:Seg l b (X++Y)):Seg l b X:=by obtain ⟨p,q,e,hp⟩:=h;exact ⟨p,Y.map Zf++q,by rw [e,Zp,Qy],hp⟩
theorem Seg.right {X Y:List Nd} (h:Seg l b (X++Y)):Seg l (b+X.length) Y:=by obtain ⟨p,q,e,hp⟩:=h;exact ⟨p++X.map Zf,q,by rw [e,Zp,Qy,Qy],by rw [Qf,Zr,hp]⟩
theorem Seg.at_ (hA:Ahead l) {K n:Int} {s:List UInt8} {ks:List Int} (h:Seg l b [En K ks n ⟨s.toArray⟩ 0]):Qv l b K n s ks:=by
 obtain ⟨p,q,e,hp⟩:=h;have h1:(l.map Zf)[b]? =some (En K ks n ⟨s.toArray⟩ 0):=by rw [e,Ht (by omega),show b-p.length=0 by omega];rfl
 rw [Ng]at h1;cases hx:l[b]? with
 |none=>rw [hx]at h1;cases h1
 |some x=>
  rw [hx]at h1;have h2:Zf x=En K ks n ⟨s.toArray⟩ 0:=Option.some.inj h1;have hn:nd l b=x:=by unfold nd;rw [Yc,hx];rfl
  obtain ⟨hb,_⟩:=List.getElem?_eq_some_iff.1 hx;refine ⟨hA,hb,?_,?_,?_,?_⟩
  ·rw [hn];exact congrArg Nd.kind h2
  ·rw [hn];exact congrArg Nd.n h2
  ·rw [hn];exact congrArg Nd.t h2
  ·rw [hn];exact congrArg Nd.kids h2
theorem Qnc {i j:Nat} {K n:Int} {s:List UInt8} {ks:List Int} (h:Qv l i K n s ks) (e:i=j):Qv l j K n s ks:=e▸h
theorem Qoj (hA:Ahead l) {a:Ex} {K n:Int} (h:Seg l b (a.out b++[En K [((b+a.size-1:Nat):Int)] n ⟨#[]⟩ 0])):Seg l b (a.out b)/\Qv l (b+(a.size+1)-1) K n [] [((b+a.size-1:Nat):Int)]:=
 ⟨h.left,Qnc (Seg.at_ (s:=[]) hA h.right) (by rw [Kh];omega)⟩
theorem Q60 (hA:Ahead l) {a c:Ex} {K n:Int} (h:Seg l b (a.out b++c.out (b+a.size)++[En K [((b+a.size-1:Nat):Int),((b+a.size+c.size-1:Nat):Int)] n ⟨#[]⟩ 0])):Seg l b (a.out b)/\Seg l (b+a.size) (c.out (b+a.size))/\Qv l (b+(a.size+c.size+1)-1) K n [] [((b+a.size-1:Nat):Int),((b+a.size+c.size-1:Nat):Int)]:=by have h2:=h.left.right;rw [Kh]at h2;exact ⟨h.left.left,h2,Qnc (Seg.at_ (s:=[]) hA h.right) (by rw [Qf,Kh,Kh];omega)⟩
mutual
theorem Dj (hA:Ahead l): ∀(e:Ex) (b:Nat),Seg l b (e.out b)->Yb l (b+e.size-1)= .ex e
 | .num n,b,h=>by rw [Ex.out]at h;exact (Seg.at_ (s:=[]) hA h).Yb
 | .bool c,b,h=>by rw [Ex.out]at h;have:=(Seg.at_ (s:=[]) hA h).Yb;cases c<;>exact this
 | .nil,b,h=>by rw [Ex.out]at h;exact (Seg.at_ (s:=[]) hA h).Yb
 | .var s,b,h=>by rw [Ex.out]at h;exact (Seg.at_ hA h).Yb
 | .bin op a c,b,h=>by rw [Ex.out]at h;obtain ⟨h1,h2,h3⟩:=Q60 hA h;have e1:=Dj hA a b h1;have e2:=Dj hA c (b+a.size) h2;rw [Ex.size,h3.Yb,Y6,Y6,Vi,Ja,Ja,e1,e2];rfl
 | .neg a,b,h=>by rw [Ex.out]at h;obtain ⟨h1,h3⟩:=Qoj hA h;have e1:=Dj hA a b h1;rw [Ex.size,h3.Yb,Y6,Vi,Ja,e1];rfl
 | .not a,b,h=>by rw [Ex.out]at h;obtain ⟨h1,h3⟩:=Qoj hA h;have e1:=Dj hA a b h1;rw [Ex.size,h3.Yb,Y6,Vi,Ja,e1];rfl
 | .index a c,b,h=>by rw [Ex.out]at h;obtain ⟨h1,h2,h3⟩:=Q60 hA h;have e1:=Dj hA a b h1;have e2:=Dj hA c (b+a.size) h2;rw [Ex.size,h3.Yb,Y6,Y6,Vi,Ja,Ja,e1,e2];rfl
 | .len a,b,h=>by rw [Ex.out]at h;obtain ⟨h1,h3⟩:=Qoj hA h;have e1:=Dj hA a b h1;rw [Ex.size,h3.Yb,Y6,Vi,Ja,e1];rfl
 | .new a,b,h=>by rw [Ex.out]at h;obtain ⟨h1,h3⟩:=Qoj hA h;have e1:=Dj hA a b h1;rw [Ex.size,h3.Yb,Y6,Vi,Ja,e1];rfl
 | .call s xs,b,h=>by rw [Ex.out]at h;have e1:=Q76 hA xs b h.left;have h3:=Qnc (Seg.at_ hA h.right) (show b+(outs xs b).length=b+(sizes xs+1)-1 by rw [Qgl];omega);rw [Ex.size,h3.Yb,e1];show Yf.ex (.call s ((xs.map Yf.ex).map Yf.e))=_;rw [Ea];congr 2;exact List.map_id' xs
theorem Q76 (hA:Ahead l): ∀(xs:List Ex) (b:Nat),Seg l b (outs xs b)->(roots xs b).map (λk=>Yb l k.toNat)=xs.map Yf.ex
 | [],b,h=>by rw [roots];rfl
 |a::xs,b,h=>by rw [outs]at h;have h2:=h.right;rw [Kh]at h2;rw [roots,Y6,Y6,Q76 hA xs _ h2,Ja,Dj hA a b h.left]
end
theorem Ij (hA:Ahead l) {K n:Int} {s:List UInt8} {ps:List Part} (hf:X8 ps) (h:Seg l b ((node K n s ps).out b)):Qv l (b+Zg ps) K n s (Xn ps b)/\Seg l b (Xy ps b):=by have h:Seg l b (Xy ps b++[En K (Xn ps b) n ⟨s.toArray⟩ 0]):=h;exact ⟨Qnc (Seg.at_ hA h.right) (by rw [Uh ps b hf]),h.left⟩
theorem Dk {p:Part} {ps:List Part} (hf:p.Ba) (h:Seg l b (Xy (p::ps) b)):Seg l b (p.out b)/\Seg l (b+p.size) (Xy ps (b+p.size)):=by have h:Seg l b (p.out b++Xy ps (b+p.size)):=h;have h2:=h.right;rw [hf.len]at h2;exact ⟨h.left,h2⟩
theorem Ri {p:Part} {r:Yf} (h:Yb l (b+p.size-1)=r):(Xn [p] b).map (λk=>Yb l k.toNat)=[r]:=by show [Yb l (((b+p.size-1:Nat):Int)).toNat]=[r];rw [Ja,h]
theorem rpc {p:Part} {ps:List Part} {r:Yf} {rs:List Yf} (h:Yb l (b+p.size-1)=r) (g:(Xn ps (b+p.size)).map (λk=>Yb l k.toNat)=rs):(Xn (p::ps) b).map (λk=>Yb l k.toNat)=r::rs:=by show Yb l (((b+p.size-1:Nat):Int)).toNat::(Xn ps (b+p.size)).map (λk=>Yb l k.toNat)=_;rw [Ja,h,g]
theorem Qfm (hA:Ahead l) {c:List St} {b:Nat} (H: ∀b,Seg l b (Xy (Zl c) b)->(Xn (Zl c) b).map (λk=>Yb l k.toNat)=c.map Yf.st) (h:Seg l b ((X6 c).out b)):Yb l (b+(X6 c).size-1)= .blk c:=by obtain ⟨h1,h2⟩:=Ij hA (Uy c) h;show Yb l (b+Zg (Zl c))=_;rw [h1.Yb,H b h2];show Yf.blk ((c.map Yf.st).map Yf.s)=_;rw [Ea];congr 1;exact List.map_id' c
mutual
theorem Wdt (hA:Ahead l): ∀(a:St) (b:Nat),Seg l b (a.part.out b)->Yb l (b+a.part.size-1)= .st a
 | .let_ s e,b,h=>by rw [St.part]at h ⊢;obtain ⟨h1,h2⟩:=Ij hA (.cons (Ww e) .nil) h;obtain ⟨h3,_⟩:=Dk (Ww e) h2;exact h1.Yb.trans (by rw [Ri (Dj hA e b h3)];rfl)
 | .set s e,b,h=>by rw [St.part]at h ⊢;obtain ⟨h1,h2⟩:=Ij hA (.cons (Ww e) .nil) h;obtain ⟨h3,_⟩:=Dk (Ww e) h2;exact h1.Yb.trans (by rw [Ri (Dj hA e b h3)];rfl)
 | .put s i e,b,h=>by rw [St.part]at h ⊢;obtain ⟨h1,h2⟩:=Ij hA (.cons (Ww i) (.cons (Ww e) .nil)) h;obtain ⟨h3,h4⟩:=Dk (Ww i) h2;obtain ⟨h5,_⟩:=Dk (Ww e) h4;exact h1.Yb.trans (by rw [rpc (Dj hA i b h3) (Ri (Dj hA e _ h5))];rfl)
 | .if_ e c,b,h=>by rw [St.part]at h ⊢;obtain ⟨h1,h2⟩:=Ij hA (.cons (Ww e) (.cons (J8 c) .nil)) h;obtain ⟨h3,h4⟩:=Dk (Ww e) h2;obtain ⟨h5,_⟩:=Dk (J8 c) h4;exact h1.Yb.trans (by rw [rpc (Dj hA e b h3) (Ri (Qfm hA (Qc7 hA c) h5))];rfl)
 | .Cz e c f,b,h=>by rw [St.part]at h ⊢;obtain ⟨h1,h2⟩:=Ij hA (.cons (Ww e) (.cons (J8 c) (.cons (J8 f) .nil))) h;obtain ⟨h3,h4⟩:=Dk (Ww e) h2;obtain ⟨h5,h6⟩:=Dk (J8 c) h4;obtain ⟨h7,_⟩:=Dk (J8 f) h6;exact h1.Yb.trans (by rw [rpc (Dj hA e b h3) (rpc (Qfm hA (Qc7 hA c) h5) (Ri (Qfm hA (Qc7 hA f) h7)))];rfl)
 | .Kl e c,b,h=>by rw [St.part]at h ⊢;obtain ⟨h1,h2⟩:=Ij hA (.cons (Ww e) (.cons (J8 c) .nil)) h;obtain ⟨h3,h4⟩:=Dk (Ww e) h2;obtain ⟨h5,_⟩:=Dk (J8 c) h4;exact h1.Yb.trans (by rw [rpc (Dj hA e b h3) (Ri (Qfm hA (Qc7 hA c) h5))];rfl)
 | .for_ s e f c,b,h=>by rw [St.part]at h ⊢;obtain ⟨h1,h2⟩:=Ij hA (.cons (Ww e) (.cons (Ww f) (.cons (J8 c) .nil))) h;obtain ⟨h3,h4⟩:=Dk (Ww e) h2;obtain ⟨h5,h6⟩:=Dk (Ww f) h4;obtain ⟨h7,_⟩:=Dk (J8 c) h6;exact h1.Yb.trans (by rw [rpc (Dj hA e b h3) (rpc (Dj hA f _ h5) (Ri (Qfm hA (Qc7 hA c) h7)))];rfl)
 | .brk,b,h=>by rw [St.part]at h ⊢;obtain ⟨h1,h2⟩:=Ij hA .nil h;exact h1.Yb
 | .cont,b,h=>by rw [St.part]at h ⊢;obtain ⟨h1,h2⟩:=Ij hA .nil h;exact h1.Yb
 | .ret e,b,h=>by rw [St.part]at h ⊢;obtain ⟨h1,h2⟩:=Ij hA (.cons (Ww e) .nil) h;obtain ⟨h3,_⟩:=Dk (Ww e) h2;exact h1.Yb.trans (by rw [Ri (Dj hA e b h3)];rfl)
 | .print e,b,h=>by rw [St.part]at h ⊢;obtain ⟨h1,h2⟩:=Ij hA (.cons (Ww e) .nil) h;obtain ⟨h3,_⟩:=Dk (Ww e) h2;exact h1.Yb.trans (by rw [Ri (Dj hA e b h3)];rfl)
 | .do_ s xs,b,h=>by rw [St.part]at h ⊢;obtain ⟨h1,h2⟩:=Ij hA (.cons (Ww (.call s xs)) .nil) h;obtain ⟨h3,_⟩:=Dk (Ww (.call s xs)) h2;exact h1.Yb.trans (by rw [Ri (Dj hA (.call s xs) b h3)];rfl)
theorem Qc7 (hA:Ahead l): ∀(c:List St) (b:Nat),Seg l b (Xy (Zl c) b)->(Xn (Zl c) b).map (λk=>Yb l k.toNat)=c.map Yf.st
 | [],b,h=>by rw [Zl];rfl
 |a::c,b,h=>by rw [Zl]at h ⊢;obtain ⟨h1,h2⟩:=Dk (Qtq a) h;exact rpc (Wdt hA a b h1) (Qc7 hA c _ h2)
end
theorem Wmn (hA:Ahead l) {c:List St} {b:Nat} (h:Seg l b ((X6 c).out b)):Yb l (b+(X6 c).size-1)= .blk c:=Qfm hA (Qc7 hA c) h
theorem Wlb (hA:Ahead l) {p:List UInt8×Nat} {b:Nat} (h:Seg l b ((Zb p).out b)):Yb l (b+(Zb p).size-1)= .par p:=by obtain ⟨h1,h2⟩:=Ij hA .nil h;exact h1.Yb
theorem Q5s (hA:Ahead l) {c:List St}: ∀(ps:List (List UInt8×Nat)) (b:Nat),Seg l b (Xy (ps.map Zb++[X6 c]) b)->(Xn (ps.map Zb++[X6 c]) b).map (λk=>Yb l k.toNat)=ps.map Yf.par++[.blk c]
 | [],b,h=>by obtain ⟨h1,_⟩:=Dk (J8 c) h;exact Ri (Wmn hA h1)
 |p::ps,b,h=>by obtain ⟨h1,h2⟩:=Dk (Qru p) h;exact rpc (Wlb hA h1) (Q5s hA ps _ h2)
theorem Wju (s:List UInt8) (n:Nat) (ps:List (List UInt8×Nat)) (c:List St):Qia 25 (n:Int) s (ps.map Yf.par++[.blk c])= .fn ⟨s,ps,n,c⟩:=by
 show Yf.fn ⟨s,(ps.map Yf.par++[Yf.blk c]).dropLast.map Yf.p,n,(Vr (ps.map Yf.par++[Yf.blk c]) ((ps.map Yf.par++[Yf.blk c]).length-1)).b⟩=_;rw [List.dropLast_concat,Ea];have e1:ps.map (Yf.p∘Yf.par)=ps:=List.map_id' ps;have e2:Vr (ps.map Yf.par++[Yf.blk c]) ((ps.map Yf.par++[Yf.blk c]).length-1)= .blk c:=by unfold Vr;rw [Yc,Ht (by rw [Qf];simp)];simp
 rw [e1,e2];rfl
theorem Wrj (hA:Ahead l) {f:Wm} {b:Nat} (h:Seg l b (f.part.out b)):Yb l (b+f.part.size-1)= .fn f:=by obtain ⟨h1,h2⟩:=Ij hA (Qqe f) h;exact h1.Yb.trans ((congrArg _ (Q5s hA f.ps b h2)).trans (Wju f.name f.k f.ps f.body))
theorem Qxu (hA:Ahead l): ∀(fs:List Wm) (b:Nat),Seg l b (Xy (fs.map Wm.part) b)->(Xn (fs.map Wm.part) b).map (λk=>Yb l k.toNat)=fs.map Yf.fn
 | [],b,h=>rfl
 |f::fs,b,h=>by obtain ⟨h1,h2⟩:=Dk (Qum f) h;exact rpc (Wrj hA h1) (Qxu hA fs _ h2)
theorem Wel (hA:Ahead l) {fs:List Wm} {b:Nat} (h:Seg l b ((Ko fs).out b)):Yb l (b+(Ko fs).size-1)= .pr fs:=by obtain ⟨h1,h2⟩:=Ij hA (Qo5 fs) h;refine h1.Yb.trans ((congrArg _ (Qxu hA fs b h2)).trans ?_);show Yf.pr ((fs.map Yf.fn).map Yf.f)=_;rw [Ea];congr 1;exact List.map_id' fs
theorem Qri (hA:Ahead l) {fs:List Wm} (h:l.map Zf=((Ko fs).out 0).map Zf):Yb l (l.length-1)= .pr fs:=by have hlen:=congrArg List.length h;have Wet:(Ko fs).Ba:=Da (Qo5 fs);rw [Zr,Zr,Wet.len]at hlen;have:=Wel hA (b:=0) (fs:=fs) ⟨[],[],by rw [h];simp,rfl⟩;rw [Bq,<-hlen]at this;exact this
end
theorem Whb {l m:List Nd} (h:l.map Od=m.map Od):l.map Zf=m.map Zf:=by have:=congrArg (List.map Zf) h;rw [Ea,Ea]at this;exact this
theorem Wq9 (M:List Tk):(M.map Dv).map Dv=M.map Dv:=by rw [Ea];rfl
theorem Wps {fs:List Wm} (h:Qnn fs):Qyk fs:=⟨λf hf=>(h.fns f hf).ok,h.few⟩
theorem Wjl {fs:List Wm} (hp:Qnn fs) (hn:Gq fs<=200) (ht:(Ko fs).ht<=200):
  ∃L s',T (Xv fs) 0= .ok L/\Qs (.prog []) 0 ⟨L,[],[]⟩ (.ok ([Vl (Ko fs) []],s'))/\s'.l.map Zf=((Ko fs).out 0).map Zf:=by
 obtain ⟨M,hM,hMe⟩:=Qsg fs hp.fns 0;have hMe:M.map Dv=Qr (Uk fs)++[⟨0,[],0,0⟩]:=hMe;have hR:=Wqs (Wps hp) hn ht ⟨0,[],0,0⟩ rfl;obtain ⟨v,hv,hA⟩:=Wrd (L':=M) (by rw [<-hMe,Wq9]) hR;cases v with
 |error f=>exact absurd hA id
 |ok x=>
  obtain ⟨ks,s'⟩:=x;obtain ⟨e,hA⟩:[Vl (Ko fs) []]=ks/\Vn _ s':=hA;subst e;exact ⟨M,s',hM,hv,(Whb hA.l).symm⟩
structure Quy (fs:List Wm) (t:List UInt8) (L:List Tk) (s':PS):Prop where
 lex:T (Xv fs) 0= .ok L
 reads: ∃ks,Qs (.prog []) 0 ⟨L,[],[]⟩ (.ok (ks,s'))
 right:Rt s'.l
 k26:(nd s'.l (s'.l.length-1)).kind=26
 nums: ∀x∈s'.l,0<=x.n/\x.n<=9223372036854775807
 Yb:Yb s'.l (s'.l.length-1)= .pr fs
 tx:tx s'.l (s'.l.length-1)=t
 nodes:s'.l.map Zf=((Ko fs).out 0).map Zf
theorem Qui {l:List Nd} (h: ∀x∈l,0<=x.n/\x.n<=9223372036854775807): ∀j,j<l.length->(nd l j).n<=9223372036854775807:=by
 intro j hj;have:nd l j∈l:=by unfold nd;rw [Yc,Y3 hj];exact F5 hj
 exact (h _ this).2
theorem Q9t (fs:List Wm) (hp: ∀f∈fs,f.Fin) {L:List Tk} (h:T (Xv fs) 0= .ok L):0<L.length:=by
 obtain ⟨M,hM,hMe⟩:=Qsg fs hp 0;rw [h]at hM;obtain rfl:L=M:=by injection hM
 have:=congrArg List.length hMe;rw [Zr,Qf,Yw]at this;omega
theorem Wer {fs:List Wm} (hp:Qnn fs) (hn:Gq fs<=200) (ht:(Ko fs).ht<=200): ∃L s',Quy fs (Qo4 fs) L s':=by
 obtain ⟨L,s',h1,h2,h3⟩:=Wjl hp hn ht;obtain ⟨hR,h26,_,_,hN⟩:=Qfa (Qbp h1) (Q9t fs hp.fns h1) h2;have hr:=Qri hR.1.2.1 h3;obtain ⟨fs',hx⟩:=Qu4 hR h26 (Qui hN);have hx1:Yb s'.l (s'.l.length-1)= .pr fs':=hx.r;rw [hr]at hx1;obtain rfl:fs=fs':=by injection hx1
 exact ⟨L,s',h1,⟨_,h2⟩,hR,h26,hN,hr,hx.t.symm,h3⟩
theorem Q5f {l:List Nd} (hR:Rt l) (h26:(nd l (l.length-1)).kind=26) (hN: ∀j,j<l.length->(nd l j).n<=9223372036854775807) (hl:l.length<=80):
  ∃fs,XR l ((l.length-1:Nat):Int) fs/\(Xv fs).length<=65536/\ ∃L s',Quy fs (tx l (l.length-1)) L s':=by
 obtain ⟨fs,hx⟩:=Qu4 hR h26 hN;have hz:(Ko fs).size=sz l (l.length-1):=hx.z;have hh:(Ko fs).ht=hgt l (l.length-1):=hx.h;have ht:Qo4 fs=tx l (l.length-1):=hx.t;have h1:=Qlo hR.1;obtain ⟨h2,h3⟩:=Q7m hx.fin (by omega);obtain ⟨L,s',h4⟩:=Wer hx.fin h3 (by rw [hh];exact hR.2.2);rw [ht]at h4;exact ⟨fs,hx,h2,L,s',h4⟩
end Go.Proofs.YtdncpkkhkbijfaaGreatDoor
