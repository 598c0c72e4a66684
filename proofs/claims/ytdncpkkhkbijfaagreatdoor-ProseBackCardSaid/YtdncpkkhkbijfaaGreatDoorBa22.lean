import Derived.Test.YtdncpkkhkbijfaaGreatDoorBa21
open Go.Proofs.Tryz
set_option linter.all false
set_option maxHeartbeats 0
set_option maxRecDepth 100000
namespace Go.Proofs.YtdncpkkhkbijfaaGreatDoor
section
open Go.RowKit
variable {B g P T N:Nat}{L:List Tk}{w0 w w':World}{R0 R R':Bx}{d:Nat}{o:Except Qq PS}{v:Value}{acc:List Int}{K n:Int}{S:ByteArray}
structure Dm (B g P T:Nat) (L:List Tk) (w0:World) (R0:Bx) (d:Nat) (w:World) (R:Bx) (o:Except Qq PS) (N:Nat) (K:Int) (v:Value) (acc:List Int) (n:Int) (S:ByteArray) (a:Int):Prop extends Pre B g P T L w0 R0 d w R o v acc where
 box:Held w N 37 #[.int .i64 K,.slice none 0 0,.int .i64 n,.string S,.int .i64 a]
 off:R.vn.ownBlock≠some N
 new:w0.heap.size<=N
theorem Dm.step {a:Int} {o':Except Qq PS} {d':Nat} (H:Dm B g P T L w0 R0 d w R o N K v acc n S a) (hA:Any B g L w' R' d' o') (F:Fr g w w' R R') (hz:R'.Z=R.Z):Dm B g P T L w0 R0 d' w' R' o' N K v acc n S a:=by
 refine ⟨H.toPre.step hA F hz,H.any.held F H.box (by decide) (by decide) H.off,λe=> ?_,H.new⟩;rcases F.vn N e with h |h
 ·exact H.off h
 ·have:=H.box.lt;omega
theorem Dm.below {a:Int} (H:Dm B g P T L w0 R0 d w R o N K v acc n S a) (hb:Below w.heap.size w w'):Dm B g P T L w0 R0 d w' R o N K v acc n S a:=H.step (H.any.below hb) (Fr.of_below R hb) rfl
theorem Pre.node2 (H:Pre B g P T L w0 R0 d w R o v acc) (K n:Int) (S:ByteArray) (a:Int):Dm B g P T L w0 R0 d (w.alloc (.cells #[.int .i64 K,.slice none 0 0,.int .i64 n,.string S,.int .i64 a] 37)) R o w.heap.size K v acc n S a:=
 ⟨H.below Qag,Held.new _ _ _,H.any.Q1s,H.fr.size⟩
theorem Dm.Qmi {a:Int} (H:Dm B g P T L w0 R0 d w R o N K v acc n S a) (n':Int):Dm B g P T L w0 R0 d (w.setCell ⟨N,2,none⟩ (.int .i64 n')) R o N K v acc n' S a:=
 ⟨H.toPre.Qcg H.box H.off H.new 2 _,H.box.set 2 _,H.off,H.new⟩
theorem Dm.n0 {a:Int} (H:Dm B g P T L w0 R0 d w R o N K v acc n S a):w.cell? ⟨N,0,none⟩=some (.int .i64 K):=H.box.at_ rfl
theorem Dm.n1 {a:Int} (H:Dm B g P T L w0 R0 d w R o N K v acc n S a):w.cell? ⟨N,1,none⟩=some (.slice none 0 0):=H.box.at_ rfl
theorem Dm.n2 {a:Int} (H:Dm B g P T L w0 R0 d w R o N K v acc n S a):w.cell? ⟨N,2,none⟩=some (.int .i64 n):=H.box.at_ rfl
theorem Dm.n3 {a:Int} (H:Dm B g P T L w0 R0 d w R o N K v acc n S a):w.cell? ⟨N,3,none⟩=some (.string S):=H.box.at_ rfl
theorem Dm.n4 {a:Int} (H:Dm B g P T L w0 R0 d w R o N K v acc n S a):w.cell? ⟨N,4,none⟩=some (.int .i64 a):=H.box.at_ rfl
theorem Q2u (B:Nat) (w:World):Now B w (.slice none 0 0) []:=⟨rfl,.inl ⟨rfl,rfl⟩⟩
theorem Does.params {acc:List Int} {u:Out} (h:Does o (λs n=>Xf s λnm at_ s1=>if 8<=acc.length then some (.error (3,at_))else V3 s1 λk s2=>Out.go (some (lay (En 24 [] k nm at_) s2)) λq s3=>if s3.is comma then Qac n (.params (acc++[hd1 q])) d s3.next else Qm rp s3 λs4=>some (.ok (acc++[hd1 q],s4))) u):Does o (λs n=>Qac n (.params acc) d s) u:=by
 cases o with
 |error f=>exact h
 |ok s=>exact (Qs.params h).ev
theorem Qth (x a:Nat) (o:Except Qq PS): ∃f,Lu x a o= .error f:=by
 cases o with
 |ok s=>exact ⟨_,rfl⟩
 |error f=>exact ⟨_,rfl⟩
def Wpf (B g P T:Nat) (L:List Tk) (w0:World) (R0:Bx) (d:Nat) (o:Except Qq PS) (t3 t4:Value) (wr:World):Prop:=
 ∃(m:Bool) (o1:Except Qq PS) (R1:Bx) (acc:List Int),t4= .bool m/\Pre B g P T L w0 R0 d wr R1 o1 t3 acc/\Qc o1 L.length L.length/\
  ((m=true/\acc.length<=8/\ ∀u,Does o1 (λs n=>Qac n (.params acc) d s) u->Does o (λs n=>Qac n (.params []) d s) u)\/
   (m=false/\acc.length<=9/\ ∀u,Does o1 (λs n=>Qm rp s λs4=>some (.ok (acc,s4))) u->Does o (λs n=>Qac n (.params []) d s) u))
def Qgo (d:Nat) (acc:List Int) (X:ByteArray) (ta:Nat):PS->Nat->Option Out:=λs1 n=>if 8<=acc.length then some (.error (3,ta))else V3 s1 λk s2=>Out.go (some (lay (En 24 [] k X ta) s2)) λq s3=>if s3.is comma then Qac n (.params (acc++[hd1 q])) d s3.next else Qm rp s3 λs4=>some (.ok (acc++[hd1 q],s4))
def Qd3 (d:Nat) (acc:List Int):Int->PS->Nat->Option Out:=λq s3 n=>if s3.is comma then Qac n (.params (acc++[q])) d s3.next else Qm rp s3 λs4=>some (.ok (acc++[q],s4))
theorem Qyi {acc:List Int} {X:ByteArray} {ta:Nat} {o1:Except Qq PS} {u1 u:Out} (h8:acc.length≠8) (hle:acc.length<=8) (h1:Does (F3 o1) (λs _=>some (lay (En 24 [] (Lv o1:Int) X (ta:Int)) s)) u1) (h:Does (toO u1) (Qd3 d acc (Qt u1)) u):Does o1 (Qgo d acc X ta) u:=by
 have h2:=Does.kind (o:=o1) (G:=λk s2 n=>Out.go (some (lay (En 24 [] k X ta) s2)) λq s3=>Qd3 d acc (hd1 q) s3 n) (Does.go (G:=Qd3 d acc) h1 h);cases o1 with
 |error f=>exact h2
 |ok s=>exact Ev.Gi (by omega) h2
theorem Qxc {acc:List Int} {X:ByteArray} {ta:Nat} {o1:Except Qq PS} {f:Qq} (h8:acc.length=8) (hf:Lu 3 ta o1= .error f):Does o1 (Qgo d acc X ta) (.error f):=by
 cases o1 with
 |error f'=>injection hf with hf;subst hf;rfl
 |ok s=>injection hf with hf;subst hf;exact Ev.Pb (by omega) Ev.const
theorem Q6r {acc:List Int} {q:Int} {o3:Except Qq PS} {s:PS} {u:Out} (hs:o3= .ok s) (hb:s.is comma=true) (h:Does (.ok s.next) (λs n=>Qac n (.params (acc++[q])) d s) u):Does o3 (Qd3 d acc q) u:=
 Does.Qmj (X:=λs n=>Qac n (.params (acc++[q])) d s) (Y:=λs3 n=>Qm rp s3 λs4=>some (.ok (acc++[q],s4))) hs hb h
theorem Q7u {acc:List Int} {q:Int} {o3:Except Qq PS} {u:Out} (hb: ∀s,o3= .ok s->s.is comma=false) (h:Does o3 (λs n=>Qm rp s λs4=>some (.ok (acc++[q],s4))) u):Does o3 (Qd3 d acc q) u:=
 Does.O4 (X:=λs3 n=>Qac n (.params (acc++[q])) d s3.next) (Y:=λs3 n=>Qm rp s3 λs4=>some (.ok (acc++[q],s4))) hb h
theorem Q33 {n m:Nat} (h:Qc o n m):Qc (Vg o) (n-1) (m-1):=by
 cases o with
 |error f=>exact Qc.err
 |ok s=>
  by_cases hb:s.tok.kind=1
  ·have h1:=h s rfl;have h2:=Cr (s:=s) (by omega);exact Qc.name (h.mono (by omega) (by omega))
  ·rw [Qcr hb];exact Qc.err
theorem Wla {n m:Nat} (h:Qc o (n-1) (m-1)):Qc (F3 o) (n-2) (m-2):=by
 cases o with
 |error f=>exact Qc.err
 |ok s=>
  by_cases hb:Yt s.tok=0
  ·rw [Qd5 hb];exact Qc.err
  ·have h1:=h s rfl;have h2:=Cr (Qu1 hb);exact Qc.kind (h.mono (by omega) (by omega))
theorem Wfw (H:Any B g L w R d o) (hP:Ke w g P T) (hl:Qc o L.length L.length):
  Calls prog 100 #[.pointer (some ⟨P,0,none⟩)] w λen w'=> ∃u R' v l,en= .returned v/\Does (Yv lp o) (λs2 n=>if s2.is rp then some (.ok ([],s2.next))else Qac n (.params []) d s2) u/\Pre B g P T L w R d w' R' (toO u) v l/\l.length<=9/\ ∀p s,u= .ok (p,s)->l=p:=by
 obtain ⟨w0,hw0⟩:=Qb w;obtain ⟨R0,hR0⟩:=Qb R;have HR:Hid (Pre B g P T L w0 R0 d w R o (.slice none 0 0) []):=by rw [hw0,hR0];exact Pre.start H hP
 have HW0:=Qa hw0;have Jg:=Qa hR0;have HL:=Qa hl;have hp:=HR.out.par.c0;clear H hP hl hw0 hR0;go_enter func100,ntmps100;go_wp2_with fail;refine (Qb0 lp HR.out.any).mono ?_;rintro en w1 ⟨⟨x,rfl⟩,ha,hf⟩;replace HR:=Qa (HR.out.step ha hf rfl);clear ha hf hp;obtain ⟨oa,hoa⟩:=Qb (Yv lp o);rw [<-hoa]at HR;have HOA:=Qa hoa;have HLA:Hid (Qc oa L.length L.length):=by rw [hoa];exact Qc.Ao HL.out
 clear hoa;have hp:=HR.out.par.c0;go_wp2_with fail;refine (G5 rp HR.out.any).mono ?_;rintro en w2 ⟨c,o',rfl,ha,hf,hc⟩;replace HR:=Qa (HR.out.step ha hf rfl);clear ha hf hp;rcases hc with ⟨rfl,s,hs,hb,ho⟩ |⟨rfl,ho,hb⟩
 ·rw [ho]at HR;have HS:=Qa hs;have HB:=Qa hb;clear ho hs hb;go_wp2_with fail;go_ret;have hw0:=HW0.out;have hR0:=Jg.out;subst hw0 hR0;refine ⟨.ok ([],s.next),_,_,[],rfl,?_,HR.out,by simp,λp s' e=>by injection e with e;injection e with e1 e2⟩;rw [<-HOA.out];exact Does.Qmj (X:=λs n=>some (.ok ([],s))) (Y:=λs2 n=>Qac n (.params []) d s2) HS.out HB.out Ev.const
 ·rw [ho]at HR;have HB:=Qa hb;clear ho hb;go_wp2_with fail;go_loopw [3,4] (λt3 t4 wr=>Hid (Wpf B g P T L w0 R0 d oa t3 t4 wr)) (λ_ t4 wr=>Io t4*(1+lam g L.length wr))
  case atStart=>exact ⟨true,_,_,[],rfl,HR.out,HLA.out,.inl ⟨rfl,by simp,λu h=>h⟩⟩
  case round=>
   obtain ⟨m,o1,R1,acc,rfl,hpre,hlim,hm⟩:=hrel.out;clear HR hrel;obtain ⟨la,lc,hv⟩:=Zq hpre.now;obtain ⟨A,hA⟩:=Qb acc.length;rw [<-hA]at hv;subst hv;have HA:=Qa hA;have HX:=Qa hpre;have K5:=Qa hlim;clear hpre hlim;rcases hm with ⟨rfl,h8,hcont⟩ |⟨rfl,h9,hcont⟩
   ·have HC:=Qa hcont;have Qba:Hid (acc.length<=8):=h8;rw [<-hA]at h8;clear hcont hA;go_wp2_with fail;refine (Qjj HX.out.any HX.out.par 24).mono ?_;rintro en w3 ⟨ta,rfl,Wp,ha,hf⟩;have HY:=Qa (HX.out.step ha hf rfl);have Wj:=Qa Wp;obtain ⟨X,hX⟩:=Qb (Cj o1);rw [<-hX];have T9:=Qa hX;obtain ⟨W,hW⟩:=Qb (w3.alloc (.cells #[.int .i64 24,.slice none 0 0,.int .i64 0,.string X,.int .i64 (ta:Int)] 37));obtain ⟨N,hN⟩:=Qb w3.heap.size;have HQ:Hid (Dm B g P T L w0 R0 d W R1 (Vg o1) N 24 (.slice la A lc) acc 0 X (ta:Int)):=(by rw [hW,hN];exact HY.out.node2 24 0 X ta);have Yk:Hid (Qc (Vg o1) L.length L.length):=Qc.Sk K5.out;clear ha hf Wp hX HY;by_cases Sd:A=8
    ·have h8i:((A:Int)==8)=true:=(by simp;omega);have Cx:Hid (acc.length=8):=(by show _=_;rw [<-HA.out];exact Sd);clear h8 Sd;go_wp2_with fail;rw [<-hW,<-hN];clear hW hN;have hp:=HQ.out.par.c0;have b4:=HQ.out.n4;go_still_tail 6,(by kernel_rfl);change wpList _ _ _ _ _ W.drew;replace HQ:=Qa (HQ.out.below (Zk W));clear hp b4;go_wp2_with fail;refine (Qjg 3 ta (by decide) HQ.out.any).mono ?_;rintro en w4 ⟨⟨x4,rfl⟩,ha,hf⟩;replace HQ:=Qa (HQ.out.step ha hf rfl);obtain ⟨f1,hf1⟩:=Qth 3 ta (Vg o1);rw [hf1]at HQ;have HF1:=Qa hf1;clear ha hf hf1;go_wp2_with fail;refine (Qsv HQ.out.any HQ.out.par).mono ?_;rintro en w5 ⟨rfl,ha,hf⟩;replace HQ:=Qa (HQ.out.step ha hf rfl);obtain ⟨kd,hkd⟩:=Qb (Lv (Except.error f1):Nat);rw [<-hkd];clear ha hf hkd;have b2:=HQ.out.n2;have g2:=HQ.out.box.frozen 2;replace HQ:=Qa (HQ.out.Qmi (kd:Int));obtain ⟨w6,Gz⟩:=Qb (w5.setCell ⟨N,2,none⟩ (.int .i64 (kd:Int)));rw [<-Gz]at HQ;go_wp2_with fail;rw [<-Gz];clear Gz b2 g2;have hp:=HQ.out.par.c0;have b0:=HQ.out.n0;have b1:=HQ.out.n1;have b2:=HQ.out.n2;have b3:=HQ.out.n3;have b4:=HQ.out.n4;go_wp2_with fail;have HQD:=Qa (HQ.out.below (Zk w6));go_region_law (first
      |(go_simp;go_at_call 63;refine (Ob 24 (.slice none 0 0) [] _ _ ta HQD.out.any (Q2u w0.heap.size _) Qc.err (by simp)).mono ?_;rintro en w7 ⟨u1,R7,hdo,hc,Wd⟩;obtain rfl:=hc.en;have Tt:=Qa (HQD.out.toPre.step hc.any hc.fr hc.z);have Yl:=Qa hdo;have Ia:=Qa Wd;obtain ⟨k,hk⟩:=Qb (Qt u1);rw [<-hk];have HK:=Qa hk;clear hdo hc Wd hk)
      |(refine Mf rfl (.tmp 37) (.tmp 44) rfl w0.heap.size w7 (.slice la A lc) acc k (by rfl) (by rfl) Tt.out.now Tt.out.fr.size (by have:=Qba.out;omega) ?_;intro v3 w75 h3 hg3 hw3;obtain ⟨va,vc,hv3⟩:=Zq h3;obtain ⟨R3,hr3,L6⟩:=Tt.out.push h3 hg3 hw3;have HV:=Qa hr3;have hp7:=hr3.par.c0;clear hr3 h3 hg3 hw3 L6;rw [Qf,Yw]at hv3;subst hv3))
     all_goals
      clear hp b0 b1 b2 b3 b4 HQ HQD;have hp:=hp7;clear hp7;go_wp2_with fail;refine (G5 comma HV.out.any).mono ?_;rintro en w8 ⟨c,o',rfl,ha,hf,hc⟩;have HU:=Qa (HV.out.step ha hf rfl);clear ha hf hp;rcases hc with ⟨rfl,s,hs,hb,ho⟩ |⟨rfl,ho,hb⟩
      ·exfalso;have h1:=Yl.out;have h2:u1= .error f1:=h1;rw [h2]at hs;cases hs
      ·rw [ho]at HU;clear ho hb;have HU1:Hid (u1= .error f1):=Yl.out;go_wp2_with fail;go_roundw
       case rel=>exact ⟨false,_,_,_,rfl,HU.out,by rw [HU1.out];exact Qc.err,.inr ⟨rfl,by rw [Qf,Yw];have:=Qba.out;omega,λu h=>by rw [HU1.out]at h;rw [show u=_ from h];exact HC.out _ (Does.params (Does.name (G:=Qgo d acc) (λs hs=>Wj.out s hs) (by rw [<-T9.out];exact Qxc Cx.out HF1.out)))⟩⟩
       case measure=>show 0*_<1*_;omega
    ·have h8i:((A:Int)==8)=false:=(by simp;omega);have Cx:Hid (acc.length≠8):=(by show _≠_;rw [<-HA.out];exact Sd);clear h8 Sd;have hp:=HQ.out.par.c0;go_wp2_with fail;rw [<-hW,<-hN];clear hW hN hp;refine (Qsv HQ.out.any HQ.out.par).mono ?_;rintro en w5 ⟨rfl,ha,hf⟩;replace HQ:=Qa (HQ.out.step ha hf rfl);obtain ⟨kd,hkd⟩:=Qb (Lv (Vg o1):Nat);rw [<-hkd];have Vx:=Qa hkd;clear ha hf hkd;have b2:=HQ.out.n2;have g2:=HQ.out.box.frozen 2;replace HQ:=Qa (HQ.out.Qmi (kd:Int));obtain ⟨w6,Gz⟩:=Qb (w5.setCell ⟨N,2,none⟩ (.int .i64 (kd:Int)));rw [<-Gz]at HQ;go_wp2_with fail;rw [<-Gz];clear Gz b2 g2;have hp:=HQ.out.par.c0;have b0:=HQ.out.n0;have b1:=HQ.out.n1;have b2:=HQ.out.n2;have b3:=HQ.out.n3;have b4:=HQ.out.n4;go_wp2_with fail;have HQD:=Qa (HQ.out.below (Zk w6));go_region_law (first
      |(go_simp;go_at_call 63;refine (Ob 24 (.slice none 0 0) [] _ _ ta HQD.out.any (Q2u w0.heap.size _) (Qc.Qjb Yk.out) (by simp)).mono ?_;rintro en w7 ⟨u1,R7,hdo,hc,Wd⟩;obtain rfl:=hc.en;have Tt:=Qa (HQD.out.toPre.step hc.any hc.fr hc.z);have Yl:=Qa hdo;have Ia:=Qa Wd;obtain ⟨k,hk⟩:=Qb (Qt u1);rw [<-hk];have HK:=Qa hk;clear hdo hc Wd hk)
      |(refine Mf rfl (.tmp 37) (.tmp 44) rfl w0.heap.size w7 (.slice la A lc) acc k (by rfl) (by rfl) Tt.out.now Tt.out.fr.size (by have:=Qba.out;omega) ?_;intro v3 w75 h3 hg3 hw3;obtain ⟨va,vc,hv3⟩:=Zq h3;obtain ⟨R3,hr3,L6⟩:=Tt.out.push h3 hg3 hw3;have HV:=Qa hr3;have hp7:=hr3.par.c0;clear hr3 h3 hg3 hw3 L6;rw [Qf,Yw]at hv3;subst hv3))
     all_goals
      clear hp b0 b1 b2 b3 b4 HQ HQD;have hp:=hp7;clear hp7;go_wp2_with fail;refine (G5 comma HV.out.any).mono ?_;rintro en w8 ⟨c,o',rfl,ha,hf,hc⟩;have HU:=Qa (HV.out.step ha hf rfl);clear ha hf hp;have X9:Hid (∀u,Does (toO u1) (Qd3 d acc k) u->Does oa (λs n=>Qac n (.params []) d s) u):=λu h=>HC.out _ (Does.params (Does.name (G:=Qgo d acc) (λs hs=>Wj.out s hs) (by rw [<-T9.out];exact Qyi Cx.out Qba.out (by rw [<-Vx.out];exact Yl.out) (by rw [<-HK.out];exact h))));have Dq:Hid (∀n m,Qc o1 n m->Qc (toO u1) (n-2+1) (m-2)):=λn m h=>Ia.out _ _ (Wla (Q33 h));rcases hc with ⟨rfl,s,hs,hb,ho⟩ |⟨rfl,ho,hb⟩
      ·rw [ho]at HU;have HS:=Qa hs;have HB:=Qa hb;clear ho hs hb;obtain ⟨s0,hs0⟩: ∃s0,o1= .ok s0:=by
        cases o1 with
        |ok s0=>exact ⟨s0,rfl⟩
        |error f=>
         have h1:u1= .error f:=Yl.out;rw [h1]at HS;exact absurd HS.out (by intro h;cases h)
       have HS0:=Qa hs0;clear hs0;have HMS:Hid (lam g L.length w8<lam g L.length wr):=by have h1:Good B g L w8 _ d s.next:=HU.out.any;have h2:=HX.out.any;rw [HS0.out]at h2;have h2:Good B g L wr R1 d s0:=h2;have h3:=Dq.out (s0.l.length+s0.r.length) s0.r.length (by rw [HS0.out];intro s' e;injection e with e;subst e;exact ⟨Qh _,Qh _⟩) s HS.out;have h4:=Ve HB.out;have h5:=h2.some;show lam _ _ _<lam _ _ _;rw [h1.lam,h2.lam];omega
       have Pv:Hid (Qc (.ok s.next) L.length L.length):=by have h1:=Dq.out _ _ K5.out;rw [HS.out]at h1;have h2:=(K5.out s0 HS0.out).1;have h3:=HX.out.any;rw [HS0.out]at h3;have h4:=Good.some h3;exact (h1.Fh HB.out).self.mono (by omega) (by omega)
       go_wp2_with fail;go_roundw
       case rel=>exact ⟨true,_,_,_,rfl,HU.out,Pv.out,.inl ⟨rfl,by rw [Qf,Yw];have h1:=Qba.out;have h2:=Cx.out;omega,λu h=>X9.out u (Q6r HS.out HB.out h)⟩⟩
       case measure=>have:=HMS.out;show 1*_<1*_;omega
      ·rw [ho]at HU;have HB:=Qa hb;clear ho hb;have Pv:Hid (Qc (toO u1) L.length L.length):=by
        intro s hs;cases o1 with
        |error f=>
         have h1:u1= .error f:=Yl.out;rw [h1]at hs;cases hs
        |ok s0=>
         have h1:=Dq.out _ _ K5.out s hs;have h3:Good B g L wr R1 d s0:=HX.out.any;have h4:=h3.some;have h2:=(K5.out s0 rfl).1;exact ⟨by omega,by omega⟩
       go_wp2_with fail;go_roundw
       case rel=>exact ⟨false,_,_,_,rfl,HU.out,Pv.out,.inr ⟨rfl,by rw [Qf,Yw];have h1:=Qba.out;omega,λu h=>X9.out u (Q7u HB.out h)⟩⟩
       case measure=>show 0*_<1*_;omega
   ·have HC:=Qa hcont;have Qba:Hid (acc.length<=9):=h9;clear hcont hA h9;have hp:=HX.out.par.c0;go_wp2_with fail;refine (Qb0 rp HX.out.any).mono ?_;rintro en w3 ⟨⟨x3,rfl⟩,ha,hf⟩;have HY:=Qa (HX.out.step ha hf rfl);clear ha hf hp;go_wp2_with fail;go_ret;have hw0:=HW0.out;have hR0:=Jg.out;subst hw0 hR0;have hfin: ∀u,Does (Yv rp o1) (λs n=>some (.ok (acc,s))) u->Does (Yv lp o) (λs2 n=>if s2.is rp then some (.ok ([],s2.next))else Qac n (.params []) d s2) u:=λu h=>by rw [<-HOA.out];exact Does.O4 (X:=λs2 n=>some (.ok ([],s2.next))) (Y:=λs2 n=>Qac n (.params []) d s2) HB.out (HC.out u (Does.need (b:=rp) (G:=λs4 n=>some (.ok (acc,s4))) h))
    have hY:=HY.out;cases hn:Yv rp o1 with
    |error f=>
     rw [hn]at hY hfin;exact ⟨.error f,_,_,acc,rfl,hfin _ rfl,hY,Qba.out,λp s e=>by cases e⟩
    |ok s=>
     rw [hn]at hY hfin;exact ⟨.ok (acc,s),_,_,acc,rfl,hfin _ Ev.const,hY,Qba.out,λp s' e=>by injection e with e;injection e with e1 e2⟩
end
section
open Go.RowKit
variable {B g P T N:Nat}{L:List Tk}{w0 w w':World}{R0 R R':Bx}{d:Nat}{o:Except Qq PS}{v:Value}{acc:List Int}{K n:Int}{S:ByteArray}
theorem Run.params {a:Int} {l:List Int} {v':Value} {o':Except Qq PS} (H:Run B g P T L w0 R0 d w R o N K v acc n S a) (hp:Pre B g P T L w R d w' R' o' v' l):Run B g P T L w0 R0 d (w'.setCell ⟨N,1,none⟩ v') R' o' N K v' l n S a/\w'.cell? ⟨N,1,none⟩=some v/\w'.frozen? ⟨N,1,none⟩=false:=by
 have Lb:=H.any.held hp.fr H.box (by decide) (by decide) H.off;have hoff:R'.vn.ownBlock≠some N:=λe=>by
  rcases hp.fr.vn N e with h |h
  ·exact H.off h
  ·have:=H.box.lt;omega
 have h1:Pre B g P T L w0 R0 d w' R' o' v' l:=⟨hp.any,H.fr.trans hp.fr,λk hk=>hp.z0 k (H.z0 k hk),hp.zv,Qb1 hp.now H.fr.size,hp.par,H.base⟩;exact ⟨h1.Qx3 Lb hoff H.new,Lb.at_ rfl,Lb.frozen 1⟩
def Qct (d:Nat):PS->Nat->Option Out:=λs n=>Qm Ki s λs1=>Qac n .func d s1
theorem Does.func {u:Out} (h:Does o (λs n=>Xf s λnm at_ s1=>Qm lp s1 λs2=>Out.go (if s2.is rp then some (.ok ([],s2.next))else Qac n (.params []) d s2) λps s3=>V3 s3 λk s4=>Out.go (Qac n .block d s4) λb s5=>some (lay (En 25 (ps++[hd1 b]) k nm at_) s5)) u):Does o (λs n=>Qac n .func d s) u:=by
 cases o with
 |error f=>exact h
 |ok s=>exact (Qs.func h).ev
theorem Wj8 {u:Out} (h:Does o (λs2 n=>if s2.is rp then some (.ok ([],s2.next))else Qac n (.params []) d s2) u) (n m:Nat) (hl:Qc o n m):Qc (toO u) n m:=by
 cases o with
 |error f=>rw [show u=_ from h];exact Qc.err
 |ok s=>
  cases hb:s.is rp with
  |true=>
   obtain ⟨n0,hn⟩:=h;have h1:some (Except.ok ([],s.next))=some u:=(Qk hb).symm.trans (hn n0 (Qh _));injection h1 with h1
   subst h1;exact (hl.Fh hb).mono (by omega) (by omega)
  |false=>
   refine Does.left (m:=.params []) (d:=d) (o:=.ok s) (λacc e=>by cases e) ?_ n m hl;obtain ⟨n0,hn⟩:=h;refine ⟨n0,λk hk=> ?_⟩;exact (Qd (by rw [hb];decide)).symm.trans (hn k hk)
theorem Wo0 {u:Out} {en:Ending} {R1:Bx} (hoo: ∀s,o= .ok s->1<=s.r.length) (hl: ∀n m,Qc o n m->Qc (toO u) (n-1+1) (m-1)) (h:Does o (Qct d) u) (hc:Came B g L w R d u en w' R1): ∃u R',Does o (Qct d) u/\Came B g L w R d u en w' R'/\ ∀n m,Qc o n m->Qc (toO u) n m:=by
 refine ⟨u,R1,h,hc,λn m hm=> ?_⟩;cases o with
 |error f=>rw [show u=_ from h];exact Qc.err
 |ok s=>
  have h1:=hoo s rfl;have h2:=hm s rfl;exact (hl n m hm).mono (by omega) (by omega)
theorem Q37 (H:Any B g L w R d o) (hP:Ke w g P T) (hd:d<=200) (hl:Qc o L.length L.length):
  Calls prog 62 #[.pointer (some ⟨P,0,none⟩)] w λen w'=> ∃u R',Does o (Qct d) u/\Came B g L w R d u en w' R'/\ ∀n m,Qc o n m->Qc (toO u) n m:=by
 obtain ⟨w0,hw0⟩:=Qb w;obtain ⟨R0,hR0⟩:=Qb R;have HR:Hid (Pre B g P T L w0 R0 d w R o (.slice none 0 0) []):=by rw [hw0,hR0];exact Pre.start H hP
 have HW0:=Qa hw0;have Jg:=Qa hR0;have HL:=Qa hl;have Wv:=Qa hd;have hp:=HR.out.par.c0;clear H hP hl hd hw0 hR0;have Xj:Hid (∀s,o= .ok s->1<=s.r.length):=λs hs=>Qs6 HR.out.any hs;go_enter func62,ntmps62;rw [Qz 3];go_wp2_with fail;refine (Qb0 Ki HR.out.any).mono ?_;rintro en w1 ⟨⟨x,rfl⟩,ha,hf⟩;replace HR:=Qa (HR.out.step ha hf rfl);clear ha hf hp;obtain ⟨oa,hoa⟩:=Qb (Yv Ki o);rw [<-hoa]at HR;have HOA:=Qa hoa;clear hoa;go_wp2_with fail;refine (Qjj HR.out.any HR.out.par 25).mono ?_;rintro en w2 ⟨ta,rfl,Wp,ha,hf⟩;replace HR:=Qa (HR.out.step ha hf rfl);have Wj:=Qa Wp;obtain ⟨X,hX⟩:=Qb (Cj oa);rw [<-hX];have HX:=Qa hX;clear ha hf Wp hX;obtain ⟨W,hW⟩:=Qb (w2.alloc (.cells #[.int .i64 25,.slice none 0 0,.int .i64 0,.string X,.int .i64 (ta:Int)] 37));obtain ⟨N,hN⟩:=Qb w2.heap.size;have HQ:Hid (Run B g P T L w0 R0 d W R (Vg oa) N 25 (.slice none 0 0) [] 0 X (ta:Int)):=by rw [hW,hN];exact HR.out.node 25 0 X ta
 have HLA:Hid (∀n m,Qc o n m->Qc oa (n-1) (m-1)):=λn m h=>by rw [HOA.out];exact Qc.Qpc h
 have Ec:Hid (∀n m,Qc o n m->Qc (Vg oa) (n-1) (m-1)):=λn m h=>Qc.Sk (HLA.out n m h);clear HR;go_wp2_with fail;rw [<-hW,<-hN];clear hW hN;refine Qn ?_;go_wp2_with fail;refine (Wfw HQ.out.any HQ.out.par ((Ec.out _ _ HL.out).mono (by omega) (by omega))).mono ?_;rintro en w3 ⟨u1,R1,v1,l1,rfl,hdo,hpre,hlen,hlp⟩;obtain ⟨sa,sc,hv1⟩:=Zq hpre.now;subst hv1;obtain ⟨hq,hc1,hf1⟩:=HQ.out.params hpre;obtain ⟨W3,hW3⟩:=Qb (w3.setCell ⟨N,1,none⟩ (.slice sa l1.length sc));rw [<-hW3]at hq;have HV:=Qa hq;have HDP:=Qa hdo;have HLEN:=Qa hlen;have HLP:=Qa hlp;have HLC:Hid (∀n m,Qc o n m->Qc (toO u1) (n-1) (m-1)):=λn m h=>Wj8 HDP.out _ _ (Qc.Ao (Ec.out n m h));clear hdo hpre hlen hlp hq HQ;go_wp2_with fail;rw [<-hW3];clear hW3 hc1 hf1;refine (Qsv HV.out.any HV.out.par).mono ?_;rintro en w5 ⟨rfl,ha,hf⟩;replace HV:=Qa (HV.out.step ha hf rfl);obtain ⟨kd,hkd⟩:=Qb (Lv (toO u1):Nat);rw [<-hkd];have Vx:=Qa hkd;clear ha hf hkd;have b2:=HV.out.n2;have g2:=HV.out.box.frozen 2;replace HV:=Qa (HV.out.Qmi (kd:Int));obtain ⟨w6,Gz⟩:=Qb (w5.setCell ⟨N,2,none⟩ (.int .i64 (kd:Int)));rw [<-Gz]at HV;have HLD:Hid (∀n m,Qc o n m->Qc (F3 (toO u1)) (n-1) (m-1)):=λn m h=>Qc.Qjb (HLC.out n m h);go_wp2_with fail;rw [<-Gz];clear Gz b2 g2;have Q0:=Qa (HV.out.below (Zk w6));have b1:=HV.out.n1;have hp:=HV.out.par.c0;go_cut [] (λwx=>Hid (Tx B g P T L w0 R0 d (F3 (toO u1)) (λs n=>Qac n .block d s) N 25 l1 (kd:Int) X (ta:Int) wx))
 case first=>
  go_region_law (first
   |(go_simp;go_at_call 95;refine ((Wh3 Q0.out.any Q0.out.par Wv.out ((HLD.out _ _ HL.out).mono (by omega) (by omega)))).mono ?_;rintro en w2 ⟨u,R2,hdo,hc,Wd⟩;obtain rfl:=hc.en;have HR2:=Qa (Q0.out.step hc.any hc.fr hc.z);have Wu:=Qa hdo;have Xo:=Qa Wd;obtain ⟨k,hk⟩:=Qb (Qt u);rw [<-hk];have HK:=Qa hk;clear hdo hc Wd hk;have c1:=HR2.out.n1;have c2:=(HR2.out.below ((Below.refl _ _).alloc (Qh _) (.cells #[.int .i64 k] 3))).n1)
   |(refine Mf rfl (.tmp 18) (.tmp 21) rfl w0.heap.size w2 (.slice sa l1.length sc) l1 k (by rfl) (by rfl) HR2.out.now HR2.out.fr.size (by have:=HLEN.out;omega) ?_;intro v3 w3 h3 hg3 hw3;obtain ⟨va,vc,hv3⟩:=Zq h3;obtain ⟨R3,hr3,hc3,hf3⟩:=HR2.out.push h3 hg3 hw3;have HR3:=Qa hr3;clear hr3 h3 hg3 hw3;rw [Qf,Yw]at hv3;subst hv3))
  all_goals
   go_wp2_with fail;go_meet;exact ⟨u,R3,_,Wu.out,Xo.out,by rw [<-HK.out];exact HR3.out⟩
 case rest=>
  obtain ⟨u2,R2,v2,hdo,Wd,hr⟩:=hcut.out;obtain ⟨W7,hwc⟩:=Qb wc;rw [<-hwc]at hr ⊢;have HY:=Qa hr;have HD2:=Qa hdo;have Vm:=Qa Wd;clear hcut hdo Wd hr hwc hp b1 Q0;have hp:=HY.out.par.c0;have b0:=HY.out.n0;have b1:=HY.out.n1;have b2:=HY.out.n2;have b3:=HY.out.n3;have b4:=HY.out.n4;go_wp2_with fail;go_still_tail 5,(by kernel_rfl);change wpList _ _ _ _ _ W7.drew;have HZ:=Qa (HY.out.below (Zk W7));go_wp2_with fail;refine (Ob _ _ _ _ _ _ HZ.out.any HZ.out.now ((Vm.out _ _ (HLD.out _ _ HL.out)).self.mono (by omega) (by omega)) (by have:=HLEN.out;simp;omega)).mono ?_;rintro en wz ⟨uz,Rz,hdo,hc,Wd⟩;obtain rfl:=hc.en;have Eb:=Qa (HZ.out.came hc);have Gp:=Qa hdo;have U6:=Qa Wd;clear hdo hc Wd;go_wp2_with fail;go_ret;have HLZ:Hid (∀n m,Qc o n m->Qc (toO uz) (n-1+1) (m-1)):=λn m h=>U6.out _ _ (Vm.out _ _ (HLD.out _ _ h));have hw0:=HW0.out;have hR0:=Jg.out;subst hw0 hR0;exact Wo0 Xj.out HLZ.out (Does.need (b:=Ki) (G:=λs1 n=>Qac n .func d s1) (by rw [<-HOA.out];exact Does.func (Does.name (G:=λnm at_ s1 n=>Qm lp s1 λs2=>Out.go (if s2.is rp then some (.ok ([],s2.next))else Qac n (.params []) d s2) λps s3=>V3 s3 λk s4=>Out.go (Qac n .block d s4) λb s5=>some (lay (En 25 (ps++[hd1 b]) k nm at_) s5)) (λs hs=>Wj.out s hs) (by rw [<-HX.out];exact Does.need (b:=lp) (G:=λs2 n=>Out.go (if s2.is rp then some (.ok ([],s2.next))else Qac n (.params []) d s2) λps s3=>V3 s3 λk s4=>Out.go (Qac n .block d s4) λb s5=>some (lay (En 25 (ps++[hd1 b]) k X ta) s5)) (Does.go' (q:=l1) (G:=λps s3 n=>V3 s3 λk s4=>Out.go (Qac n .block d s4) λb s5=>some (lay (En 25 (ps++[hd1 b]) k X ta) s5)) HDP.out HLP.out (Does.kind (G:=λk s4 n=>Out.go (Qac n .block d s4) λb s5=>some (lay (En 25 (l1++[hd1 b]) k X ta) s5)) (by rw [<-Vx.out];exact Does.go (G:=λb s5 n=>some (lay (En 25 (l1++[b]) kd X ta) s5)) HD2.out Gp.out))))))) Eb.out
end
section
open Go.RowKit
variable {B g P T N:Nat}{L:List Tk}{w0 w w':World}{R0 R R':Bx}{d:Nat}{o:Except Qq PS}{v:Value}{acc:List Int}{K n:Int}{S:ByteArray}
theorem Wdd {f:Nat->PS->Option Out} {s:PS} {v:Out} (h:V3 s f=some v) (g: ∀k s1,f k s1=some v->Lh v):Lh v:=by
 unfold V3 at h;split at h
 ·injection h with h;subst h;exact Qkp
 ·exact g _ _ h
theorem Wqq {s:PS} {v:Out} (h:Qs .func d s v):Lh v:=by
 obtain ⟨n,h⟩:=h;cases n with
 |zero=>cases h
 |succ n=>
  rw [Qac]at h;exact Qmc h λ_ _ _ h=>Ls h λ_ h=>U8 h λ_ _ h=>Wdd h λ_ _ h=>U8 h λ_ _ h=>M8 h
theorem Q1j {s:PS} {u:Out} (hb:s.is Ki=true) (h:Does (.ok s) (Qct d) u):Qs .func d s.next u:=by obtain ⟨n,hn⟩:=h;exact ⟨n,(Qk hb).symm.trans (hn n (Qh _))⟩
theorem Qr2 {s:PS} {acc:List Int} {u v:Out} (hb:s.is Ki=true) (ha:acc.length<200) (h:Does (.ok s) (Qct d) u) (r:Does (toO u) (λs n=>Qac n (.prog (acc++[Qt u])) d s) v):Does (.ok s) (λs n=>Qac n (.prog acc) d s) v:=by
 have h1:=Q1j hb h
 match u,h1,r with
 | .error f,h1,r=>rw [show v=_ from r];exact (Qs.Wqm hb ha h1).ev
 | .ok (l,s1),h1,r=>
  have h2:=Wqq h1 l s1 rfl;rw [h2]at h1;exact (Qs.Q2y hb ha h1 r.to_preads).ev
structure Qpn (B g P T:Nat) (L:List Tk) (w0:World) (R0:Bx) (d:Nat) (o:Except Qq PS) (N:Nat) (wr:World) (R1:Bx) (o1:Except Qq PS) (v1:Value) (acc:List Int):Prop where
 run:Run B g P T L w0 R0 d wr R1 o1 N 26 v1 acc 0 ⟨#[]⟩ ((0:Nat):Int)
 lim:Qc o1 L.length L.length
 few:acc.length<=201
 many: ∀s,o1= .ok s->acc.length<=200
 cont: ∀u,Does o1 (λs n=>Qac n (.prog acc) d s) u->Does o (λs n=>Qac n (.prog []) d s) u
theorem Q4i {x a n m:Nat}:Qc (Lu x a o) n m:=by
 cases o with
 |ok s=>exact Qc.err
 |error f=>exact Qc.err
theorem Wmo {acc:List Int} {u:Out} (hk: ∀s,o= .ok s->s.tok.kind=0) (h:Does o (λs _=>some (lay (En 26 acc 0 ⟨#[]⟩ ((0:Nat):Int)) s)) u):Does o (λs n=>Qac n (.prog acc) d s) u:=by
 cases o with
 |error f=>exact h
 |ok s=>rw [Ev.Qyn h];exact (Qs.Qiy (hk s rfl)).ev
theorem Wb4 {acc:List Int} {u:Out} {tk ta:Nat} (ht: ∀s,o= .ok s->tk=s.tok.kind/\ta=s.tok.place) (hk:tk≠0) (hb: ∀s,o= .ok s->s.is Ki=false) (h:Does (Lu 8 ta o) (λs _=>some (lay (En 26 acc 0 ⟨#[]⟩ ((0:Nat):Int)) s)) u):Does o (λs n=>Qac n (.prog acc) d s) u:=by
 cases o with
 |error f=>exact h
 |ok s=>
  obtain ⟨h1,h2⟩:=ht s rfl;subst h1 h2;rw [show u=_ from h];exact (Qs.Qw9 hk (hb s rfl)).ev
theorem Wcl (H:Any B g L w R d o) (hP:Ke w g P T) (hd:d<=200) (hl:Qc o L.length L.length):
  Calls prog 24 #[.pointer (some ⟨P,0,none⟩)] w λen w'=> ∃u R',(∃x,en= .returned x)/\Does o (λs n=>Qac n (.prog []) d s) u/\Fr g w w' R R'/\Any B g L w' R' d (toO u):=by
 obtain ⟨w0,hw0⟩:=Qb w;obtain ⟨R0,hR0⟩:=Qb R;have HR:Hid (Pre B g P T L w0 R0 d w R o (.slice none 0 0) []):=by rw [hw0,hR0];exact Pre.start H hP
 have HW0:=Qa hw0;have Jg:=Qa hR0;have HL:=Qa hl;have Wv:=Qa hd;have hp:=HR.out.par.c0;clear H hP hl hd hw0 hR0;obtain ⟨W,hW⟩:=Qb (w.alloc (.cells #[.int .i64 26,.slice none 0 0,.int .i64 0,.string ⟨#[]⟩,.int .i64 0] 37));obtain ⟨N,hN⟩:=Qb w.heap.size;have HQ:Hid (Run B g P T L w0 R0 d W R o N 26 (.slice none 0 0) [] 0 ⟨#[]⟩ ((0:Nat):Int)):=by rw [hW,hN];exact HR.out.node 26 0 ⟨#[]⟩ 0
 clear hp;go_enter func24,ntmps24;go_wp2_with fail;rw [<-hW,<-hN];clear hW hN;go_loopw [] (λwr=> ∃(o1:Except Qq PS) (R1:Bx) (v1:Value) (acc:List Int),Hid (Qpn B g P T L w0 R0 d o N wr R1 o1 v1 acc)) (λwr=>lam g L.length wr)
 case atStart=>exact ⟨o,R,_,[],⟨HQ.out,HL.out,by simp,λs hs=>by simp,λu h=>h⟩⟩
 case round=>
  obtain ⟨o1,R1,v1,acc,HX⟩:=hrel;clear HQ HR;have hp:=HX.out.run.par.c0;go_wp2_with fail;refine (Qmu Ki HX.out.run.any).mono ?_;rintro en w1 ⟨c,rfl,hb,hc⟩;have HV:=Qa (HX.out.run.below hb);have Xz:=Qa hb;clear hb hp;rcases hc with ⟨rfl,s,hs,hb⟩ |⟨rfl,hb⟩
  ·have HB:=Qa hb;have HS:=Qa hs;clear hb hs;obtain ⟨la,lc,hv⟩:=Zq HV.out.now;obtain ⟨A,hA⟩:=Qb acc.length;rw [<-hA]at hv;subst hv;have HA:=Qa hA;have hA2:=HX.out.many s HS.out;rw [<-hA]at hA2;have HA2:=Qa hA2;clear hA;have HRS:Hid (1<=s.r.length):=Qs6 HX.out.run.any HS.out;have Pv:Hid (lam g L.length wr=s.r.length):=by have h2:=HX.out.run.any;rw [HS.out]at h2;exact Good.lam h2
   have b1:=HV.out.n1;by_cases h2:A=200
   ·have h2i:((A:Int)==200)=true:=(by simp;omega);have Cx:Hid (acc.length=200):=(by show _=_;rw [<-HA.out];exact h2);clear h2 hA2;have Xp:=Xm;have HD:=Qa (HV.out.below (Zk w1));have hp2:=HD.out.par.c0;have hp:=HV.out.par.c0;go_wp2_with fail;go_cut [] (λwx=> ∃ta:Nat,ta=s.tok.place/\Hid (Run B g P T L w0 R0 d wx R1 (Lu 3 ta o1) N 26 (.slice la A lc) acc 0 ⟨#[]⟩ ((0:Nat):Int)))
    case first=>
     go_region_with (first
      |(go_at_call 61;refine (Qdl HD.out.any).mono ?_;rintro en w2 ⟨tk,tn,ta,tx,rfl,Wp,hb⟩;have Wj:=Qa Wp;have HY:=Qa (HD.out.below hb);have hp3:=HY.out.par.c0;clear hb Wp)
      |(go_at_call 60;refine (Qjg 3 ta (by decide) HY.out.any).mono ?_;rintro en w3 ⟨⟨v,rfl⟩,ha,hf⟩;have HF:=Qa (HY.out.step ha hf rfl);clear ha hf))
     all_goals
      go_wp2_with fail;go_meet;exact ⟨ta,(Wj.out s HS.out).2,HF⟩
    case rest=>
     obtain ⟨ta,Wp,HF⟩:=hcut;have HTP:=Qa Wp;obtain ⟨W2,hW2⟩:=Qb wc;rw [<-hW2]at HF ⊢;clear Wp hW2 hp hp2 b1 HD HV;have HLQ:Hid (Qc (Lu 3 ta o1) L.length L.length):=Q4i;go_wp2_with fail;have Q0:=Qa (HF.out.below (Zk W2));have b1:=HF.out.n1;have hp:=HF.out.par.c0;go_region_law (first
      |(go_simp;go_at_call 62;refine ((Q37 Q0.out.any Q0.out.par Wv.out HLQ.out)).mono ?_;rintro en w2 ⟨u,R2,hdo,hc,Wd⟩;obtain rfl:=hc.en;have HR2:=Qa (Q0.out.step hc.any hc.fr hc.z);have Wu:=Qa hdo;have Xo:=Qa Wd;obtain ⟨k,hk⟩:=Qb (Qt u);rw [<-hk];have HK:=Qa hk;clear hdo hc Wd hk;have c1:=HR2.out.n1;have c2:=(HR2.out.below ((Below.refl _ _).alloc (Qh _) (.cells #[.int .i64 k] 3))).n1)
      |(refine Mf rfl (.tmp 26) (.tmp 29) rfl w0.heap.size w2 (.slice la A lc) acc k (by rfl) (by rfl) HR2.out.now HR2.out.fr.size (by have:=HX.out.few;omega) ?_;intro v3 w3 h3 hg3 hw3;obtain ⟨va,vc,hv3⟩:=Zq h3;obtain ⟨R3,hr3,hc3,hf3⟩:=HR2.out.push h3 hg3 hw3;have HR3:=Qa hr3;clear hr3 h3 hg3 hw3;rw [Qf,Yw]at hv3;subst hv3))
     all_goals
      clear hp b1 Q0;obtain ⟨u1,hu1⟩:=Qb u;obtain ⟨W3,hW3⟩:=Qb (w3.setCell ⟨N,1,none⟩ (.slice va (acc.length+1) vc));obtain ⟨v2,hv2⟩:=Qb (Value.slice va (acc.length+1) vc);obtain ⟨R2,hR2⟩:=Qb R3;have HU:Hid (Run B g P T L w0 R0 d W3 R2 (toO u1) N 26 v2 (acc++[Qt u1]) 0 ⟨#[]⟩ ((0:Nat):Int)):=(by rw [hW3,hv2,hR2,hu1,<-HK.out];exact HR3.out);have HD1:Hid (Does (Lu 3 ta o1) (Qct d) u1):=(by rw [hu1];exact Wu.out);have Ym:Hid (∀n m,Qc (Lu 3 ta o1) n m->Qc (toO u1) n m):=(by rw [hu1];exact Xo.out);clear HR3 Wu Xo;go_wp2_with fail;rw [<-hW3];clear hW3 hv2 hR2 hu1;have HE:Hid (u1= .error (3,s.tok.place)):=by have h1:=HD1.out;rw [HS.out,HTP.out]at h1;exact h1
      have HMS:Hid (lam g L.length W3<lam g L.length wr):=by have h1:=HU.out.any;rw [HE.out]at h1;have h2:Bad B g L W3 R2 d (3,s.tok.place):=h1;have h3:=HRS.out;show lam _ _ _<lam _ _ _;rw [h2.lam,Pv.out];omega
      have Yi:Hid (Qpn B g P T L w0 R0 d o N W3 R2 (toO u1) v2 (acc++[Qt u1])):=by refine ⟨HU.out,(by rw [HE.out];exact Qc.err),(by rw [Qf,Cx.out];simp),(λs' e=>by rw [HE.out]at e;cases e),λu h=> ?_⟩;rw [HE.out]at h;rw [show u=_ from h];refine HX.out.cont _ ?_;rw [HS.out];exact (Qs.Qlj HB.out (by rw [Cx.out];decide)).ev
      go_roundw
      case rel=>exact ⟨_,R2,_,_,Yi⟩
      case measure=>exact HMS.out
   ·have h2i:((A:Int)==200)=false:=(by simp;omega);have Cx:Hid (acc.length<200):=(by show _<_;rw [<-HA.out];omega);clear h2 hA2;have HLQ:Hid (Qc o1 L.length L.length):=HX.out.lim;go_wp2_with fail;clear b1;have Q0:=Qa (HV.out.below (Zk w1));have b1:=HV.out.n1;have hp:=HV.out.par.c0;go_region_law (first
     |(go_simp;go_at_call 62;refine ((Q37 Q0.out.any Q0.out.par Wv.out HLQ.out)).mono ?_;rintro en w2 ⟨u,R2,hdo,hc,Wd⟩;obtain rfl:=hc.en;have HR2:=Qa (Q0.out.step hc.any hc.fr hc.z);have Wu:=Qa hdo;have Xo:=Qa Wd;obtain ⟨k,hk⟩:=Qb (Qt u);rw [<-hk];have HK:=Qa hk;clear hdo hc Wd hk;have c1:=HR2.out.n1;have c2:=(HR2.out.below ((Below.refl _ _).alloc (Qh _) (.cells #[.int .i64 k] 3))).n1)
     |(refine Mf rfl (.tmp 26) (.tmp 29) rfl w0.heap.size w2 (.slice la A lc) acc k (by rfl) (by rfl) HR2.out.now HR2.out.fr.size (by have:=HX.out.few;omega) ?_;intro v3 w3 h3 hg3 hw3;obtain ⟨va,vc,hv3⟩:=Zq h3;obtain ⟨R3,hr3,hc3,hf3⟩:=HR2.out.push h3 hg3 hw3;have HR3:=Qa hr3;clear hr3 h3 hg3 hw3;rw [Qf,Yw]at hv3;subst hv3))
    all_goals
     clear hp b1 Q0;obtain ⟨u1,hu1⟩:=Qb u;obtain ⟨W3,hW3⟩:=Qb (w3.setCell ⟨N,1,none⟩ (.slice va (acc.length+1) vc));obtain ⟨v2,hv2⟩:=Qb (Value.slice va (acc.length+1) vc);obtain ⟨R2,hR2⟩:=Qb R3;have HU:Hid (Run B g P T L w0 R0 d W3 R2 (toO u1) N 26 v2 (acc++[Qt u1]) 0 ⟨#[]⟩ ((0:Nat):Int)):=(by rw [hW3,hv2,hR2,hu1,<-HK.out];exact HR3.out);have HD1:Hid (Does o1 (Qct d) u1):=(by rw [hu1];exact Wu.out);have Ym:Hid (∀n m,Qc o1 n m->Qc (toO u1) n m):=(by rw [hu1];exact Xo.out);clear HR3 Wu Xo;go_wp2_with fail;rw [<-hW3];clear hW3 hv2 hR2 hu1;have HE:Hid (Does (.ok s) (Qct d) u1):=(by have h1:=HD1.out;rw [HS.out]at h1;exact h1);have HMS:Hid (lam g L.length W3<lam g L.length wr):=by
      have h0:=HU.out.any;have h3:=HRS.out;show lam _ _ _<lam _ _ _;rw [Pv.out]
      match u1,HE,h0 with
      | .error f,_,h0=>
       have h2:Bad B g L W3 R2 d f:=h0;rw [h2.lam];omega
      | .ok (l,s1),HE,h0=>
       have h2:Good B g L W3 R2 d s1:=h0;have h4:=(Qs.left (λacc e=>by cases e) (Q1j HB.out HE.out)).toks;have h5:=Ve HB.out;rw [h2.lam];omega
     have Yi:Hid (Qpn B g P T L w0 R0 d o N W3 R2 (toO u1) v2 (acc++[Qt u1])):=by refine ⟨HU.out,Ym.out _ _ HX.out.lim,by rw [Qf,Yw];have:=Cx.out;omega,λs' e=>by rw [Qf,Yw];have:=Cx.out;omega,λu h=> ?_⟩;refine HX.out.cont _ ?_;rw [HS.out];exact Qr2 HB.out Cx.out HE.out h
     go_roundw
     case rel=>exact ⟨_,R2,_,_,Yi⟩
     case measure=>exact HMS.out
  ·have HB:=Qa hb;clear hb;have hp:=HV.out.par.c0;go_wp2_with fail;refine (Qdl HV.out.any).mono ?_;rintro en w2 ⟨tk,tn,ta,tx,rfl,Wp,hb⟩;replace HV:=Qa (HV.out.below hb);have Wj:=Qa Wp;clear hb Wp hp;obtain ⟨W4,Bt⟩:=Qb (w2.alloc (.cells #[.int .i64 (tk:Int),.string tx,.int .i64 (tn:Int),.int .i64 (ta:Int)] 69));obtain ⟨G,hG⟩:=Qb w2.heap.size;have HGT:Hid (Held W4 G 69 #[.int .i64 (tk:Int),.string tx,.int .i64 (tn:Int),.int .i64 (ta:Int)]):=(by rw [Bt,hG];exact Held.new _ _ _);have hb4:Below w2.heap.size w2 W4:=(by rw [Bt];exact Qag);replace HV:=Qa (HV.out.below hb4);clear hb4;go_upto_region 6 with fail
   rw [<-Bt,<-hG];clear Bt hG;have z0:=HGT.out.t0;have z3:=HGT.out.t3;have hp:=HV.out.par.c0;by_cases hk0:tk=0
   ·subst hk0;clear hp;have hp:=HV.out.par.c0;have b0:=HV.out.n0;have b1:=HV.out.n1;have b2:=HV.out.n2;have b3:=HV.out.n3;have b4:=HV.out.n4;go_wp2_with fail;go_still_tail 5,(by kernel_rfl);change wpList _ _ _ _ _ W4.drew;have HZ:=Qa (HV.out.below (Zk W4));go_wp2_with fail;refine (Ob _ _ _ _ _ 0 HZ.out.any HZ.out.now HX.out.lim (by have:=HX.out.few;omega)).mono ?_;rintro en wz ⟨uz,Rz,hdo,hc,Wd⟩;obtain rfl:=hc.en;have Eb:=Qa (HZ.out.came hc);have Gp:=Qa hdo;clear hdo hc Wd;go_wp2_with fail;go_end0;have hw0:=HW0.out;have hR0:=Jg.out;subst hw0 hR0;exact ⟨uz,_,⟨_,rfl⟩,HX.out.cont uz (Wmo (λs hs=>(Wj.out s hs).1.symm) Gp.out),Eb.out.fr,Eb.out.any⟩
   ·have hk1:((tk:Int) != 0)=true:=(by simp;omega);have Ms:=Qa hk0;go_wp2_with fail;go_still_tail 6,(by kernel_rfl);change wpList _ _ _ _ _ W4.drew;replace HV:=Qa (HV.out.below (Zk W4));clear hp z0 z3;go_wp2_with fail;refine (Qjg 8 ta (by decide) HV.out.any).mono ?_;rintro en w5 ⟨⟨x5,rfl⟩,ha,hf⟩;replace HV:=Qa (HV.out.step ha hf rfl);clear ha hf;have hp:=HV.out.par.c0;have b0:=HV.out.n0;have b1:=HV.out.n1;have b2:=HV.out.n2;have b3:=HV.out.n3;have b4:=HV.out.n4;go_wp2_with fail;go_still_tail 5,(by kernel_rfl);change wpList _ _ _ _ _ w5.drew;have HZ:=Qa (HV.out.below (Zk w5));go_wp2_with fail;refine (Ob _ _ _ _ _ 0 HZ.out.any HZ.out.now Q4i (by have:=HX.out.few;omega)).mono ?_;rintro en wz ⟨uz,Rz,hdo,hc,Wd⟩;obtain rfl:=hc.en;have Eb:=Qa (HZ.out.came hc);have Gp:=Qa hdo;clear hdo hc Wd;go_wp2_with fail;go_end0;have hw0:=HW0.out;have hR0:=Jg.out;subst hw0 hR0;exact ⟨uz,_,⟨_,rfl⟩,HX.out.cont uz (Wb4 (λs hs=>Wj.out s hs) Ms.out HB.out Gp.out),Eb.out.fr,Eb.out.any⟩
end
end Go.Proofs.YtdncpkkhkbijfaaGreatDoor
