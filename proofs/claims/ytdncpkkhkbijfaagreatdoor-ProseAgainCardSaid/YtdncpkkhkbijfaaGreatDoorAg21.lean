import Derived.Test.YtdncpkkhkbijfaaGreatDoorAg20
open Go.Proofs.Tryz
set_option linter.all false
set_option maxHeartbeats 0
set_option maxRecDepth 100000
namespace Go.Proofs.YtdncpkkhkbijfaaGreatDoor
section
open Go.RowKit
variable {B g P T N:Nat}{L:List Tk}{w0 w w':World}{R0 R R':Bx}{d:Nat}{o:Except Qq PS}{v:Value}{acc:List Int}{K n:Int}{S:ByteArray}
theorem Run.params {a:Int} {l:List Int} {v':Value} {o':Except Qq PS} (H:Run B g P T L w0 R0 d w R o N K v acc n S a) (hp:Pre B g P T L w R d w' R' o' v' l):Run B g P T L w0 R0 d (w'.setCell ⟨N,1,none⟩ v') R' o' N K v' l n S a/\w'.cell? ⟨N,1,none⟩=some v/\w'.frozen? ⟨N,1,none⟩=false:=by
 have Lb:=H.any.held hp.fr H.box (by decide) (by decide) H.off;have hoff:R'.vn.ownBlock≠some N:=λe=>by
  rcases hp.fr.vn N e with h |h
  ·exact H.off h
  ·have:=H.box.lt;omega
 have h1:Pre B g P T L w0 R0 d w' R' o' v' l:=⟨hp.any,H.fr.trans hp.fr,λk hk=>hp.z0 k (H.z0 k hk),hp.zv,Qb1 hp.now H.fr.size,hp.par,H.base⟩;exact ⟨h1.Qx3 Lb hoff H.new,Lb.at_ rfl,Lb.frozen 1⟩
def Qct (d:Nat):PS->Nat->Option Out:=λs n=>Qm Ki s λs1=>Qac n .func d s1
theorem Does.func {u:Out} (h:Does o (λs n=>Xf s λnm at_ s1=>Qm lp s1 λs2=>Out.go (if s2.is rp then some (.ok ([],s2.next))else Qac n (.params []) d s2) λps s3=>V3 s3 λk s4=>Out.go (Qac n .block d s4) λb s5=>some (lay (En 25 (ps++[hd1 b]) k nm at_) s5)) u):Does o (λs n=>Qac n .func d s) u:=by
 cases o with
 |error f=>exact h
 |ok s=>exact (Qs.func h).ev
theorem Wj8 {u:Out} (h:Does o (λs2 n=>if s2.is rp then some (.ok ([],s2.next))else Qac n (.params []) d s2) u) (n m:Nat) (hl:Qc o n m):Qc (toO u) n m:=by
 cases o with
 |error f=>rw [show u=_ from h];exact Qc.err
 |ok s=>
  cases hb:s.is rp with
  |true=>
   obtain ⟨n0,hn⟩:=h;have h1:some (Except.ok ([],s.next))=some u:=(Qk hb).symm.trans (hn n0 (Qh _));injection h1 with h1
   subst h1;exact (hl.Fh hb).mono (by omega) (by omega)
  |false=>
   refine Does.left (m:=.params []) (d:=d) (o:=.ok s) (λacc e=>by cases e) ?_ n m hl;obtain ⟨n0,hn⟩:=h;refine ⟨n0,λk hk=> ?_⟩;exact (Qd (by rw [hb];decide)).symm.trans (hn k hk)
theorem Wo0 {u:Out} {en:Ending} {R1:Bx} (hoo: ∀s,o= .ok s->1<=s.r.length) (hl: ∀n m,Qc o n m->Qc (toO u) (n-1+1) (m-1)) (h:Does o (Qct d) u) (hc:Came B g L w R d u en w' R1): ∃u R',Does o (Qct d) u/\Came B g L w R d u en w' R'/\ ∀n m,Qc o n m->Qc (toO u) n m:=by
 refine ⟨u,R1,h,hc,λn m hm=> ?_⟩;cases o with
 |error f=>rw [show u=_ from h];exact Qc.err
 |ok s=>
  have h1:=hoo s rfl;have h2:=hm s rfl;exact (hl n m hm).mono (by omega) (by omega)
theorem Q37 (H:Any B g L w R d o) (hP:Ke w g P T) (hd:d<=200) (hl:Qc o L.length L.length):
  Calls prog 62 #[.pointer (some ⟨P,0,none⟩)] w λen w'=> ∃u R',Does o (Qct d) u/\Came B g L w R d u en w' R'/\ ∀n m,Qc o n m->Qc (toO u) n m:=by
 obtain ⟨w0,hw0⟩:=Qb w;obtain ⟨R0,hR0⟩:=Qb R;have HR:Hid (Pre B g P T L w0 R0 d w R o (.slice none 0 0) []):=by rw [hw0,hR0];exact Pre.start H hP
 have HW0:=Qa hw0;have Jg:=Qa hR0;have HL:=Qa hl;have Wv:=Qa hd;have hp:=HR.out.par.c0;clear H hP hl hd hw0 hR0;have Xj:Hid (∀s,o= .ok s->1<=s.r.length):=λs hs=>Qs6 HR.out.any hs;go_enter func62,ntmps62;rw [Qz 3];go_wp2_with fail;refine (Qb0 Ki HR.out.any).mono ?_;rintro en w1 ⟨⟨x,rfl⟩,ha,hf⟩;replace HR:=Qa (HR.out.step ha hf rfl);clear ha hf hp;obtain ⟨oa,hoa⟩:=Qb (Yv Ki o);rw [<-hoa]at HR;have HOA:=Qa hoa;clear hoa;go_wp2_with fail;refine (Qjj HR.out.any HR.out.par 25).mono ?_;rintro en w2 ⟨ta,rfl,Wp,ha,hf⟩;replace HR:=Qa (HR.out.step ha hf rfl);have Wj:=Qa Wp;obtain ⟨X,hX⟩:=Qb (Cj oa);rw [<-hX];have HX:=Qa hX;clear ha hf Wp hX;obtain ⟨W,hW⟩:=Qb (w2.alloc (.cells #[.int .i64 25,.slice none 0 0,.int .i64 0,.string X,.int .i64 (ta:Int)] 37));obtain ⟨N,hN⟩:=Qb w2.heap.size;have HQ:Hid (Run B g P T L w0 R0 d W R (Vg oa) N 25 (.slice none 0 0) [] 0 X (ta:Int)):=by rw [hW,hN];exact HR.out.node 25 0 X ta
 have HLA:Hid (∀n m,Qc o n m->Qc oa (n-1) (m-1)):=λn m h=>by rw [HOA.out];exact Qc.Qpc h
 have Ec:Hid (∀n m,Qc o n m->Qc (Vg oa) (n-1) (m-1)):=λn m h=>Qc.Sk (HLA.out n m h);clear HR;go_wp2_with fail;rw [<-hW,<-hN];clear hW hN;refine Qn ?_;go_wp2_with fail;refine (Wfw HQ.out.any HQ.out.par ((Ec.out _ _ HL.out).mono (by omega) (by omega))).mono ?_;rintro en w3 ⟨u1,R1,v1,l1,rfl,hdo,hpre,hlen,hlp⟩;obtain ⟨sa,sc,hv1⟩:=Zq hpre.now;subst hv1;obtain ⟨hq,hc1,hf1⟩:=HQ.out.params hpre;obtain ⟨W3,hW3⟩:=Qb (w3.setCell ⟨N,1,none⟩ (.slice sa l1.length sc));rw [<-hW3]at hq;have HV:=Qa hq;have HDP:=Qa hdo;have HLEN:=Qa hlen;have HLP:=Qa hlp;have HLC:Hid (∀n m,Qc o n m->Qc (toO u1) (n-1) (m-1)):=λn m h=>Wj8 HDP.out _ _ (Qc.Ao (Ec.out n m h));clear hdo hpre hlen hlp hq HQ;go_wp2_with fail;rw [<-hW3];clear hW3 hc1 hf1;refine (Qsv HV.out.any HV.out.par).mono ?_;rintro en w5 ⟨rfl,ha,hf⟩;replace HV:=Qa (HV.out.step ha hf rfl);obtain ⟨kd,hkd⟩:=Qb (Lv (toO u1):Nat);rw [<-hkd];have Vx:=Qa hkd;clear ha hf hkd;have b2:=HV.out.n2;have g2:=HV.out.box.frozen 2;replace HV:=Qa (HV.out.Qmi (kd:Int));obtain ⟨w6,Gz⟩:=Qb (w5.setCell ⟨N,2,none⟩ (.int .i64 (kd:Int)));rw [<-Gz]at HV;have HLD:Hid (∀n m,Qc o n m->Qc (F3 (toO u1)) (n-1) (m-1)):=λn m h=>Qc.Qjb (HLC.out n m h);go_wp2_with fail;rw [<-Gz];clear Gz b2 g2;have Q0:=Qa (HV.out.below (Zk w6));have b1:=HV.out.n1;have hp:=HV.out.par.c0;go_cut [] (λwx=>Hid (Tx B g P T L w0 R0 d (F3 (toO u1)) (λs n=>Qac n .block d s) N 25 l1 (kd:Int) X (ta:Int) wx))
 case first=>
  go_region_law (first
   |(go_simp;go_at_call 95;refine ((Wh3 Q0.out.any Q0.out.par Wv.out ((HLD.out _ _ HL.out).mono (by omega) (by omega)))).mono ?_;rintro en w2 ⟨u,R2,hdo,hc,Wd⟩;obtain rfl:=hc.en;have HR2:=Qa (Q0.out.step hc.any hc.fr hc.z);have Wu:=Qa hdo;have Xo:=Qa Wd;obtain ⟨k,hk⟩:=Qb (Qt u);rw [<-hk];have HK:=Qa hk;clear hdo hc Wd hk;have c1:=HR2.out.n1;have c2:=(HR2.out.below ((Below.refl _ _).alloc (Qh _) (.cells #[.int .i64 k] 3))).n1)
   |(refine Mf rfl (.tmp 18) (.tmp 21) rfl w0.heap.size w2 (.slice sa l1.length sc) l1 k (by rfl) (by rfl) HR2.out.now HR2.out.fr.size (by have:=HLEN.out;omega) ?_;intro v3 w3 h3 hg3 hw3;obtain ⟨va,vc,hv3⟩:=Zq h3;obtain ⟨R3,hr3,hc3,hf3⟩:=HR2.out.push h3 hg3 hw3;have HR3:=Qa hr3;clear hr3 h3 hg3 hw3;rw [Qf,Yw]at hv3;subst hv3))
  all_goals
   go_wp2_with fail;go_meet;exact ⟨u,R3,_,Wu.out,Xo.out,by rw [<-HK.out];exact HR3.out⟩
 case rest=>
  obtain ⟨u2,R2,v2,hdo,Wd,hr⟩:=hcut.out;obtain ⟨W7,hwc⟩:=Qb wc;rw [<-hwc]at hr ⊢;have HY:=Qa hr;have HD2:=Qa hdo;have Vm:=Qa Wd;clear hcut hdo Wd hr hwc hp b1 Q0;have hp:=HY.out.par.c0;have b0:=HY.out.n0;have b1:=HY.out.n1;have b2:=HY.out.n2;have b3:=HY.out.n3;have b4:=HY.out.n4;go_wp2_with fail;go_still_tail 5,(by kernel_rfl);change wpList _ _ _ _ _ W7.drew;have HZ:=Qa (HY.out.below (Zk W7));go_wp2_with fail;refine (Ob _ _ _ _ _ _ HZ.out.any HZ.out.now ((Vm.out _ _ (HLD.out _ _ HL.out)).self.mono (by omega) (by omega)) (by have:=HLEN.out;simp;omega)).mono ?_;rintro en wz ⟨uz,Rz,hdo,hc,Wd⟩;obtain rfl:=hc.en;have Eb:=Qa (HZ.out.came hc);have Gp:=Qa hdo;have U6:=Qa Wd;clear hdo hc Wd;go_wp2_with fail;go_ret;have HLZ:Hid (∀n m,Qc o n m->Qc (toO uz) (n-1+1) (m-1)):=λn m h=>U6.out _ _ (Vm.out _ _ (HLD.out _ _ h));have hw0:=HW0.out;have hR0:=Jg.out;subst hw0 hR0;exact Wo0 Xj.out HLZ.out (Does.need (b:=Ki) (G:=λs1 n=>Qac n .func d s1) (by rw [<-HOA.out];exact Does.func (Does.name (G:=λnm at_ s1 n=>Qm lp s1 λs2=>Out.go (if s2.is rp then some (.ok ([],s2.next))else Qac n (.params []) d s2) λps s3=>V3 s3 λk s4=>Out.go (Qac n .block d s4) λb s5=>some (lay (En 25 (ps++[hd1 b]) k nm at_) s5)) (λs hs=>Wj.out s hs) (by rw [<-HX.out];exact Does.need (b:=lp) (G:=λs2 n=>Out.go (if s2.is rp then some (.ok ([],s2.next))else Qac n (.params []) d s2) λps s3=>V3 s3 λk s4=>Out.go (Qac n .block d s4) λb s5=>some (lay (En 25 (ps++[hd1 b]) k X ta) s5)) (Does.go' (q:=l1) (G:=λps s3 n=>V3 s3 λk s4=>Out.go (Qac n .block d s4) λb s5=>some (lay (En 25 (ps++[hd1 b]) k X ta) s5)) HDP.out HLP.out (Does.kind (G:=λk s4 n=>Out.go (Qac n .block d s4) λb s5=>some (lay (En 25 (l1++[hd1 b]) k X ta) s5)) (by rw [<-Vx.out];exact Does.go (G:=λb s5 n=>some (lay (En 25 (l1++[b]) kd X ta) s5)) HD2.out Gp.out))))))) Eb.out
end
section
open Go.RowKit
variable {B g P T N:Nat}{L:List Tk}{w0 w w':World}{R0 R R':Bx}{d:Nat}{o:Except Qq PS}{v:Value}{acc:List Int}{K n:Int}{S:ByteArray}
theorem Wdd {f:Nat->PS->Option Out} {s:PS} {v:Out} (h:V3 s f=some v) (g: ∀k s1,f k s1=some v->Lh v):Lh v:=by
 unfold V3 at h;split at h
 ·injection h with h;subst h;exact Qkp
 ·exact g _ _ h
theorem Wqq {s:PS} {v:Out} (h:Qs .func d s v):Lh v:=by
 obtain ⟨n,h⟩:=h;cases n with
 |zero=>cases h
 |succ n=>
  rw [Qac]at h;exact Qmc h λ_ _ _ h=>Ls h λ_ h=>U8 h λ_ _ h=>Wdd h λ_ _ h=>U8 h λ_ _ h=>M8 h
theorem Q1j {s:PS} {u:Out} (hb:s.is Ki=true) (h:Does (.ok s) (Qct d) u):Qs .func d s.next u:=by obtain ⟨n,hn⟩:=h;exact ⟨n,(Qk hb).symm.trans (hn n (Qh _))⟩
theorem Qr2 {s:PS} {acc:List Int} {u v:Out} (hb:s.is Ki=true) (ha:acc.length<200) (h:Does (.ok s) (Qct d) u) (r:Does (toO u) (λs n=>Qac n (.prog (acc++[Qt u])) d s) v):Does (.ok s) (λs n=>Qac n (.prog acc) d s) v:=by
 have h1:=Q1j hb h
 match u,h1,r with
 | .error f,h1,r=>rw [show v=_ from r];exact (Qs.Wqm hb ha h1).ev
 | .ok (l,s1),h1,r=>
  have h2:=Wqq h1 l s1 rfl;rw [h2]at h1;exact (Qs.Q2y hb ha h1 r.to_preads).ev
structure Qpn (B g P T:Nat) (L:List Tk) (w0:World) (R0:Bx) (d:Nat) (o:Except Qq PS) (N:Nat) (wr:World) (R1:Bx) (o1:Except Qq PS) (v1:Value) (acc:List Int):Prop where
 run:Run B g P T L w0 R0 d wr R1 o1 N 26 v1 acc 0 ⟨#[]⟩ ((0:Nat):Int)
 lim:Qc o1 L.length L.length
 few:acc.length<=201
 many: ∀s,o1= .ok s->acc.length<=200
 cont: ∀u,Does o1 (λs n=>Qac n (.prog acc) d s) u->Does o (λs n=>Qac n (.prog []) d s) u
theorem Q4i {x a n m:Nat}:Qc (Lu x a o) n m:=by
 cases o with
 |ok s=>exact Qc.err
 |error f=>exact Qc.err
theorem Wmo {acc:List Int} {u:Out} (hk: ∀s,o= .ok s->s.tok.kind=0) (h:Does o (λs _=>some (lay (En 26 acc 0 ⟨#[]⟩ ((0:Nat):Int)) s)) u):Does o (λs n=>Qac n (.prog acc) d s) u:=by
 cases o with
 |error f=>exact h
 |ok s=>rw [Ev.Qyn h];exact (Qs.Qiy (hk s rfl)).ev
theorem Wb4 {acc:List Int} {u:Out} {tk ta:Nat} (ht: ∀s,o= .ok s->tk=s.tok.kind/\ta=s.tok.place) (hk:tk≠0) (hb: ∀s,o= .ok s->s.is Ki=false) (h:Does (Lu 8 ta o) (λs _=>some (lay (En 26 acc 0 ⟨#[]⟩ ((0:Nat):Int)) s)) u):Does o (λs n=>Qac n (.prog acc) d s) u:=by
 cases o with
 |error f=>exact h
 |ok s=>
  obtain ⟨h1,h2⟩:=ht s rfl;subst h1 h2;rw [show u=_ from h];exact (Qs.Qw9 hk (hb s rfl)).ev
theorem Wcl (H:Any B g L w R d o) (hP:Ke w g P T) (hd:d<=200) (hl:Qc o L.length L.length):
  Calls prog 24 #[.pointer (some ⟨P,0,none⟩)] w λen w'=> ∃u R',(∃x,en= .returned x)/\Does o (λs n=>Qac n (.prog []) d s) u/\Fr g w w' R R'/\Any B g L w' R' d (toO u):=by
 obtain ⟨w0,hw0⟩:=Qb w;obtain ⟨R0,hR0⟩:=Qb R;have HR:Hid (Pre B g P T L w0 R0 d w R o (.slice none 0 0) []):=by rw [hw0,hR0];exact Pre.start H hP
 have HW0:=Qa hw0;have Jg:=Qa hR0;have HL:=Qa hl;have Wv:=Qa hd;have hp:=HR.out.par.c0;clear H hP hl hd hw0 hR0;obtain ⟨W,hW⟩:=Qb (w.alloc (.cells #[.int .i64 26,.slice none 0 0,.int .i64 0,.string ⟨#[]⟩,.int .i64 0] 37));obtain ⟨N,hN⟩:=Qb w.heap.size;have HQ:Hid (Run B g P T L w0 R0 d W R o N 26 (.slice none 0 0) [] 0 ⟨#[]⟩ ((0:Nat):Int)):=by rw [hW,hN];exact HR.out.node 26 0 ⟨#[]⟩ 0
 clear hp;go_enter func24,ntmps24;go_wp2_with fail;rw [<-hW,<-hN];clear hW hN;go_loopw [] (λwr=> ∃(o1:Except Qq PS) (R1:Bx) (v1:Value) (acc:List Int),Hid (Qpn B g P T L w0 R0 d o N wr R1 o1 v1 acc)) (λwr=>lam g L.length wr)
 case atStart=>exact ⟨o,R,_,[],⟨HQ.out,HL.out,by simp,λs hs=>by simp,λu h=>h⟩⟩
 case round=>
  obtain ⟨o1,R1,v1,acc,HX⟩:=hrel;clear HQ HR;have hp:=HX.out.run.par.c0;go_wp2_with fail;refine (Qmu Ki HX.out.run.any).mono ?_;rintro en w1 ⟨c,rfl,hb,hc⟩;have HV:=Qa (HX.out.run.below hb);have Xz:=Qa hb;clear hb hp;rcases hc with ⟨rfl,s,hs,hb⟩ |⟨rfl,hb⟩
  ·have HB:=Qa hb;have HS:=Qa hs;clear hb hs;obtain ⟨la,lc,hv⟩:=Zq HV.out.now;obtain ⟨A,hA⟩:=Qb acc.length;rw [<-hA]at hv;subst hv;have HA:=Qa hA;have hA2:=HX.out.many s HS.out;rw [<-hA]at hA2;have HA2:=Qa hA2;clear hA;have HRS:Hid (1<=s.r.length):=Qs6 HX.out.run.any HS.out;have Pv:Hid (lam g L.length wr=s.r.length):=by have h2:=HX.out.run.any;rw [HS.out]at h2;exact Good.lam h2
   have b1:=HV.out.n1;by_cases h2:A=200
   ·have h2i:((A:Int)==200)=true:=(by simp;omega);have Cx:Hid (acc.length=200):=(by show _=_;rw [<-HA.out];exact h2);clear h2 hA2;have Xp:=Xm;have HD:=Qa (HV.out.below (Zk w1));have hp2:=HD.out.par.c0;have hp:=HV.out.par.c0;go_wp2_with fail;go_cut [] (λwx=> ∃ta:Nat,ta=s.tok.place/\Hid (Run B g P T L w0 R0 d wx R1 (Lu 3 ta o1) N 26 (.slice la A lc) acc 0 ⟨#[]⟩ ((0:Nat):Int)))
    case first=>
     go_region_with (first
      |(go_at_call 61;refine (Qdl HD.out.any).mono ?_;rintro en w2 ⟨tk,tn,ta,tx,rfl,Wp,hb⟩;have Wj:=Qa Wp;have HY:=Qa (HD.out.below hb);have hp3:=HY.out.par.c0;clear hb Wp)
      |(go_at_call 60;refine (Qjg 3 ta (by decide) HY.out.any).mono ?_;rintro en w3 ⟨⟨v,rfl⟩,ha,hf⟩;have HF:=Qa (HY.out.step ha hf rfl);clear ha hf))
     all_goals
      go_wp2_with fail;go_meet;exact ⟨ta,(Wj.out s HS.out).2,HF⟩
    case rest=>
     obtain ⟨ta,Wp,HF⟩:=hcut;have HTP:=Qa Wp;obtain ⟨W2,hW2⟩:=Qb wc;rw [<-hW2]at HF ⊢;clear Wp hW2 hp hp2 b1 HD HV;have HLQ:Hid (Qc (Lu 3 ta o1) L.length L.length):=Q4i;go_wp2_with fail;have Q0:=Qa (HF.out.below (Zk W2));have b1:=HF.out.n1;have hp:=HF.out.par.c0;go_region_law (first
      |(go_simp;go_at_call 62;refine ((Q37 Q0.out.any Q0.out.par Wv.out HLQ.out)).mono ?_;rintro en w2 ⟨u,R2,hdo,hc,Wd⟩;obtain rfl:=hc.en;have HR2:=Qa (Q0.out.step hc.any hc.fr hc.z);have Wu:=Qa hdo;have Xo:=Qa Wd;obtain ⟨k,hk⟩:=Qb (Qt u);rw [<-hk];have HK:=Qa hk;clear hdo hc Wd hk;have c1:=HR2.out.n1;have c2:=(HR2.out.below ((Below.refl _ _).alloc (Qh _) (.cells #[.int .i64 k] 3))).n1)
      |(refine Mf rfl (.tmp 26) (.tmp 29) rfl w0.heap.size w2 (.slice la A lc) acc k (by rfl) (by rfl) HR2.out.now HR2.out.fr.size (by have:=HX.out.few;omega) ?_;intro v3 w3 h3 hg3 hw3;obtain ⟨va,vc,hv3⟩:=Zq h3;obtain ⟨R3,hr3,hc3,hf3⟩:=HR2.out.push h3 hg3 hw3;have HR3:=Qa hr3;clear hr3 h3 hg3 hw3;rw [Qf,Yw]at hv3;subst hv3))
     all_goals
      clear hp b1 Q0;obtain ⟨u1,hu1⟩:=Qb u;obtain ⟨W3,hW3⟩:=Qb (w3.setCell ⟨N,1,none⟩ (.slice va (acc.length+1) vc));obtain ⟨v2,hv2⟩:=Qb (Value.slice va (acc.length+1) vc);obtain ⟨R2,hR2⟩:=Qb R3;have HU:Hid (Run B g P T L w0 R0 d W3 R2 (toO u1) N 26 v2 (acc++[Qt u1]) 0 ⟨#[]⟩ ((0:Nat):Int)):=(by rw [hW3,hv2,hR2,hu1,<-HK.out];exact HR3.out);have HD1:Hid (Does (Lu 3 ta o1) (Qct d) u1):=(by rw [hu1];exact Wu.out);have Ym:Hid (∀n m,Qc (Lu 3 ta o1) n m->Qc (toO u1) n m):=(by rw [hu1];exact Xo.out);clear HR3 Wu Xo;go_wp2_with fail;rw [<-hW3];clear hW3 hv2 hR2 hu1;have HE:Hid (u1= .error (3,s.tok.place)):=by have h1:=HD1.out;rw [HS.out,HTP.out]at h1;exact h1
      have HMS:Hid (lam g L.length W3<lam g L.length wr):=by have h1:=HU.out.any;rw [HE.out]at h1;have h2:Bad B g L W3 R2 d (3,s.tok.place):=h1;have h3:=HRS.out;show lam _ _ _<lam _ _ _;rw [h2.lam,Pv.out];omega
      have Yi:Hid (Qpn B g P T L w0 R0 d o N W3 R2 (toO u1) v2 (acc++[Qt u1])):=by refine ⟨HU.out,(by rw [HE.out];exact Qc.err),(by rw [Qf,Cx.out];simp),(λs' e=>by rw [HE.out]at e;cases e),λu h=> ?_⟩;rw [HE.out]at h;rw [show u=_ from h];refine HX.out.cont _ ?_;rw [HS.out];exact (Qs.Qlj HB.out (by rw [Cx.out];decide)).ev
      go_roundw
      case rel=>exact ⟨_,R2,_,_,Yi⟩
      case measure=>exact HMS.out
   ·have h2i:((A:Int)==200)=false:=(by simp;omega);have Cx:Hid (acc.length<200):=(by show _<_;rw [<-HA.out];omega);clear h2 hA2;have HLQ:Hid (Qc o1 L.length L.length):=HX.out.lim;go_wp2_with fail;clear b1;have Q0:=Qa (HV.out.below (Zk w1));have b1:=HV.out.n1;have hp:=HV.out.par.c0;go_region_law (first
     |(go_simp;go_at_call 62;refine ((Q37 Q0.out.any Q0.out.par Wv.out HLQ.out)).mono ?_;rintro en w2 ⟨u,R2,hdo,hc,Wd⟩;obtain rfl:=hc.en;have HR2:=Qa (Q0.out.step hc.any hc.fr hc.z);have Wu:=Qa hdo;have Xo:=Qa Wd;obtain ⟨k,hk⟩:=Qb (Qt u);rw [<-hk];have HK:=Qa hk;clear hdo hc Wd hk;have c1:=HR2.out.n1;have c2:=(HR2.out.below ((Below.refl _ _).alloc (Qh _) (.cells #[.int .i64 k] 3))).n1)
     |(refine Mf rfl (.tmp 26) (.tmp 29) rfl w0.heap.size w2 (.slice la A lc) acc k (by rfl) (by rfl) HR2.out.now HR2.out.fr.size (by have:=HX.out.few;omega) ?_;intro v3 w3 h3 hg3 hw3;obtain ⟨va,vc,hv3⟩:=Zq h3;obtain ⟨R3,hr3,hc3,hf3⟩:=HR2.out.push h3 hg3 hw3;have HR3:=Qa hr3;clear hr3 h3 hg3 hw3;rw [Qf,Yw]at hv3;subst hv3))
    all_goals
     clear hp b1 Q0;obtain ⟨u1,hu1⟩:=Qb u;obtain ⟨W3,hW3⟩:=Qb (w3.setCell ⟨N,1,none⟩ (.slice va (acc.length+1) vc));obtain ⟨v2,hv2⟩:=Qb (Value.slice va (acc.length+1) vc);obtain ⟨R2,hR2⟩:=Qb R3;have HU:Hid (Run B g P T L w0 R0 d W3 R2 (toO u1) N 26 v2 (acc++[Qt u1]) 0 ⟨#[]⟩ ((0:Nat):Int)):=(by rw [hW3,hv2,hR2,hu1,<-HK.out];exact HR3.out);have HD1:Hid (Does o1 (Qct d) u1):=(by rw [hu1];exact Wu.out);have Ym:Hid (∀n m,Qc o1 n m->Qc (toO u1) n m):=(by rw [hu1];exact Xo.out);clear HR3 Wu Xo;go_wp2_with fail;rw [<-hW3];clear hW3 hv2 hR2 hu1;have HE:Hid (Does (.ok s) (Qct d) u1):=(by have h1:=HD1.out;rw [HS.out]at h1;exact h1);have HMS:Hid (lam g L.length W3<lam g L.length wr):=by
      have h0:=HU.out.any;have h3:=HRS.out;show lam _ _ _<lam _ _ _;rw [Pv.out]
      match u1,HE,h0 with
      | .error f,_,h0=>
       have h2:Bad B g L W3 R2 d f:=h0;rw [h2.lam];omega
      | .ok (l,s1),HE,h0=>
       have h2:Good B g L W3 R2 d s1:=h0;have h4:=(Qs.left (λacc e=>by cases e) (Q1j HB.out HE.out)).toks;have h5:=Ve HB.out;rw [h2.lam];omega
     have Yi:Hid (Qpn B g P T L w0 R0 d o N W3 R2 (toO u1) v2 (acc++[Qt u1])):=by refine ⟨HU.out,Ym.out _ _ HX.out.lim,by rw [Qf,Yw];have:=Cx.out;omega,λs' e=>by rw [Qf,Yw];have:=Cx.out;omega,λu h=> ?_⟩;refine HX.out.cont _ ?_;rw [HS.out];exact Qr2 HB.out Cx.out HE.out h
     go_roundw
     case rel=>exact ⟨_,R2,_,_,Yi⟩
     case measure=>exact HMS.out
  ·have HB:=Qa hb;clear hb;have hp:=HV.out.par.c0;go_wp2_with fail;refine (Qdl HV.out.any).mono ?_;rintro en w2 ⟨tk,tn,ta,tx,rfl,Wp,hb⟩;replace HV:=Qa (HV.out.below hb);have Wj:=Qa Wp;clear hb Wp hp;obtain ⟨W4,Bt⟩:=Qb (w2.alloc (.cells #[.int .i64 (tk:Int),.string tx,.int .i64 (tn:Int),.int .i64 (ta:Int)] 69));obtain ⟨G,hG⟩:=Qb w2.heap.size;have HGT:Hid (Held W4 G 69 #[.int .i64 (tk:Int),.string tx,.int .i64 (tn:Int),.int .i64 (ta:Int)]):=(by rw [Bt,hG];exact Held.new _ _ _);have hb4:Below w2.heap.size w2 W4:=(by rw [Bt];exact Qag);replace HV:=Qa (HV.out.below hb4);clear hb4;go_upto_region 6 with fail
   rw [<-Bt,<-hG];clear Bt hG;have z0:=HGT.out.t0;have z3:=HGT.out.t3;have hp:=HV.out.par.c0;by_cases hk0:tk=0
   ·subst hk0;clear hp;have hp:=HV.out.par.c0;have b0:=HV.out.n0;have b1:=HV.out.n1;have b2:=HV.out.n2;have b3:=HV.out.n3;have b4:=HV.out.n4;go_wp2_with fail;go_still_tail 5,(by kernel_rfl);change wpList _ _ _ _ _ W4.drew;have HZ:=Qa (HV.out.below (Zk W4));go_wp2_with fail;refine (Ob _ _ _ _ _ 0 HZ.out.any HZ.out.now HX.out.lim (by have:=HX.out.few;omega)).mono ?_;rintro en wz ⟨uz,Rz,hdo,hc,Wd⟩;obtain rfl:=hc.en;have Eb:=Qa (HZ.out.came hc);have Gp:=Qa hdo;clear hdo hc Wd;go_wp2_with fail;go_end0;have hw0:=HW0.out;have hR0:=Jg.out;subst hw0 hR0;exact ⟨uz,_,⟨_,rfl⟩,HX.out.cont uz (Wmo (λs hs=>(Wj.out s hs).1.symm) Gp.out),Eb.out.fr,Eb.out.any⟩
   ·have hk1:((tk:Int) != 0)=true:=(by simp;omega);have Ms:=Qa hk0;go_wp2_with fail;go_still_tail 6,(by kernel_rfl);change wpList _ _ _ _ _ W4.drew;replace HV:=Qa (HV.out.below (Zk W4));clear hp z0 z3;go_wp2_with fail;refine (Qjg 8 ta (by decide) HV.out.any).mono ?_;rintro en w5 ⟨⟨x5,rfl⟩,ha,hf⟩;replace HV:=Qa (HV.out.step ha hf rfl);clear ha hf;have hp:=HV.out.par.c0;have b0:=HV.out.n0;have b1:=HV.out.n1;have b2:=HV.out.n2;have b3:=HV.out.n3;have b4:=HV.out.n4;go_wp2_with fail;go_still_tail 5,(by kernel_rfl);change wpList _ _ _ _ _ w5.drew;have HZ:=Qa (HV.out.below (Zk w5));go_wp2_with fail;refine (Ob _ _ _ _ _ 0 HZ.out.any HZ.out.now Q4i (by have:=HX.out.few;omega)).mono ?_;rintro en wz ⟨uz,Rz,hdo,hc,Wd⟩;obtain rfl:=hc.en;have Eb:=Qa (HZ.out.came hc);have Gp:=Qa hdo;clear hdo hc Wd;go_wp2_with fail;go_end0;have hw0:=HW0.out;have hR0:=Jg.out;subst hw0 hR0;exact ⟨uz,_,⟨_,rfl⟩,HX.out.cont uz (Wb4 (λs hs=>Wj.out s hs) Ms.out HB.out Gp.out),Eb.out.fr,Eb.out.any⟩
end
section
open Go.RowKit
theorem Qv0 (n:Nat) (w:World):
  Calls prog 125 #[.int .u8 (n:Int)] w λe w'=>e= .returned (.bool (Yn n))/\w'=w:=by
 go_enter func125,ntmps125;go_wp2
 all_goals go_ret
 all_goals refine ⟨congrArg (λb=>Ending.returned (Value.bool b)) ?_,rfl⟩
 all_goals (rw [Bool.eq_iff_iff];simp [Yn];try omega)
theorem Q5z (n:Nat) (w:World):
  Calls prog 122 #[.int .u8 (n:Int)] w λe w'=>e= .returned (.bool (isLt n))/\w'=w:=by
 go_enter func122,ntmps122;go_wp2
 all_goals go_ret
 all_goals refine ⟨congrArg (λb=>Ending.returned (Value.bool b)) ?_,rfl⟩
 all_goals (rw [Bool.eq_iff_iff];simp [isLt];try omega)
theorem Wb8 (n:Nat) (w:World):
  Calls prog 124 #[.int .u8 (n:Int)] w λe w'=>e= .returned (.bool (Vt n))/\w'=w:=by
 go_enter func124,ntmps124;go_wp2_with fail;refine (Q5z n w).mono ?_;rintro e w1 ⟨rfl,hw1⟩;rw [hw1];clear hw1 w1;cases hl:isLt n with
 |true=>
  go_wp2_with fail;go_ret;exact ⟨by simp [Vt,hl],rfl⟩
 |false=>
  go_wp2_with fail;refine (Qv0 n w).mono ?_;rintro e w1 ⟨rfl,hw1⟩;rw [hw1];clear hw1 w1;go_wp2_with fail;go_ret;exact ⟨by simp [Vt,hl],rfl⟩
theorem Wbk (s:ByteArray) (q:Nat) (w:World) (hs:s.size<=1000000000) (hq:q<=s.size):
  Calls prog 123 #[.string s,.int .i64 (q:Int),.func (.func 124) #[] #[]] w λe w'=>e= .returned (.int .i64 ((q+rn Vt (s.data.toList.drop q):Nat):Int))/\w'=w:=by
 obtain ⟨l,hl⟩:=Qb s.data.toList;have hlen:l.length=s.size:=by rw [hl];exact Au
 have HLEN:=Qa hlen;rw [<-hl];have HL:=Qa hl;obtain ⟨m,hm⟩:=Qb (q+rn Vt (l.drop q));have HM:=Qa hm;rw [<-hm];clear hl hlen hm;go_enter func123,ntmps123;go_wp2_with fail;go_loop [1] (λi=> ∃k:Nat,k<=s.size/\i= .int .i64 (k:Int)/\Hid (m=k+rn Vt (l.drop k))) (λi=>s.size-(intOf i).toNat)
 case atStart=>exact ⟨q,hq,rfl,HM⟩
 case round=>
  obtain ⟨k,hk,rfl,hK⟩:=hrel;by_cases hlt:k<s.size
  ·have hb:=Qa (Hq HL.out hlt);have hkl:Hid (k<l.length):=(by show k<l.length;rw [HLEN.out];exact hlt);go_wp2_with fail;refine (Wb8 s[k].toNat w).mono ?_;rintro e w1 ⟨rfl,hw1⟩;rw [hw1,<-hb.out];clear hw1 w1;cases hp:Vt (bt l k)with
   |true=>
    have HP:=Qa hp;clear hp;go_wp2_with fail;go_round
    case rel=>exact ⟨k+1,by omega,by go_num,(show m=k+1+rn Vt (l.drop (k+1)) by rw [hK.out,Qc2 hkl.out HP.out];omega)⟩
    case measure=>simp [intOf];omega
   |false=>
    have HP:=Qa hp;clear hp;go_wp2_with fail;go_ret;refine ⟨?_,rfl⟩;rw [hK.out,Qot hkl.out HP.out];rfl
  ·go_wp2_with fail;go_ret;refine ⟨?_,rfl⟩;rw [hK.out,Qmr (by rw [HLEN.out];omega)];rfl
theorem Wdg (s:ByteArray) (q:Nat) (w:World) (hs:s.size<=1000000000) (hq:q<=s.size):
  Calls prog 123 #[.string s,.int .i64 (q:Int),.func (.func 125) #[] #[]] w λe w'=>e= .returned (.int .i64 ((q+rn Yn (s.data.toList.drop q):Nat):Int))/\w'=w:=by
 obtain ⟨l,hl⟩:=Qb s.data.toList;have hlen:l.length=s.size:=by rw [hl];exact Au
 have HLEN:=Qa hlen;rw [<-hl];have HL:=Qa hl;obtain ⟨m,hm⟩:=Qb (q+rn Yn (l.drop q));have HM:=Qa hm;rw [<-hm];clear hl hlen hm;go_enter func123,ntmps123;go_wp2_with fail;go_loop [1] (λi=> ∃k:Nat,k<=s.size/\i= .int .i64 (k:Int)/\Hid (m=k+rn Yn (l.drop k))) (λi=>s.size-(intOf i).toNat)
 case atStart=>exact ⟨q,hq,rfl,HM⟩
 case round=>
  obtain ⟨k,hk,rfl,hK⟩:=hrel;by_cases hlt:k<s.size
  ·have hb:=Qa (Hq HL.out hlt);have hkl:Hid (k<l.length):=(by show k<l.length;rw [HLEN.out];exact hlt);go_wp2_with fail;refine (Qv0 s[k].toNat w).mono ?_;rintro e w1 ⟨rfl,hw1⟩;rw [hw1,<-hb.out];clear hw1 w1;cases hp:Yn (bt l k)with
   |true=>
    have HP:=Qa hp;clear hp;go_wp2_with fail;go_round
    case rel=>exact ⟨k+1,by omega,by go_num,(show m=k+1+rn Yn (l.drop (k+1)) by rw [hK.out,Qc2 hkl.out HP.out];omega)⟩
    case measure=>simp [intOf];omega
   |false=>
    have HP:=Qa hp;clear hp;go_wp2_with fail;go_ret;refine ⟨?_,rfl⟩;rw [hK.out,Qot hkl.out HP.out];rfl
  ·go_wp2_with fail;go_ret;refine ⟨?_,rfl⟩;rw [hK.out,Qmr (by rw [HLEN.out];omega)];rfl
def behind (q a b:Nat):Value:=.int .i64 ((q+Y4 a b:Nat):Int)
theorem Qxm {q a b:Nat} (h:Y4 a b=0):Value.int .i64 (q:Int)=behind q a b:=by unfold behind;rw [h];rfl
theorem Q5i {q a b:Nat} (h:Y4 a b=1):Value.int .i64 ((q:Int)+1)=behind q a b:=by unfold behind;rw [h];rfl
theorem Qxz {q a b:Nat} (h:Y4 a b=2):Value.int .i64 ((q:Int)+2)=behind q a b:=by unfold behind;rw [h];rfl
theorem Wcw (s:ByteArray) (q:Nat) (w:World) (hs:s.size<=1000000000) (hq:q+1<s.size):
  Calls prog 126 #[.string s,.int .i64 (q:Int)] w λe w'=>e= .returned (behind q (s[q].toNat) (s[q+1].toNat))/\w'=w:=by
 have hq0:q<s.size:=by omega
 go_enter func126,ntmps126;go_wp2_with fail
 all_goals go_ret
 all_goals refine ⟨congrArg Ending.returned ?_,rfl⟩
 all_goals simp only [beq_iff_eq,beq_eq_false_iff_ne,bne_iff_ne,bne_eq_false_iff_eq,ne_eq]at*
 all_goals first
  |(refine Qxm ?_;unfold Y4;(repeat' split)<;>omega)
  |(refine Q5i ?_;unfold Y4;(repeat' split)<;>omega)
  |(refine Qxz ?_;unfold Y4;(repeat' split)<;>omega)
theorem Wil (s:ByteArray) (q:Nat) (w:World) (hs:s.size<=1000000000) (hq0:q<s.size) (hq:s.size<=q+1):
  Calls prog 126 #[.string s,.int .i64 (q:Int)] w λe w'=>e= .returned (behind q (s[q].toNat) 0)/\w'=w:=by
 go_enter func126,ntmps126;go_wp2_with fail
 all_goals go_ret
 all_goals refine ⟨congrArg Ending.returned ?_,rfl⟩
 all_goals simp only [beq_iff_eq,beq_eq_false_iff_ne,bne_iff_ne,ne_eq]at*
 all_goals first
  |(refine Qxm ?_;unfold Y4;(repeat' split)<;>omega)
  |(refine Q5i ?_;unfold Y4;(repeat' split)<;>omega)
  |(refine Qxz ?_;unfold Y4;(repeat' split)<;>omega)
theorem Wph (s:ByteArray) (q:Nat) (w:World) (hs:s.size<=1000000000) (hq:q<s.size):
  Calls prog 126 #[.string s,.int .i64 (q:Int)] w λe w'=>e= .returned (.int .i64 ((q+Y4 (bt s.data.toList q) (bt s.data.toList (q+1)):Nat):Int))/\w'=w:=by
 by_cases h:q+1<s.size
 ·rw [Hq rfl hq,Hq rfl h];exact Wcw s q w hs h
 ·have e:bt s.data.toList (q+1)=0:=by unfold bt;rw [Yc,Qbz (by rw [Qa3];omega)];rfl
  rw [Hq rfl hq,e];exact Wil s q w hs hq (by omega)
theorem Q68 (s:ByteArray) (q:Nat) (w:World) (hs:s.size<=1000000000) (hq:q<=s.size):
  Calls prog 50 #[.string s,.int .i64 (q:Int)] w λe w'=>e= .returned (.int .i64 ((q+Yh false (s.data.toList.drop q):Nat):Int))/\w'=w:=by
 obtain ⟨l,hl⟩:=Qb s.data.toList;have hlen:l.length=s.size:=by rw [hl];exact Au
 have HLEN:=Qa hlen;rw [<-hl];have HL:=Qa hl;obtain ⟨m,hm⟩:=Qb (q+Yh false (l.drop q));have HM:=Qa hm;rw [<-hm];clear hl hlen hm;go_enter func50,ntmps50;go_wp2_with fail;go_loop [1] (λi=> ∃k:Nat,k<=s.size/\i= .int .i64 (k:Int)/\Hid (m=k+Yh false (l.drop k))) (λi=>s.size-(intOf i).toNat)
 case atStart=>exact ⟨q,hq,rfl,HM⟩
 case round=>
  obtain ⟨k,hk,rfl,hK⟩:=hrel;by_cases hlt:k<s.size
  ·have hkl:Hid (k<l.length):=(by show k<l.length;rw [HLEN.out];exact hlt);have hb:=Hq HL.out hlt;obtain ⟨c,hc⟩:=Qb (bt l k);rw [<-hc]at hb;have HC:=Qa hc;clear hc;by_cases Fx:c=35
   ·have t1:((s[k].toNat:Int)==35)=true:=(by rw [<-hb,Fx];rfl);have Ru:=Qa Fx;have HB:=Qa hb;clear Fx hb;have hN:Hid (m=k+1+Yh true (l.drop (k+1))):=by show m=k+1+Yh true (l.drop (k+1));rw [hK.out,Qwv hkl.out (by rw [<-HC.out,Ru.out])];omega
    go_wp2_with fail;go_loop [1] (λi=> ∃j:Nat,k<=j/\j<s.size/\i= .int .i64 (j:Int)/\Hid (m=j+1+Yh true (l.drop (j+1)))) (λi=>s.size-(intOf i).toNat)
    case atStart=>exact ⟨k,Qh _,hlt,rfl,hN⟩
    case round=>
     obtain ⟨j,hkj,hjs,rfl,hJ⟩:=hrel;by_cases hjn:j+1<s.size
     ·have hjl:Hid (j+1<l.length):=(by show j+1<l.length;rw [HLEN.out];exact hjn);have hb:=Hq HL.out hjn;by_cases h10:bt l (j+1)=10
      ·have t2:((s[j+1].toNat:Int) != 10)=false:=(by rw [<-hb,h10];rfl);have hX:Hid (m=j+1+Yh false (l.drop (j+1))):=by show m=j+1+Yh false (l.drop (j+1));rw [hJ.out,Q1g hjl.out h10]
       clear hb h10;go_wp2_with fail;refine ⟨⟨j+1,by omega,by go_num,hX⟩,?_⟩;simp [intOf];omega
      ·have t2:((s[j+1].toNat:Int) != 10)=true:=(by rw [<-hb];simp;omega);have hX:Hid (m=j+1+1+Yh true (l.drop (j+1+1))):=by show m=j+1+1+Yh true (l.drop (j+1+1));rw [hJ.out,Quc hjl.out h10];omega
       clear hb h10;go_wp2_with fail;refine ⟨⟨j+1,by omega,by omega,by go_num,hX⟩,?_⟩;simp [intOf];omega
     ·have hX:Hid (m=j+1+Yh false (l.drop (j+1))):=by show m=j+1+Yh false (l.drop (j+1));rw [hJ.out,Qnd (by rw [HLEN.out];omega),Qnd (by rw [HLEN.out];omega)]
      go_wp2_with fail;refine ⟨⟨j+1,by omega,by go_num,hX⟩,?_⟩;simp [intOf];omega
   ·have t1:((s[k].toNat:Int)==35)=false:=(by rw [<-hb];simp;omega);have Ru:=Qa Fx;clear Fx;cases hbl:Ib c with
    |true=>
     have hN:Hid (m=k+1+Yh false (l.drop (k+1))):=by show m=k+1+Yh false (l.drop (k+1));rw [hK.out,Qqu hkl.out (by rw [<-HC.out];exact Ru.out) (by rw [<-HC.out];exact hbl)];omega
     have hcase:c=32\/c=9\/c=10\/c=13:=by unfold Ib at hbl;simp at hbl;omega
     clear hbl;rcases hcase with h |h |h |h
     ·have t2:((s[k].toNat:Int)==32)=true:=(by rw [<-hb,h];rfl);clear h hb;go_wp2_with fail;refine ⟨⟨k+1,by omega,by go_num,hN⟩,?_⟩;simp [intOf];omega
     ·have t2:((s[k].toNat:Int)==32)=false:=(by rw [<-hb,h];rfl);have t3:((s[k].toNat:Int)==9)=true:=(by rw [<-hb,h];rfl);clear h hb;go_wp2_with fail;refine ⟨⟨k+1,by omega,by go_num,hN⟩,?_⟩;simp [intOf];omega
     ·have t2:((s[k].toNat:Int)==32)=false:=(by rw [<-hb,h];rfl);have t3:((s[k].toNat:Int)==9)=false:=(by rw [<-hb,h];rfl);have t4:((s[k].toNat:Int)==10)=true:=(by rw [<-hb,h];rfl);clear h hb;go_wp2_with fail;refine ⟨⟨k+1,by omega,by go_num,hN⟩,?_⟩;simp [intOf];omega
     ·have t2:((s[k].toNat:Int)==32)=false:=(by rw [<-hb,h];rfl);have t3:((s[k].toNat:Int)==9)=false:=(by rw [<-hb,h];rfl);have t4:((s[k].toNat:Int)==10)=false:=(by rw [<-hb,h];rfl);have t5:((s[k].toNat:Int)==13)=true:=(by rw [<-hb,h];rfl);clear h hb;go_wp2_with fail;refine ⟨⟨k+1,by omega,by go_num,hN⟩,?_⟩;simp [intOf];omega
    |false=>
     have hN:Hid (m=k):=by show m=k;rw [hK.out,Qyr hkl.out (by rw [<-HC.out];exact Ru.out) (by rw [<-HC.out,hbl];decide)];rfl
     unfold Ib at hbl;simp at hbl;have t2:((s[k].toNat:Int)==32)=false:=(by rw [<-hb];simp;omega);have t3:((s[k].toNat:Int)==9)=false:=(by rw [<-hb];simp;omega);have t4:((s[k].toNat:Int)==10)=false:=(by rw [<-hb];simp;omega);have t5:((s[k].toNat:Int)==13)=false:=(by rw [<-hb];simp;omega);clear hbl hb;go_wp2_with fail;go_ret;refine ⟨?_,rfl⟩;rw [hN.out];rfl
  ·obtain rfl:k=s.size:=(by omega);go_wp2_with fail;go_ret;refine ⟨?_,rfl⟩;rw [hK.out,Qnd (by rw [HLEN.out];exact Qh _)];rfl
theorem Wes (s:ByteArray) (w:World) (hs:s.size<=1000000000):
  Calls prog 89 #[.string s] w λe w'=>e= .returned (Mr s.data.toList)/\w'=w:=by
 obtain ⟨l,hl⟩:=Qb s.data.toList;have hlen:l.length=s.size:=by rw [hl];exact Au
 have HLEN:=Qa hlen;rw [<-hl];have HL:=Qa hl;clear hl hlen;go_enter func89,ntmps89;go_wp2_with fail;go_loop [4,9] (λa i=> ∃k n:Nat,k<=s.size/\n<=9223372036854775807/\a= .int .i64 (n:Int)/\i= .int .i64 (k:Int)/\Hid (num (l.take k)=some n)) (λ_ i=>s.size-(intOf i).toNat)
 case atStart=>exact ⟨0,0,Vh _,by omega,rfl,rfl,(show num (l.take 0)=some 0 from rfl)⟩
 case round=>
  obtain ⟨k,n,hk,hn,rfl,rfl,hK⟩:=hrel;by_cases hlt:k<s.size
  ·have hkl:Hid (k<l.length):=(by show k<l.length;rw [HLEN.out];exact hlt);have hb:=Hq HL.out hlt;have hu:s[k].toNat<256:=UInt8.toNat_lt _;have hd:=Q8e s[k].toNat hu;obtain ⟨d,hdd⟩:=Qb ((s[k].toNat+208)%256);have Ws7:d<=255:=(by omega);rw [<-hdd]at hd;have HD:Hid (d=Ug (l.getD k 0)):=by show d=Ug (l.getD k 0);unfold Ug;rw [show (l.getD k 0).toNat=bt l k from rfl,hb];exact hdd
   clear hdd hb hu;have hq:(9223372036854775807-(d:Int)).tdiv 10=(((9223372036854775807-d)/10:Nat):Int):=by rw [Int.tdiv_eq_ediv_of_nonneg (by omega)];omega
   by_cases hfit:n*10+d<=9223372036854775807
   ·have HN:Hid (num (l.take (k+1))=some (n*10+d)):=by show num (l.take (k+1))=some (n*10+d);rw [Qiz hkl.out,hK.out,HD.out];unfold M9;rw [<-HD.out];exact Qk hfit
    have hle:(n:Int)<=(9223372036854775807-(d:Int))/10:=(by omega);go_wp2_with fail;go_round
    case rel=>exact ⟨k+1,n*10+d,by omega,hfit,by go_num,by go_num,HN⟩
    case measure=>simp [intOf];omega
   ·have HN:Hid (num l=none):=by show num l=none;refine Qzd (k:=k+1) ?_;rw [Qiz hkl.out,hK.out];unfold M9;rw [<-HD.out];exact Qd hfit
    have hle:(9223372036854775807-(d:Int))/10<(n:Int):=(by omega);go_wp2_with fail;go_ret2;refine ⟨?_,rfl⟩;unfold Mr;rw [HN.out];rfl
  ·obtain rfl:k=s.size:=(by omega);go_wp2_with fail;go_ret2;refine ⟨?_,rfl⟩;have h:=hK.out;rw [F6 (by rw [HLEN.out];exact Qh _)]at h;unfold Mr;rw [h];rfl
def Qjr (b:List UInt8):Value:=.string ⟨b.toArray⟩
def Qze:Array Value:=(keys.map Qjr).toArray
def Tab (w:World):Prop:= ∃t fr,w.heap[4]? =some (.cells Qze t fr)
theorem Tab.below {w w':World} (h:Tab w) (hb:Below w.heap.size w w'):Tab w':=by obtain ⟨t,fr,h⟩:=h;refine ⟨t,fr,?_⟩;obtain ⟨hlt,_⟩:=Array.getElem?_eq_some_iff.1 h;rw [hb.block _ hlt];exact h
theorem Wbb: ∀(j:Nat),j<18-> ∀(w:World),(Instr.index 132 (.agg Qze) (.int .i64 (j:Int))).run prog w= .ok (Qjr (keys.getD j [])) w
 | 0,_,w=>by kernel_rfl
 | 1,_,w=>by kernel_rfl
 | 2,_,w=>by kernel_rfl
 | 3,_,w=>by kernel_rfl
 | 4,_,w=>by kernel_rfl
 | 5,_,w=>by kernel_rfl
 | 6,_,w=>by kernel_rfl
 | 7,_,w=>by kernel_rfl
 | 8,_,w=>by kernel_rfl
 | 9,_,w=>by kernel_rfl
 | 10,_,w=>by kernel_rfl
 | 11,_,w=>by kernel_rfl
 | 12,_,w=>by kernel_rfl
 | 13,_,w=>by kernel_rfl
 | 14,_,w=>by kernel_rfl
 | 15,_,w=>by kernel_rfl
 | 16,_,w=>by kernel_rfl
 | 17,_,w=>by kernel_rfl
 |n+18,h,_=>by omega
theorem Weu {b:List UInt8} (h: ∀j,j<18->b≠keys.getD j []):isKey b=false:=by unfold isKey;rw [List.any_eq_false];intro k hk;obtain ⟨j,hj,rfl⟩:=List.mem_iff_getElem.1 hk;have hj':j<18:=hj;have:=h j hj';rw [Yc,Y3 hj]at this;simpa using this
theorem Wo6 {b:List UInt8} {j:Nat} (hj:j<18) (h:b=keys.getD j []):isKey b=true:=by unfold isKey;rw [List.any_eq_true];have hj':j<keys.length:=hj;refine ⟨keys[j],F5 hj',?_⟩;rw [Yc,Y3 hj']at h;simpa using h
theorem Wmp (b:List UInt8) (w:World) (hT:Tab w):
  Calls prog 90 #[Qjr b] w λe w'=>e= .returned (.bool (isKey b))/\w'=w:=by
 obtain ⟨tt,fr,hg⟩:=hT;have HG:=Qa hg;clear hg;unfold Qjr;go_enter func90,ntmps90;go_wp2_with (refine wpList_load_row rfl 132 _ rfl 4 rfl tt _ fr _ HG.out underlying132 rfl (by kernel_rfl) ?_);go_loop [6] (λi=> ∃k:Nat,k<=18/\i= .int .i64 (k:Int)/\Hid (∀j,j<k->b≠keys.getD j [])) (λi=>18-(intOf i).toNat)
 case atStart=>exact ⟨0,by omega,rfl,λj hj=>by omega⟩
 case round=>
  obtain ⟨k,hk,rfl,hK⟩:=hrel;by_cases hlt:k<18
  ·have hix:=Wbb k hlt;unfold Qjr at hix;obtain ⟨c,hc⟩:=Qb (keys.getD k []);rw [<-hc]at hix;have HC:=Qa hc;clear hc;by_cases he:b=c
   ·subst he;go_wp2_with fail;go_ret;exact ⟨by rw [Wo6 hlt HC.out];rfl,rfl⟩
   ·have he':(b==c)=false:=(by simpa using he);have HE:=Qa he;clear he;go_wp2_with fail;go_round
    case rel=>exact ⟨k+1,by omega,by go_num,λj hj=>by
     rcases V7 j k with g |g
     ·exact hK.out j g
     ·obtain rfl:j=k:=(by omega);rw [<-HC.out];exact HE.out⟩
    case measure=>simp [intOf];omega
  ·obtain rfl:k=18:=(by omega);go_wp2_with fail;go_ret;exact ⟨by rw [Weu hK.out];rfl,rfl⟩
theorem Wq0 (l:List UInt8) (k:Nat):bt (l.drop k) 0=bt l k:=by unfold bt;rw [Yc,Yc,List.getElem?_drop];rfl
theorem Wpw {l:List UInt8} {k:Nat} (h:k<l.length) (hc:isLt (bt l k)=true):k0 (l.drop k)=1/\ln (l.drop k)=rn Vt (l.drop k):=by rw [S9 h];exact ⟨Qk hc,Qk hc⟩
theorem Wm6 {l:List UInt8} {k:Nat} (h:k<l.length) (hc:isLt (bt l k)=false) (hd:Yn (bt l k)=true):k0 (l.drop k)=2/\ln (l.drop k)=rn Yn (l.drop k):=by
 have hc': ¬isLt (l.getD k 0).toNat=true:=by rw [show (l.getD k 0).toNat=bt l k from rfl,hc];decide
 rw [S9 h];exact ⟨(Qd hc').trans (Qk hd),(Qd hc').trans (Qk hd)⟩
theorem Wlz {l:List UInt8} {k:Nat} (h:k<l.length) (hc:isLt (bt l k)=false) (hd:Yn (bt l k)=false):k0 (l.drop k)=4/\ln (l.drop k)=Y4 (bt l k) (bt l (k+1)):=by
 have hc': ¬isLt (l.getD k 0).toNat=true:=by rw [show (l.getD k 0).toNat=bt l k from rfl,hc];decide
 have hd': ¬Yn (l.getD k 0).toNat=true:=by rw [show (l.getD k 0).toNat=bt l k from rfl,hd];decide
 rw [S9 h];refine ⟨(Qd hc').trans (Qd hd'),((Qd hc').trans (Qd hd')).trans ?_⟩;rw [Wq0];rfl
theorem Wmx (s:ByteArray) (q:Nat) (w:World) (hs:s.size<=1000000000) (hq:q<s.size):
  Calls prog 88 #[.string s,.int .i64 (q:Int)] w λe w'=>e= .returned (.tuple #[.int .i64 (k0 (s.data.toList.drop q):Int),.int .i64 ((q+ln (s.data.toList.drop q):Nat):Int)])/\w'=w:=by
 obtain ⟨l,hl⟩:=Qb s.data.toList;have hlen:l.length=s.size:=by rw [hl];exact Au
 have hkl:Hid (q<l.length):=by show q<l.length;rw [hlen];exact hq
 rw [<-hl];have HL:=Qa hl;have hb:=Qa (Hq hl hq);obtain ⟨K,hK⟩:=Qb (k0 (l.drop q));obtain ⟨M,hM⟩:=Qb (q+ln (l.drop q));rw [<-hK,<-hM];have HK:=Qa hK;have HM:=Qa hM;clear hl hlen hK hM;go_enter func88,ntmps88;go_wp2_with fail;refine (Q5z s[q].toNat w).mono ?_;rintro e w1 ⟨rfl,hw1⟩;rw [hw1,<-hb.out];clear hw1 w1;cases hc:isLt (bt l q)with
 |true=>
  have HC:=Qa hc;clear hc;go_wp2_with fail;refine (Wbk s q w hs (by omega)).mono ?_;rintro e w1 ⟨rfl,hw1⟩;rw [hw1,<-HL.out];clear hw1 w1;obtain ⟨h1,h2⟩:=Wpw hkl.out HC.out;rw [<-h2,<-HM.out];obtain rfl:K=1:=by rw [HK.out,h1]
  clear h1 h2;go_wp2_with fail;go_ret2;exact ⟨rfl,rfl⟩
 |false=>
  have HC:=Qa hc;clear hc;go_wp2_with fail;refine (Qv0 (bt l q) w).mono ?_;rintro e w1 ⟨rfl,hw1⟩;rw [hw1];clear hw1 w1;cases hd:Yn (bt l q)with
  |true=>
   have HD:=Qa hd;clear hd;go_wp2_with fail;refine (Wdg s q w hs (by omega)).mono ?_;rintro e w1 ⟨rfl,hw1⟩;rw [hw1,<-HL.out];clear hw1 w1;obtain ⟨h1,h2⟩:=Wm6 hkl.out HC.out HD.out;rw [<-h2,<-HM.out];obtain rfl:K=2:=(by rw [HK.out,h1]);clear h1 h2;go_wp2_with fail;go_ret2;exact ⟨rfl,rfl⟩
  |false=>
   have HD:=Qa hd;clear hd;go_wp2_with fail;refine (Wph s q w hs hq).mono ?_;rintro e w1 ⟨rfl,hw1⟩;rw [hw1,<-HL.out];clear hw1 w1;obtain ⟨h1,h2⟩:=Wlz hkl.out HC.out HD.out;rw [<-h2,<-HM.out];obtain rfl:K=4:=(by rw [HK.out,h1]);clear h1 h2;go_wp2_with fail;go_ret2;exact ⟨rfl,rfl⟩
end
end Go.Proofs.YtdncpkkhkbijfaaGreatDoor
