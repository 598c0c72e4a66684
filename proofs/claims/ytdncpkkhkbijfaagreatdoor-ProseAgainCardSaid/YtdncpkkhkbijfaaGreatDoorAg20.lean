import Derived.Test.YtdncpkkhkbijfaaGreatDoorAg19
import Derived.WalkMore
open Go.Proofs.Tryz
set_option linter.all false
set_option maxHeartbeats 0
set_option maxRecDepth 100000
namespace Go.Proofs.YtdncpkkhkbijfaaGreatDoor
section
open Go.RowKit
variable {B g P T N:Nat}{L:List Tk}{w0 w w':World}{R0 R R':Bx}{d:Nat}{o:Except Qq PS}{v:Value}{acc:List Int}{K n:Int}{S:ByteArray}
theorem Ev.Qyn {x u:Out} (h:Ev (λ_=>some x) u):u=x:=by obtain ⟨n,hn⟩:=h;exact (Option.some.inj (hn n (Qh _))).symm
theorem Qc.Qpc {b:List UInt8} {n m:Nat} (h:Qc o n m):Qc (Yv b o) (n-1) (m-1):=by
 cases o with
 |error f=>exact Qc.err
 |ok s=>
  cases hb:s.is b with
  |true=>rw [Oq hb];exact h.Fh hb
  |false=>rw [Ov hb];exact Qc.err
theorem Qc.open_ {d a n m:Nat} (h:Qc o n m):Qc (Gy d a o) n m:=by
 cases o with
 |error f=>exact Qc.err
 |ok s=>
  by_cases hd:200<=d
  ·rw [Ry hd];exact Qc.err
  ·rw [Un hd];exact h
structure Qro (B g P T:Nat) (L:List Tk) (M:Nat) (w0:World) (R0:Bx) (d:Nat) (o:Except Qq PS) (N ta:Nat) (wr:World) (R1:Bx) (o1:Except Qq PS) (v1:Value) (acc:List Int):Prop where
 run:Run B g P T L w0 R0 (d+1) wr R1 o1 N 23 v1 acc 0 ⟨#[]⟩ (ta:Int)
 lim:Qc o1 (L.length-1) (M-1)
 few:acc.length<=100000
 many: ∀s,o1= .ok s->acc.length+s.r.length<=L.length/\d<200
 cont: ∀u,Does o1 (λs n=>Qac n (.stmts acc ta) (d+1) s) u->Does o (λs n=>Qac n .block d s) u
theorem Does.Qhe {s:PS} {acc:List Int} {ta d:Nat} {u:Out} (hb:s.is rc=true) (h:Does (.ok s.next) (λs _=>some (lay (En 23 acc 0 ⟨#[]⟩ (ta:Int)) s)) u):Does (.ok s) (λs n=>Qac n (.stmts acc ta) d s) u:=by rw [Ev.Qyn h];exact (Qs.Qhe hb).ev
theorem Does.Qpo {acc:List Int} {ta d:Nat} {f:Qq} (hb: ∀s,o= .ok s->s.is rc=false) (h:Does o (λs n=>Qac n .stmt d s) (.error f)):Does o (λs n=>Qac n (.stmts acc ta) d s) (.error f):=by
 cases o with
 |error f'=>exact h
 |ok s=>exact (Qs.Qpo (hb s rfl) h.to_preads).ev
theorem Does.Qlm {acc:List Int} {ta d:Nat} {l:List Int} {s1:PS} {u:Out} (hb: ∀s,o= .ok s->s.is rc=false) (h:Does o (λs n=>Qac n .stmt d s) (.ok (l,s1))) (hl:l=[hd1 l]) (r:Does (.ok s1) (λs n=>Qac n (.stmts (acc++[hd1 l]) ta) d s) u):Does o (λs n=>Qac n (.stmts acc ta) d s) u:=by
 cases o with
 |error f'=>exact absurd h (by intro h;cases h)
 |ok s=>rw [hl]at h;exact (Qs.Qlm (hb s rfl) h.to_preads r.to_preads).ev
theorem Does.Qst {d ta:Nat} (ht: ∀s,o= .ok s->ta=s.tok.place) {u:Out} (h:Does (Gy d ta (Yv lc o)) (λs n=>Qac n (.stmts [] ta) (d+1) s) u):Does o (λs n=>Qac n .block d s) u:=by
 cases o with
 |error f=>exact h
 |ok s=>
  have ht:=ht s rfl;subst ht;refine (Qs.block ?_).ev;refine Does.need (o:=.ok s) (b:=lc) (G:=λs1 n=>if 200<=d then some (.error (4,s.tok.place))else Qac n (.stmts [] s.tok.place) (d+1) s1) ?_;cases hn:Yv lc (.ok s)with
  |error f=>rw [hn]at h;exact h
  |ok s1=>
   rw [hn]at h;by_cases hd:200<=d
   ·rw [Ry hd]at h;rw [show u=_ from h];exact Ev.Pb hd Ev.const
   ·rw [Un hd]at h;exact Ev.Gi hd h
theorem Qs6 {s:PS} (H:Any B g L w R d o) (hs:o= .ok s):1<=s.r.length:=by subst hs;exact Good.some H
theorem Q9n {l:List Int} {s1:PS} (h:Does o (λs n=>Qac n .stmt d s) (.ok (l,s1))):l=[hd1 l]:=by
 cases o with
 |error f=>cases h
 |ok s=>obtain ⟨n,hn⟩:=h;exact Wgx (hn n (Qh _)) l s1 rfl
theorem Q5a {M:Nat} (hS:Qsm B g P T L (M-1)) (H:Any B g L w R d o) (hP:Ke w g P T) (hd:d<=200) (hl:Qc o L.length M):
  Calls prog 95 #[.pointer (some ⟨P,0,none⟩)] w λen w'=> ∃u R',Does o (λs n=>Qac n .block d s) u/\Came B g L w R d u en w' R':=by
 have HR:=Qa (Pre.start H hP);obtain ⟨w0,hw0⟩:=Qb w;obtain ⟨R0,hR0⟩:=Qb R;have HW0:=Qa hw0;have Jg:=Qa hR0;have HST:=Qa hS;have HD2:=Qa hd;have HL:=Qa hl;have Quj:=Qa H.many;have Xp:=Xm;have hp:=HR.out.par.c0;clear H hP hd hl hS;go_enter func95,ntmps95;rw [Qz 2];go_wp2_with fail;refine wp_scope_straight ?_;go_wp2_with fail;refine (Qdl HR.out.any).mono ?_;rintro en w1 ⟨tk,tn,ta,tx,rfl,Wp,hb⟩;replace HR:=Qa (HR.out.below hb);have Wj:Hid (∀s,o= .ok s->ta=s.tok.place):=λs hs=>(Wp s hs).2;clear hb Wp hp;obtain ⟨W,hW⟩:=Qb (w1.alloc (.cells #[.int .i64 23,.slice none 0 0,.int .i64 0,.string ⟨#[]⟩,.int .i64 (ta:Int)] 37));obtain ⟨N,hN⟩:=Qb w1.heap.size;have HQ:Hid (Run B g P T L w0 R0 d W R o N 23 (.slice none 0 0) [] 0 ⟨#[]⟩ (ta:Int)):=by rw [hW,hN,hw0,hR0];exact HR.out.node 23 0 ⟨#[]⟩ ta
 clear hw0 hR0 HR;go_wp2_with fail;rw [<-hW,<-hN];clear hW hN;have hp:=HQ.out.par.c0;refine Qn ?_;go_wp2_with fail;refine (Qb0 lc HQ.out.any).mono ?_;rintro en w2 ⟨⟨x,rfl⟩,ha,hf⟩;replace HQ:=Qa (HQ.out.step ha hf rfl);clear ha hf hp;have hp:=HQ.out.par.c0;have b4:=HQ.out.n4;go_wp2_with fail;go_still_tail 6,(by kernel_rfl);change wpList _ _ _ _ _ w2.drew;replace HQ:=Qa (HQ.out.below (Zk w2));clear hp b4;go_wp2_with fail;refine (Wh8 ta HQ.out.any (by have:=HD2.out;omega)).mono ?_;rintro en w3 ⟨⟨x3,rfl⟩,ha,hf⟩;replace HQ:=Qa (HQ.out.step ha hf rfl);clear ha hf;have HB0:Hid (Qro B g P T L M w0 R0 d o N ta w3 R (Gy d ta (Yv lc o)) (.slice none 0 0) []):=by
  refine ⟨HQ.out,Qc.open_ (Qc.Qpc HL.out),by simp,λs hs=> ?_,λu h=>Does.Qst Wj.out h⟩;have h1:=(Qc.open_ (d:=d) (a:=ta) (Qc.Ao (b:=lc) HL.out)) s hs;refine ⟨by simp;omega,?_⟩;rcases V7 d 200 with h2 |h2
  ·exact h2
  ·cases hn:Yv lc o with
   |error f=>rw [hn]at hs;cases hs
   |ok s1=>rw [hn,Ry h2]at hs;cases hs
 clear HQ;go_wp2_with fail;go_step3;go_wp2_with fail;go_loopw [4] (λt4 wr=> ∃(o1:Except Qq PS) (R1:Bx) (v1:Value) (acc:List Int),Hid (Qro B g P T L M w0 R0 d o N ta wr R1 o1 v1 acc)) (λ_ wr=>lam g L.length wr)
 case atStart=>exact ⟨_,R,_,[],HB0⟩
 case round=>
  obtain ⟨o1,R1,v1,acc,HX⟩:=hrel;clear HB0;have hp:=HX.out.run.par.c0;go_wp2_with fail;refine (G5 rc HX.out.run.any).mono ?_;rintro en w3 ⟨c,o',rfl,ha,hf,hc⟩;have HV:=Qa (HX.out.run.step ha hf rfl);have Tj:=Qa HX.out.few;clear ha hf hp;rcases hc with ⟨rfl,s,hs,hb,ho⟩ |⟨rfl,ho,hb⟩
  ·rw [ho]at HV;have HS:=Qa hs;have HB:=Qa hb;clear ho hs hb;have HLP:Hid (Qc (.ok s.next) L.length L.length):=(by have h1:=HX.out.lim;rw [HS.out]at h1;exact (h1.Fh HB.out).self.mono (by omega) (by omega));have hp:=HV.out.par.c0;go_wp2_with fail;refine (Q2g HV.out.any (by have:=HD2.out;omega)).mono ?_;rintro en w4 ⟨⟨x,rfl⟩,ha,hf⟩;replace HV:=Qa (HV.out.step ha hf rfl);clear ha hf hp;have hp:=HV.out.par.c0;have b0:=HV.out.n0;have b1:=HV.out.n1;have b2:=HV.out.n2;have b3:=HV.out.n3;have b4:=HV.out.n4;go_wp2_with fail;go_still_tail 5,(by kernel_rfl);change wpList _ _ _ _ _ w4.drew;have HZ:=Qa (HV.out.below (Zk w4));go_wp2_with fail;refine (Ob _ _ _ _ _ _ HZ.out.any HZ.out.now HLP.out Tj.out).mono ?_;rintro en wz ⟨uz,Rz,hdo,hc,Wd⟩;obtain rfl:=hc.en;have Eb:=Qa (HZ.out.came hc);have Gp:=Qa hdo;clear hdo hc Wd;go_wp2_with fail;rw [Exit.noGoto_ret];go_ret;have hw0:=HW0.out;have hR0:=Jg.out;subst hw0 hR0;have hs:=HS.out;subst hs;exact ⟨uz,_,HX.out.cont uz (Does.Qhe HB.out Gp.out),Eb.out⟩
  ·rw [ho]at HV;have HB:=Qa hb;clear ho hb;go_wp2_with fail;refine (HST.out _ _ _ _ HV.out.any HV.out.par (λs hs=>by have:=(HX.out.many s hs).2;omega) (HX.out.lim.mono (by omega) (Qh _))).mono ?_;rintro en w5 ⟨u,R5,hdo,hc,Wd⟩;obtain rfl:=hc.en;replace HV:=Qa (HV.out.step hc.any hc.fr hc.z);have Wu:=Qa hdo;have Xo:=Qa Wd;obtain ⟨k,hk⟩:=Qb (Qt u);rw [<-hk];have HK:=Qa hk;clear hdo hc Wd hk;by_cases hk1:k= -1
   ·have hkb:(k== -1)=true:=(by simp [hk1]);obtain ⟨f1,hf1⟩: ∃f1,u= .error f1:=by
     match u,Wu,HK with
     | .error f1,_,_=>exact ⟨f1,rfl⟩
     | .ok (l,s1),Wu,HK=>
      have h1:=Wu.out.Wk5 l s1 rfl;have h2:k=hd1 l:=HK.out;omega
    subst hf1;clear hk1;have hp:=HV.out.par.c0;go_wp2_with fail;refine (Q2g HV.out.any (by have:=HD2.out;omega)).mono ?_;rintro en w4 ⟨⟨x,rfl⟩,ha,hf⟩;replace HV:=Qa (HV.out.step ha hf rfl);clear ha hf hp;have hp:=HV.out.par.c0;have b0:=HV.out.n0;have b1:=HV.out.n1;have b2:=HV.out.n2;have b3:=HV.out.n3;have b4:=HV.out.n4;go_wp2_with fail;go_still_tail 5,(by kernel_rfl);change wpList _ _ _ _ _ w4.drew;have HZ:=Qa (HV.out.below (Zk w4));go_wp2_with fail;refine (Ob _ _ _ _ _ _ HZ.out.any HZ.out.now Qc.err Tj.out).mono ?_;rintro en wz ⟨uz,Rz,hdo,hc,Wd⟩;obtain rfl:=hc.en;have Eb:=Qa (HZ.out.came hc);have Gp:=Qa hdo;clear hdo hc Wd;go_wp2_with fail;rw [Exit.noGoto_ret];go_ret;have hw0:=HW0.out;have hR0:=Jg.out;subst hw0 hR0;have hu:uz= .error f1:=Gp.out;rw [hu]at Eb ⊢;exact ⟨.error f1,_,HX.out.cont _ (Does.Qpo HB.out Wu.out),Eb.out⟩
   ·have hkb:(k== -1)=false:=(by simp [hk1]);obtain ⟨l,s1,hu⟩: ∃l s1,u= .ok (l,s1):=by
     match u,Wu,HK with
     | .error f1,_,HK=>exact absurd HK.out hk1
     | .ok (l,s1),Wu,HK=>exact ⟨l,s1,rfl⟩
    subst hu;obtain ⟨s,hs⟩: ∃s,o1= .ok s:=by
     cases o1 with
     |error f=>exact absurd Wu.out (by intro h;cases h)
     |ok s=>exact ⟨s,rfl⟩
    have HS:=Qa hs;clear hs;have b1:=HV.out.n1;have HRS:=Qa (Qs6 (H:=HX.out.run.any) HS.out);have hal:acc.length<=99999:=(by have h1:=HX.out.many s HS.out;have h2:=HRS.out;have h3:=Quj.out;omega);have G7:=Qa hal;clear hal hk1;go_wp2_with (at_builtin;refine Hf rfl (.tmp 34) (.tmp 36) rfl w0.heap.size w5 v1 acc k rfl rfl HV.out.now HV.out.fr.size (by have:=G7.out;omega) ?_;intro v3 w6 h3 hg3 hw3;obtain ⟨va,vc,hv3⟩:=Zq h3;obtain ⟨R3,hr3,hc3,hf3⟩:=HV.out.push h3 hg3 hw3;have HR3:=Qa hr3;clear hr3 h3 hg3 hw3;rw [Qf,Yw]at hv3;subst hv3);have Yi:Hid (Qro B g P T L M w0 R0 d o N ta (w6.setCell ⟨N,1,none⟩ (.slice va (acc.length+1) vc)) R3 (.ok s1) (.slice va (acc.length+1) vc) (acc++[k])):=by
     have hlt:=Xo.out (L.length-1) (s.r.length-1) (by intro s' e;rw [HS.out]at e;injection e with e;subst e;have h1:=(HX.out.lim s HS.out).1;have h2:=HRS.out;exact ⟨by omega,by omega⟩) s1 rfl;have hlm:=HX.out.many s HS.out;have hp1:=HRS.out;have hlx:=Xo.out (L.length-2) (M-2) (by intro s' e;rw [HS.out]at e;injection e with e;subst e;have h1:=HX.out.lim s HS.out;exact ⟨by omega,by omega⟩);refine ⟨HR3.out,λs' e=> ?_,by rw [Qf,Yw];have:=G7.out;omega,λs' e=> ?_,λu h=> ?_⟩
     ·injection e with e
      subst e;have h1:=hlx s1 rfl;have h2:=HX.out.lim s HS.out;exact ⟨by omega,by omega⟩
     ·injection e with e
      subst e;rw [Qf,Yw];exact ⟨by omega,hlm.2⟩
     ·exact HX.out.cont u (Does.Qlm HB.out Wu.out (Q9n Wu.out) (by rw [HK.out]at h;exact h))
    have HMS:Hid (lam g L.length (w6.setCell ⟨N,1,none⟩ (.slice va (acc.length+1) vc))<lam g L.length wr):=by have h1:Good B g L _ R3 (d+1) s1:=HR3.out.any;have h2:=HX.out.run.any;rw [HS.out]at h2;have h2:Good B g L wr R1 (d+1) s:=h2;have hlt:=Xo.out (L.length-1) (s.r.length-1) (by intro s' e;rw [HS.out]at e;injection e with e;subst e;have h1:=(HX.out.lim s HS.out).1;have h2:=HRS.out;exact ⟨by omega,by omega⟩) s1 rfl;have hp1:=HRS.out;show lam _ _ _<lam _ _ _;rw [h1.lam,h2.lam];omega
    go_wp2_with fail;go_roundw
    case rel=>exact ⟨_,R3,_,_,Yi⟩
    case measure=>exact HMS.out
theorem Q4u (B g P T:Nat) (L:List Tk): ∀M,(∀m,m<=M->Qsm B g P T L m/\Ig B g P T L m)
 | 0=>by
  have h1:Qsm B g P T L 0:=λw R d o H hP hd hl=>Q0b (λm hm=>absurd hm (by omega)) H hP hd hl;intro m hm;obtain rfl:m=0:=by omega
  exact ⟨h1,λw R d o H hP hd hl=>Q5a h1 H hP hd hl⟩
 |M+1=>by
  have ih:=Q4u B g P T L M;intro m hm;rcases V7 m (M+1)with h |h
  ·exact ih m (by omega)
  ·obtain rfl:m=M+1:=(by omega);exact ⟨λw R d o H hP hd hl=>Q0b (λk hk=>(ih k (by omega)).2) H hP hd hl,λw R d o H hP hd hl=>Q5a (ih M (Qh _)).1 H hP hd hl⟩
theorem Wh3 (H:Any B g L w R d o) (hP:Ke w g P T) (hd:d<=200) (hl:Qc o L.length L.length):
  Calls prog 95 #[.pointer (some ⟨P,0,none⟩)] w λen w'=> ∃u R',Does o (λs n=>Qac n .block d s) u/\Came B g L w R d u en w' R'/\ ∀n m,Qc o n m->Qc (toO u) n m:=Ig.use (Q4u B g P T L L.length L.length (Qh _)).2 H hP hd hl
end
section
open Go.RowKit
variable {B g M:Nat}{L:List Tk}{w0 w w':World}{R0 R R':Bx}{d d':Nat}{o o' o1:Except Qq PS}{acc:List Int}
theorem Does.Wf7 {s:PS} {ta:Nat} {v u:Out} (hb:s.is rc=false) (h1:Does (.ok s) (λs n=>Qac n .stmt d s) v) (h2:Does (toO v) (λs n=>Qac n (.stmts (acc++[Qt v]) ta) d s) u):Does (.ok s) (λs n=>Qac n (.stmts acc ta) d s) u:=by
 refine Does.Qj (F:=λs n=>Out.go (Qac n .stmt d s) λk s1=>Qac n (.stmts (acc++[hd1 k]) ta) d s1) (λs' hs n=> ?_) (Does.go (G:=λk s1 n=>Qac n (.stmts (acc++[k]) ta) d s1) h1 h2);injection hs with hs
 subst hs;rw [Qac,hb];rfl
def RL (r0:Nat) (v:Out):Prop:= ∀l s',v= .ok (l,s')->s'.r.length<=r0
section
variable {s:PS}{r0 n:Nat}{v:Out}{b:List UInt8}
theorem Qjz {e:Qq}:RL r0 (.error e):=λl s' h=>by cases h
theorem Oj {x:Nd} (h:s.r.length<=r0) (g:some (lay x s)=some v):RL r0 v:=by
 injection g with g
 intro l s' e;rw [e]at g;rw [(Qbq g).2.1];exact h
theorem Ni {f:PS->Option Out} (h0:s.r.length<=r0) (h:Qm b s f=some v) (g:s.next.r.length<=r0->f s.next=some v->RL r0 v):RL r0 v:=by
 rcases Go.Proofs.YtdncpkkhkbijfaaGreatDoor.Qfq h with ⟨h1,h2⟩ |⟨_,rfl⟩
 ·exact g (by have:=Ii h1;omega) h2
 ·exact Qjz
theorem Qz4 {f:ByteArray->Nat->PS->Option Out} (h0:s.r.length<=r0) (h:Xf s f=some v) (g: ∀nm a,s.next.r.length+1=s.r.length->f nm a s.next=some v->RL r0 v):RL r0 v:=by
 rcases Qkb h with ⟨h1,h2⟩ |⟨_,rfl⟩
 ·exact g _ _ (Qgp (by omega)) h2
 ·exact Qjz
theorem Qvi {m:Md} {f:List Int->PS->Option Out} (h0:s.r.length<=r0) (h:Out.go (Qg n m d s) f=some v) (g: ∀p s1,s1.r.length<=r0->f p s1=some v->RL r0 v):RL r0 v:=by
 rcases go_ok h with ⟨e,h1,rfl⟩ |⟨p,s1,h1,h2⟩
 ·exact Qjz
 ·obtain ⟨a,b,c⟩:=Lg n m d s _ h1 p s1 rfl;exact g p s1 (by omega) h2
theorem U5 {f:Int->PS->Option Out} (h0:s.r.length<=r0) (h:Wy n d s f=some v) (g: ∀p s1,s1.r.length<=r0->f p s1=some v->RL r0 v):RL r0 v:=Qvi h0 h (λp s1 h1 h2=>g _ s1 h1 h2)
theorem Qol {f:List Int->PS->Option Out} (h0:s.r.length<=r0) (h:Out.go (Qac n .block d s) f=some v) (g: ∀p s1,s1.r.length<=r0->f p s1=some v->RL r0 v):RL r0 v:=by
 rcases go_ok h with ⟨e,h1,rfl⟩ |⟨p,s1,h1,h2⟩
 ·exact Qjz
 ·have:=(Sn n _ _ _ _ (λ_ e=>by cases e) h1 p s1 rfl).toks;exact g p s1 (by omega) h2
theorem We2 (h:Qac n .stmt d s=some v):RL (s.r.length-1) v:=by
 cases n with
 |zero=>cases h
 |succ n=>
  have hnx:Xc s.tok≠0->s.next.r.length<=s.r.length-1:=λh0=>by have:=Qgp (Qt1 h0);omega
  rw [Qac]at h;split at h
  ·rename_i hg;exact Qz4 (hnx (by rw [hg];decide)) h λnm a h1 h=>Ni (by have:=hnx (by rw [hg];decide);omega) h λh1 h=>U5 h1 h λx s1 h1 h=>Ni h1 h λh1 h=>Oj h1 h
  ·rename_i hg;exact Qz4 (hnx (by rw [hg];decide)) h λnm a h1 h=>Ni (by have:=hnx (by rw [hg];decide);omega) h λh1 h=>U5 h1 h λx s1 h1 h=>Ni h1 h λh1 h=>U5 h1 h λy s2 h1 h=>Qol h1 h λz s3 h1 h=>Oj h1 h
  ·rename_i hg;exact Ni (hnx (by rw [hg];decide)) h λh1 h=>Oj h1 h
  ·rename_i hg;exact Ni (hnx (by rw [hg];decide)) h λh1 h=>Oj h1 h
  ·rename_i hg;exact U5 (hnx (by rw [hg];decide)) h λx s1 h1 h=>Ni h1 h λh1 h=>Oj h1 h
  ·rename_i hg;exact U5 (hnx (by rw [hg];decide)) h λx s1 h1 h=>Ni h1 h λh1 h=>Oj h1 h
  ·rename_i hg;exact U5 (hnx (by rw [hg];decide)) h λx s1 h1 h=>Qol h1 h λz s2 h1 h=>Oj h1 h
  ·rename_i hg;refine U5 (hnx (by rw [hg];decide)) h λx s1 h1 h=>Qol h1 h λz s2 h1 h=> ?_;split at h
   ·rename_i g;exact Qol (by have:=Ii g;omega) h λz s2 h1 h=>Oj h1 h
   ·exact Oj h1 h
  ·rcases Qkb h with ⟨h1,h⟩ |⟨_,rfl⟩
   ·have h2:=Qgp (s:=s) (by omega);have h3:s.next.r.length<=s.r.length-1:=(by omega);split at h
    ·exact Qvi h3 h λp s1 h1 h=>Ni h1 h λh1 h=>Oj h1 h
    ·split at h
     ·exact Qvi h3 h λp s1 h1 h=>Ni h1 h λh1 h=>U5 h1 h λx s1 h1 h=>Ni h1 h λh1 h=>Oj h1 h
     ·exact Ni h3 h λh1 h=>U5 h1 h λx s1 h1 h=>Ni h1 h λh1 h=>Oj h1 h
   ·exact Qjz
end
theorem Does.Q9f {s:PS} {v:Out} (h:Does (.ok s) (λs n=>Qac n .stmt d s) v): ∀s',toO v= .ok s'->s'.r.length<=s.r.length-1:=by
 obtain ⟨n,hn⟩:=h;have h1:=We2 (hn n (Qh _));intro s' e
 match v,h1,e with
 | .ok (l,s1),h1,e=>injection e with e;subst e;exact h1 l s1 rfl
def Qxb (B g:Nat) (L:List Tk) (M:Nat) (w0:World) (R0:Bx) (d:Nat) (o:Except Qq PS) (ta:Nat) (t4:Value) (wr:World):Prop:=
 ∃(o1:Except Qq PS) (R1:Bx) (acc:List Int),Ar B g L w0 R0 (d+1) wr R1 o1 t4 acc/\Qc o1 (L.length-1) (M-1)/\Grow o o1/\acc.length<=100000/\(∀s,o1= .ok s->acc.length+s.r.length<=L.length/\d<200)/\
  ∀u,Does o1 (λs n=>Qac n (.stmts acc ta) (d+1) s) u->Does o (λs n=>Qac n .block d s) u
theorem Qw.len (H:Qw B g L w R d o): ∀s,o= .ok s->1<=s.r.length:=λs hs=>by subst hs;exact Zu.some H
theorem Q49 (hS:Qn6 B g L (M-1)) (H:Qw B g L w R d o) (hd:d<=200) (hl:Qc o L.length M):Calls prog 37 #[.pointer (some ⟨g,0,none⟩)] w (Jp B g L w R d o (λs n=>Qac n .block d s)):=by
 have HS:=Qa ((QRun.start H).pre H);have HST:=Qa hS;have Wv:=Qa hd;have HL:=Qa hl;have HBO:Hid (B<=w.heap.size):=H.old;have Quj:=Qa H.many;have Xp:=Xm;obtain ⟨tk,tn,ta,tx,Wp,hcall⟩:=Gu H;have Wj:Hid (∀s,o= .ok s->ta=s.tok.place):=λs hs=>(Wp s hs).2.2.1;have HC:=Qa hcall;clear H hS hd hl Wp hcall;go_enter func37,ntmps37;rw [Qz 8,Qz 9];go_wp2_with fail;refine HC.out.mono ?_;rintro en w1 ⟨rfl,hb⟩;replace HS:=Qa (HS.out.below hb);clear hb HC;go_wp2_with fail;refine (Kr lc HS.out.any).mono ?_;rintro en w2 ⟨⟨x2,rfl⟩,ha,hf⟩;replace HS:=Qa (HS.out.step ha hf (λ_ h=>h) (Grow.need _));clear ha hf;obtain ⟨o1,ho1⟩:=Qb (Yv lc o);rw [<-ho1]at HS;have Xq:=Qa ho1;have Ym:Hid (Qc o1 (L.length-1) (M-1)):=by rw [ho1];exact Qc.Qpc HL.out
 have Vu:Hid (Grow o o1):=by rw [ho1];exact Grow.need _
 clear ho1;cases o1 with
 |error f=>
  obtain ⟨e,c5,he⟩:=Gb HS.out.any;have hen:(e==0)=false:=by simpa using he
  clear he;replace HS:Hid (Ar B g L w R (d+1) w2 R (.error f) (.slice none 0 0) []):=⟨⟨HS.out.any,HS.out.fr,HS.out.z⟩,HS.out.zv,HS.out.now,HS.out.kids,HS.out.base,HS.out.z00⟩;have F8:Hid (Does o (λs n=>Qac n .block d s) (.error f)):=Does.Qst Wj.out (by rw [<-Xq.out];rfl);go_wp2_with fail;go_loopw [4] (λt4 wr=>t4= .slice none 0 0/\wr=w2) (λ_ _=>0)
  case atStart=>exact ⟨rfl,rfl⟩
  case round=>
   obtain ⟨rfl,rfl⟩:=hrel;have Tj:Hid (([]:List Int).length<=100000):=(by show _<=_;simp);go_wp2_with fail;obtain ⟨dd,V,c2,f2,hV,ha,hf⟩:=Qw.close HS.out.any (by have:=Wv.out;omega);obtain ⟨W,hW⟩:=Qb (wr.setCell ⟨g,2,none⟩ (.int .i64 V));rw [<-hW]at ha hf;replace HS:=Qa (HS.out.step ha hf (λ_ h=>h) (Grow.refl _));clear ha hf;refine Qn ?_;go_wp2_with fail;rw [<-hV,<-hW];clear hV hW c2 f2;refine Qn ?_;go_wp2_with fail;refine (HS.out.lay 23 0 ⟨#[]⟩ ta HBO.out (Qc.err) (Tj.out)).mono ?_;rintro en wz ⟨u,Rz,Wi,Qe,_⟩;obtain rfl:=Qe.en;have Yl:=Qa Wi;have Ze:=Qa Qe;clear Wi Qe;go_wp2_with fail;go_ret;have hu:u= .error f:=Yl.out;refine ⟨u,Rz,by rw [hu];exact F8.out,⟨Ze.out.run,rfl,Ze.out.tell.back Vu.out⟩⟩
 |ok s1=>
  have c5:=Hl HS.out.any;go_wp2_with fail;refine (Qfj ta HS.out.any (λ_ _=>by have:=Wv.out;omega)).mono ?_;rintro en w3 ⟨⟨x3,rfl⟩,ha,hf⟩;replace HS:=Qa (HS.out.step ha hf (λ_ h=>h) (Grow.open_ _ _));clear ha hf c5;have HQ:Hid (Qxb B g L M w R d o ta (.slice none 0 0) w3):=by
   refine ⟨Gy d ta (.ok s1),R,[],HS.out,Qc.open_ Ym.out,Vu.out.trans (Grow.open_ _ _),by simp,λs hs=> ?_,λu h=>Does.Qst Wj.out (by rw [<-Xq.out];exact h)⟩;obtain ⟨h1,h2⟩:=Qpe hs;injection h1 with h1
   subst h1;have h3:=(Ym.out s1 rfl).1;refine ⟨by simp;omega,by omega⟩
  clear HS;go_wp2_with fail;go_loopw [4] (λt4 wr=>Hid (Qxb B g L M w R d o ta t4 wr)) (λ_ wr=>Y7 g L.length wr)
  case atStart=>exact HQ
  case round=>
   obtain ⟨o2,R2,acc,hpre,hlim,hgr,Qja,Qxy,hcont⟩:=hrel.out;obtain ⟨la,lcp,hv⟩:=Zq hpre.now;obtain ⟨A,hA⟩:=Qb acc.length;rw [<-hA]at hv;subst hv;have Rq:=Qa hA;have HS:=Qa hpre;have K5:=Qa hlim;have Jm:=Qa hgr;have Tj:=Qa Qja;have HMN:=Qa Qxy;have Az:=Qa hcont;clear hrel hpre hlim hgr Qja Qxy hcont hA HQ;obtain ⟨wo,hwo⟩:=Qb wr;have Eo:=Qa hwo;cases o2 with
   |error f=>
    obtain ⟨e,c5,he⟩:=Gb HS.out.any;have hen:(e==0)=false:=(by simpa using he);clear he hwo;go_wp2_with fail;obtain ⟨dd,V,c2,f2,hV,ha,hf⟩:=Qw.close HS.out.any (by have:=Wv.out;omega);obtain ⟨W,hW⟩:=Qb (wr.setCell ⟨g,2,none⟩ (.int .i64 V));rw [<-hW]at ha hf;replace HS:=Qa (HS.out.step ha hf (λ_ h=>h) (Grow.refl _));clear ha hf;refine Qn ?_;go_wp2_with fail;rw [<-hV,<-hW];clear hV hW c2 f2;refine Qn ?_;go_wp2_with fail;refine (HS.out.lay 23 0 ⟨#[]⟩ ta HBO.out (Qc.err) (Tj.out)).mono ?_;rintro en wz ⟨u,Rz,Wi,Qe,_⟩;obtain rfl:=Qe.en;have Yl:=Qa Wi;have Ze:=Qa Qe;clear Wi Qe;go_wp2_with fail;go_ret;have hu:u= .error f:=Yl.out;refine ⟨u,Rz,by rw [hu];exact Az.out _ rfl,⟨Ze.out.run,rfl,Ze.out.tell.back Jm.out⟩⟩
   |ok s=>
    have c5:=Hl HS.out.any;have J2:Hid (Y7 g L.length wo=s.r.length):=(by rw [hwo];exact Zu.Y7 HS.out.any);have Xj:=Qa (HS.out.any.len s rfl);clear hwo;go_wp2_with fail;refine (Ub rc HS.out.any).mono ?_;rintro en w4 ⟨c,oe,rfl,ha,hf,hc⟩;clear c5;rcases hc with ⟨rfl,s',hs,hb,ho⟩ |⟨rfl,ho,hb⟩
    ·injection hs with hs
     subst hs;subst ho;have Yx:=Qa hb;replace HS:=Qa (HS.out.step ha hf (λ_ h=>h) Grow.next);have HLX:Hid (Qc (.ok s.next) L.length L.length):=(K5.out.Fh hb).self.mono (by omega) (by omega);clear ha hf hb;go_wp2_with fail;obtain ⟨dd,V,c2,f2,hV,ha,hf⟩:=Qw.close HS.out.any (by have:=Wv.out;omega);obtain ⟨W,hW⟩:=Qb (w4.setCell ⟨g,2,none⟩ (.int .i64 V));rw [<-hW]at ha hf;replace HS:=Qa (HS.out.step ha hf (λ_ h=>h) (Grow.refl _));clear ha hf;refine Qn ?_;go_wp2_with fail;rw [<-hV,<-hW];clear hV hW c2 f2;refine Qn ?_;go_wp2_with fail;refine (HS.out.lay 23 0 ⟨#[]⟩ ta HBO.out (HLX.out) (Tj.out)).mono ?_;rintro en wz ⟨u,Rz,Wi,Qe,_⟩;obtain rfl:=Qe.en;have Yl:=Qa Wi;have Ze:=Qa Qe;clear Wi Qe;go_wp2_with fail;go_ret;exact ⟨u,Rz,Az.out u (Does.Qhe Yx.out Yl.out),⟨Ze.out.run,rfl,Ze.out.tell.back (Jm.out.trans Grow.next)⟩⟩
    ·subst ho;replace HS:=Qa (HS.out.step ha hf (λ_ h=>h) (Grow.refl _));have Yx:Hid (s.is rc=false):=hb s rfl;clear ha hf hb;go_wp2_with fail;refine (HST.out _ _ _ _ HS.out.any (by have:=(HMN.out s rfl).2;omega) (K5.out.mono (by omega) (Qh _))).mono ?_;rintro en w5 ⟨v,R5,hdo,Qe⟩;obtain rfl:=Qe.en;have HV:=Qa (HS.out.then_ Qe.run Qe.tell.grow);have Wu:=Qa hdo;have HT:=Qa Qe.tell;have Dq:=Qa (Does.left (λ_ e=>by cases e) hdo _ _ K5.out);have Pv:=Qa (Does.Q9f hdo);obtain ⟨k,hk⟩:=Qb (Qt v);rw [<-hk];have HK:=Qa hk;clear hdo Qe hk;have G7:Hid (acc.length+1<=100000):=(by show _<=_;have h1:=(HMN.out s rfl).1;have h2:=Xj.out;have h3:=Quj.out;omega);go_wp2_with (at_builtin;refine Hf rfl (.tmp 30) (.tmp 33) rfl w.heap.size w5 (.slice la A lcp) acc k rfl rfl HV.out.now HV.out.fr.size (by have:=G7.out;omega) ?_;intro v3 w6 h3 hg3 hw3;obtain ⟨va,vc3,hv3⟩:=Zq h3;obtain ⟨R3,hr3⟩:=HV.out.push (k:=k) (by rw [HK.out];exact HT.out.Xd) h3 hg3 hw3;have HR3:=Qa hr3;clear hr3 h3 hg3 hw3;rw [Qf,Yw]at hv3;subst hv3);go_roundw
     case rel=>
      refine ⟨toO v,R3,acc++[k],HR3.out,Dq.out,Jm.out.trans HT.out.grow,by rw [Qf,Yw];exact G7.out,λs' hs'=> ?_,λu hu=>Az.out u (Does.Wf7 Yx.out Wu.out (by rw [<-HK.out];exact hu))⟩;have h1:=HMN.out s rfl;have h2:=(Pv.out s' hs');have h3:=Xj.out;rw [Qf,Yw];exact ⟨by omega,h1.2⟩
     case measure=>
      show Y7 g L.length w6<Y7 g L.length _;rw [<-Eo.out,J2.out];have h1:=Xj.out;have h2:=HR3.out.any;cases hv:toO v with
      |error f=>rw [hv]at h2;rw [Eu.Y7 h2];omega
      |ok s3=>rw [hv]at h2;rw [Zu.Y7 h2];have:=Pv.out s3 hv;omega
theorem Wc5 (B g:Nat) (L:List Tk) (M:Nat):Qdj B g L M/\Qn6 B g L M:=by
 induction M using Nat.strongRecOn with
 |ind M ih=>
  have h1:Qn6 B g L M:=λw R d o H hd hl=>Wlg (λm hm=>(ih m hm).1) H hd hl;refine ⟨λw R d o H hd hl=> ?_,h1⟩;cases M with
  |zero=>exact Q49 h1 H hd hl
  |succ M=>exact Q49 (M:=M+1) (show Qn6 B g L (M+1-1)from (ih M (Nat.lt_succ_self M)).2) H hd hl
theorem Qz0 (H:Qw B g L w R d o) (hd:d<=200) (hl:Qc o L.length L.length):Calls prog 37 #[.pointer (some ⟨g,0,none⟩)] w (Jp B g L w R d o (λs n=>Qac n .block d s)):=(Wc5 B g L L.length).1 w R d o H hd hl
end
section
open Go.RowKit
variable {B g P T N:Nat}{L:List Tk}{w0 w w':World}{R0 R R':Bx}{d:Nat}{o:Except Qq PS}{v:Value}{acc:List Int}{K n:Int}{S:ByteArray}
structure Dm (B g P T:Nat) (L:List Tk) (w0:World) (R0:Bx) (d:Nat) (w:World) (R:Bx) (o:Except Qq PS) (N:Nat) (K:Int) (v:Value) (acc:List Int) (n:Int) (S:ByteArray) (a:Int):Prop extends Pre B g P T L w0 R0 d w R o v acc where
 box:Held w N 37 #[.int .i64 K,.slice none 0 0,.int .i64 n,.string S,.int .i64 a]
 off:R.vn.ownBlock≠some N
 new:w0.heap.size<=N
theorem Dm.step {a:Int} {o':Except Qq PS} {d':Nat} (H:Dm B g P T L w0 R0 d w R o N K v acc n S a) (hA:Any B g L w' R' d' o') (F:Fr g w w' R R') (hz:R'.Z=R.Z):Dm B g P T L w0 R0 d' w' R' o' N K v acc n S a:=by
 refine ⟨H.toPre.step hA F hz,H.any.held F H.box (by decide) (by decide) H.off,λe=> ?_,H.new⟩;rcases F.vn N e with h |h
 ·exact H.off h
 ·have:=H.box.lt;omega
theorem Dm.below {a:Int} (H:Dm B g P T L w0 R0 d w R o N K v acc n S a) (hb:Below w.heap.size w w'):Dm B g P T L w0 R0 d w' R o N K v acc n S a:=H.step (H.any.below hb) (Fr.of_below R hb) rfl
theorem Pre.node2 (H:Pre B g P T L w0 R0 d w R o v acc) (K n:Int) (S:ByteArray) (a:Int):Dm B g P T L w0 R0 d (w.alloc (.cells #[.int .i64 K,.slice none 0 0,.int .i64 n,.string S,.int .i64 a] 37)) R o w.heap.size K v acc n S a:=
 ⟨H.below Qag,Held.new _ _ _,H.any.Q1s,H.fr.size⟩
theorem Dm.Qmi {a:Int} (H:Dm B g P T L w0 R0 d w R o N K v acc n S a) (n':Int):Dm B g P T L w0 R0 d (w.setCell ⟨N,2,none⟩ (.int .i64 n')) R o N K v acc n' S a:=
 ⟨H.toPre.Qcg H.box H.off H.new 2 _,H.box.set 2 _,H.off,H.new⟩
theorem Dm.n0 {a:Int} (H:Dm B g P T L w0 R0 d w R o N K v acc n S a):w.cell? ⟨N,0,none⟩=some (.int .i64 K):=H.box.at_ rfl
theorem Dm.n1 {a:Int} (H:Dm B g P T L w0 R0 d w R o N K v acc n S a):w.cell? ⟨N,1,none⟩=some (.slice none 0 0):=H.box.at_ rfl
theorem Dm.n2 {a:Int} (H:Dm B g P T L w0 R0 d w R o N K v acc n S a):w.cell? ⟨N,2,none⟩=some (.int .i64 n):=H.box.at_ rfl
theorem Dm.n3 {a:Int} (H:Dm B g P T L w0 R0 d w R o N K v acc n S a):w.cell? ⟨N,3,none⟩=some (.string S):=H.box.at_ rfl
theorem Dm.n4 {a:Int} (H:Dm B g P T L w0 R0 d w R o N K v acc n S a):w.cell? ⟨N,4,none⟩=some (.int .i64 a):=H.box.at_ rfl
theorem Q2u (B:Nat) (w:World):Now B w (.slice none 0 0) []:=⟨rfl,.inl ⟨rfl,rfl⟩⟩
theorem Does.params {acc:List Int} {u:Out} (h:Does o (λs n=>Xf s λnm at_ s1=>if 8<=acc.length then some (.error (3,at_))else V3 s1 λk s2=>Out.go (some (lay (En 24 [] k nm at_) s2)) λq s3=>if s3.is comma then Qac n (.params (acc++[hd1 q])) d s3.next else Qm rp s3 λs4=>some (.ok (acc++[hd1 q],s4))) u):Does o (λs n=>Qac n (.params acc) d s) u:=by
 cases o with
 |error f=>exact h
 |ok s=>exact (Qs.params h).ev
theorem Qth (x a:Nat) (o:Except Qq PS): ∃f,Lu x a o= .error f:=by
 cases o with
 |ok s=>exact ⟨_,rfl⟩
 |error f=>exact ⟨_,rfl⟩
def Wpf (B g P T:Nat) (L:List Tk) (w0:World) (R0:Bx) (d:Nat) (o:Except Qq PS) (t3 t4:Value) (wr:World):Prop:=
 ∃(m:Bool) (o1:Except Qq PS) (R1:Bx) (acc:List Int),t4= .bool m/\Pre B g P T L w0 R0 d wr R1 o1 t3 acc/\Qc o1 L.length L.length/\
  ((m=true/\acc.length<=8/\ ∀u,Does o1 (λs n=>Qac n (.params acc) d s) u->Does o (λs n=>Qac n (.params []) d s) u)\/
   (m=false/\acc.length<=9/\ ∀u,Does o1 (λs n=>Qm rp s λs4=>some (.ok (acc,s4))) u->Does o (λs n=>Qac n (.params []) d s) u))
def Qgo (d:Nat) (acc:List Int) (X:ByteArray) (ta:Nat):PS->Nat->Option Out:=λs1 n=>if 8<=acc.length then some (.error (3,ta))else V3 s1 λk s2=>Out.go (some (lay (En 24 [] k X ta) s2)) λq s3=>if s3.is comma then Qac n (.params (acc++[hd1 q])) d s3.next else Qm rp s3 λs4=>some (.ok (acc++[hd1 q],s4))
def Qd3 (d:Nat) (acc:List Int):Int->PS->Nat->Option Out:=λq s3 n=>if s3.is comma then Qac n (.params (acc++[q])) d s3.next else Qm rp s3 λs4=>some (.ok (acc++[q],s4))
theorem Qyi {acc:List Int} {X:ByteArray} {ta:Nat} {o1:Except Qq PS} {u1 u:Out} (h8:acc.length≠8) (hle:acc.length<=8) (h1:Does (F3 o1) (λs _=>some (lay (En 24 [] (Lv o1:Int) X (ta:Int)) s)) u1) (h:Does (toO u1) (Qd3 d acc (Qt u1)) u):Does o1 (Qgo d acc X ta) u:=by
 have h2:=Does.kind (o:=o1) (G:=λk s2 n=>Out.go (some (lay (En 24 [] k X ta) s2)) λq s3=>Qd3 d acc (hd1 q) s3 n) (Does.go (G:=Qd3 d acc) h1 h);cases o1 with
 |error f=>exact h2
 |ok s=>exact Ev.Gi (by omega) h2
theorem Qxc {acc:List Int} {X:ByteArray} {ta:Nat} {o1:Except Qq PS} {f:Qq} (h8:acc.length=8) (hf:Lu 3 ta o1= .error f):Does o1 (Qgo d acc X ta) (.error f):=by
 cases o1 with
 |error f'=>injection hf with hf;subst hf;rfl
 |ok s=>injection hf with hf;subst hf;exact Ev.Pb (by omega) Ev.const
theorem Q6r {acc:List Int} {q:Int} {o3:Except Qq PS} {s:PS} {u:Out} (hs:o3= .ok s) (hb:s.is comma=true) (h:Does (.ok s.next) (λs n=>Qac n (.params (acc++[q])) d s) u):Does o3 (Qd3 d acc q) u:=
 Does.Qmj (X:=λs n=>Qac n (.params (acc++[q])) d s) (Y:=λs3 n=>Qm rp s3 λs4=>some (.ok (acc++[q],s4))) hs hb h
theorem Q7u {acc:List Int} {q:Int} {o3:Except Qq PS} {u:Out} (hb: ∀s,o3= .ok s->s.is comma=false) (h:Does o3 (λs n=>Qm rp s λs4=>some (.ok (acc++[q],s4))) u):Does o3 (Qd3 d acc q) u:=
 Does.O4 (X:=λs3 n=>Qac n (.params (acc++[q])) d s3.next) (Y:=λs3 n=>Qm rp s3 λs4=>some (.ok (acc++[q],s4))) hb h
theorem Q33 {n m:Nat} (h:Qc o n m):Qc (Vg o) (n-1) (m-1):=by
 cases o with
 |error f=>exact Qc.err
 |ok s=>
  by_cases hb:s.tok.kind=1
  ·have h1:=h s rfl;have h2:=Cr (s:=s) (by omega);exact Qc.name (h.mono (by omega) (by omega))
  ·rw [Qcr hb];exact Qc.err
theorem Wla {n m:Nat} (h:Qc o (n-1) (m-1)):Qc (F3 o) (n-2) (m-2):=by
 cases o with
 |error f=>exact Qc.err
 |ok s=>
  by_cases hb:Yt s.tok=0
  ·rw [Qd5 hb];exact Qc.err
  ·have h1:=h s rfl;have h2:=Cr (Qu1 hb);exact Qc.kind (h.mono (by omega) (by omega))
theorem Wfw (H:Any B g L w R d o) (hP:Ke w g P T) (hl:Qc o L.length L.length):
  Calls prog 100 #[.pointer (some ⟨P,0,none⟩)] w λen w'=> ∃u R' v l,en= .returned v/\Does (Yv lp o) (λs2 n=>if s2.is rp then some (.ok ([],s2.next))else Qac n (.params []) d s2) u/\Pre B g P T L w R d w' R' (toO u) v l/\l.length<=9/\ ∀p s,u= .ok (p,s)->l=p:=by
 obtain ⟨w0,hw0⟩:=Qb w;obtain ⟨R0,hR0⟩:=Qb R;have HR:Hid (Pre B g P T L w0 R0 d w R o (.slice none 0 0) []):=by rw [hw0,hR0];exact Pre.start H hP
 have HW0:=Qa hw0;have Jg:=Qa hR0;have HL:=Qa hl;have hp:=HR.out.par.c0;clear H hP hl hw0 hR0;go_enter func100,ntmps100;go_wp2_with fail;refine (Qb0 lp HR.out.any).mono ?_;rintro en w1 ⟨⟨x,rfl⟩,ha,hf⟩;replace HR:=Qa (HR.out.step ha hf rfl);clear ha hf hp;obtain ⟨oa,hoa⟩:=Qb (Yv lp o);rw [<-hoa]at HR;have HOA:=Qa hoa;have HLA:Hid (Qc oa L.length L.length):=by rw [hoa];exact Qc.Ao HL.out
 clear hoa;have hp:=HR.out.par.c0;go_wp2_with fail;refine (G5 rp HR.out.any).mono ?_;rintro en w2 ⟨c,o',rfl,ha,hf,hc⟩;replace HR:=Qa (HR.out.step ha hf rfl);clear ha hf hp;rcases hc with ⟨rfl,s,hs,hb,ho⟩ |⟨rfl,ho,hb⟩
 ·rw [ho]at HR;have HS:=Qa hs;have HB:=Qa hb;clear ho hs hb;go_wp2_with fail;go_ret;have hw0:=HW0.out;have hR0:=Jg.out;subst hw0 hR0;refine ⟨.ok ([],s.next),_,_,[],rfl,?_,HR.out,by simp,λp s' e=>by injection e with e;injection e with e1 e2⟩;rw [<-HOA.out];exact Does.Qmj (X:=λs n=>some (.ok ([],s))) (Y:=λs2 n=>Qac n (.params []) d s2) HS.out HB.out Ev.const
 ·rw [ho]at HR;have HB:=Qa hb;clear ho hb;go_wp2_with fail;go_loopw [3,4] (λt3 t4 wr=>Hid (Wpf B g P T L w0 R0 d oa t3 t4 wr)) (λ_ t4 wr=>Io t4*(1+lam g L.length wr))
  case atStart=>exact ⟨true,_,_,[],rfl,HR.out,HLA.out,.inl ⟨rfl,by simp,λu h=>h⟩⟩
  case round=>
   obtain ⟨m,o1,R1,acc,rfl,hpre,hlim,hm⟩:=hrel.out;clear HR hrel;obtain ⟨la,lc,hv⟩:=Zq hpre.now;obtain ⟨A,hA⟩:=Qb acc.length;rw [<-hA]at hv;subst hv;have HA:=Qa hA;have HX:=Qa hpre;have K5:=Qa hlim;clear hpre hlim;rcases hm with ⟨rfl,h8,hcont⟩ |⟨rfl,h9,hcont⟩
   ·have HC:=Qa hcont;have Qba:Hid (acc.length<=8):=h8;rw [<-hA]at h8;clear hcont hA;go_wp2_with fail;refine (Qjj HX.out.any HX.out.par 24).mono ?_;rintro en w3 ⟨ta,rfl,Wp,ha,hf⟩;have HY:=Qa (HX.out.step ha hf rfl);have Wj:=Qa Wp;obtain ⟨X,hX⟩:=Qb (Cj o1);rw [<-hX];have T9:=Qa hX;obtain ⟨W,hW⟩:=Qb (w3.alloc (.cells #[.int .i64 24,.slice none 0 0,.int .i64 0,.string X,.int .i64 (ta:Int)] 37));obtain ⟨N,hN⟩:=Qb w3.heap.size;have HQ:Hid (Dm B g P T L w0 R0 d W R1 (Vg o1) N 24 (.slice la A lc) acc 0 X (ta:Int)):=(by rw [hW,hN];exact HY.out.node2 24 0 X ta);have Yk:Hid (Qc (Vg o1) L.length L.length):=Qc.Sk K5.out;clear ha hf Wp hX HY;by_cases Sd:A=8
    ·have h8i:((A:Int)==8)=true:=(by simp;omega);have Cx:Hid (acc.length=8):=(by show _=_;rw [<-HA.out];exact Sd);clear h8 Sd;go_wp2_with fail;rw [<-hW,<-hN];clear hW hN;have hp:=HQ.out.par.c0;have b4:=HQ.out.n4;go_still_tail 6,(by kernel_rfl);change wpList _ _ _ _ _ W.drew;replace HQ:=Qa (HQ.out.below (Zk W));clear hp b4;go_wp2_with fail;refine (Qjg 3 ta (by decide) HQ.out.any).mono ?_;rintro en w4 ⟨⟨x4,rfl⟩,ha,hf⟩;replace HQ:=Qa (HQ.out.step ha hf rfl);obtain ⟨f1,hf1⟩:=Qth 3 ta (Vg o1);rw [hf1]at HQ;have HF1:=Qa hf1;clear ha hf hf1;go_wp2_with fail;refine (Qsv HQ.out.any HQ.out.par).mono ?_;rintro en w5 ⟨rfl,ha,hf⟩;replace HQ:=Qa (HQ.out.step ha hf rfl);obtain ⟨kd,hkd⟩:=Qb (Lv (Except.error f1):Nat);rw [<-hkd];clear ha hf hkd;have b2:=HQ.out.n2;have g2:=HQ.out.box.frozen 2;replace HQ:=Qa (HQ.out.Qmi (kd:Int));obtain ⟨w6,Gz⟩:=Qb (w5.setCell ⟨N,2,none⟩ (.int .i64 (kd:Int)));rw [<-Gz]at HQ;go_wp2_with fail;rw [<-Gz];clear Gz b2 g2;have hp:=HQ.out.par.c0;have b0:=HQ.out.n0;have b1:=HQ.out.n1;have b2:=HQ.out.n2;have b3:=HQ.out.n3;have b4:=HQ.out.n4;go_wp2_with fail;have HQD:=Qa (HQ.out.below (Zk w6));go_region_law (first
      |(go_simp;go_at_call 63;refine (Ob 24 (.slice none 0 0) [] _ _ ta HQD.out.any (Q2u w0.heap.size _) Qc.err (by simp)).mono ?_;rintro en w7 ⟨u1,R7,hdo,hc,Wd⟩;obtain rfl:=hc.en;have Tt:=Qa (HQD.out.toPre.step hc.any hc.fr hc.z);have Yl:=Qa hdo;have Ia:=Qa Wd;obtain ⟨k,hk⟩:=Qb (Qt u1);rw [<-hk];have HK:=Qa hk;clear hdo hc Wd hk)
      |(refine Mf rfl (.tmp 37) (.tmp 44) rfl w0.heap.size w7 (.slice la A lc) acc k (by rfl) (by rfl) Tt.out.now Tt.out.fr.size (by have:=Qba.out;omega) ?_;intro v3 w75 h3 hg3 hw3;obtain ⟨va,vc,hv3⟩:=Zq h3;obtain ⟨R3,hr3,L6⟩:=Tt.out.push h3 hg3 hw3;have HV:=Qa hr3;have hp7:=hr3.par.c0;clear hr3 h3 hg3 hw3 L6;rw [Qf,Yw]at hv3;subst hv3))
     all_goals
      clear hp b0 b1 b2 b3 b4 HQ HQD;have hp:=hp7;clear hp7;go_wp2_with fail;refine (G5 comma HV.out.any).mono ?_;rintro en w8 ⟨c,o',rfl,ha,hf,hc⟩;have HU:=Qa (HV.out.step ha hf rfl);clear ha hf hp;rcases hc with ⟨rfl,s,hs,hb,ho⟩ |⟨rfl,ho,hb⟩
      ·exfalso;have h1:=Yl.out;have h2:u1= .error f1:=h1;rw [h2]at hs;cases hs
      ·rw [ho]at HU;clear ho hb;have HU1:Hid (u1= .error f1):=Yl.out;go_wp2_with fail;go_roundw
       case rel=>exact ⟨false,_,_,_,rfl,HU.out,by rw [HU1.out];exact Qc.err,.inr ⟨rfl,by rw [Qf,Yw];have:=Qba.out;omega,λu h=>by rw [HU1.out]at h;rw [show u=_ from h];exact HC.out _ (Does.params (Does.name (G:=Qgo d acc) (λs hs=>Wj.out s hs) (by rw [<-T9.out];exact Qxc Cx.out HF1.out)))⟩⟩
       case measure=>show 0*_<1*_;omega
    ·have h8i:((A:Int)==8)=false:=(by simp;omega);have Cx:Hid (acc.length≠8):=(by show _≠_;rw [<-HA.out];exact Sd);clear h8 Sd;have hp:=HQ.out.par.c0;go_wp2_with fail;rw [<-hW,<-hN];clear hW hN hp;refine (Qsv HQ.out.any HQ.out.par).mono ?_;rintro en w5 ⟨rfl,ha,hf⟩;replace HQ:=Qa (HQ.out.step ha hf rfl);obtain ⟨kd,hkd⟩:=Qb (Lv (Vg o1):Nat);rw [<-hkd];have Vx:=Qa hkd;clear ha hf hkd;have b2:=HQ.out.n2;have g2:=HQ.out.box.frozen 2;replace HQ:=Qa (HQ.out.Qmi (kd:Int));obtain ⟨w6,Gz⟩:=Qb (w5.setCell ⟨N,2,none⟩ (.int .i64 (kd:Int)));rw [<-Gz]at HQ;go_wp2_with fail;rw [<-Gz];clear Gz b2 g2;have hp:=HQ.out.par.c0;have b0:=HQ.out.n0;have b1:=HQ.out.n1;have b2:=HQ.out.n2;have b3:=HQ.out.n3;have b4:=HQ.out.n4;go_wp2_with fail;have HQD:=Qa (HQ.out.below (Zk w6));go_region_law (first
      |(go_simp;go_at_call 63;refine (Ob 24 (.slice none 0 0) [] _ _ ta HQD.out.any (Q2u w0.heap.size _) (Qc.Qjb Yk.out) (by simp)).mono ?_;rintro en w7 ⟨u1,R7,hdo,hc,Wd⟩;obtain rfl:=hc.en;have Tt:=Qa (HQD.out.toPre.step hc.any hc.fr hc.z);have Yl:=Qa hdo;have Ia:=Qa Wd;obtain ⟨k,hk⟩:=Qb (Qt u1);rw [<-hk];have HK:=Qa hk;clear hdo hc Wd hk)
      |(refine Mf rfl (.tmp 37) (.tmp 44) rfl w0.heap.size w7 (.slice la A lc) acc k (by rfl) (by rfl) Tt.out.now Tt.out.fr.size (by have:=Qba.out;omega) ?_;intro v3 w75 h3 hg3 hw3;obtain ⟨va,vc,hv3⟩:=Zq h3;obtain ⟨R3,hr3,L6⟩:=Tt.out.push h3 hg3 hw3;have HV:=Qa hr3;have hp7:=hr3.par.c0;clear hr3 h3 hg3 hw3 L6;rw [Qf,Yw]at hv3;subst hv3))
     all_goals
      clear hp b0 b1 b2 b3 b4 HQ HQD;have hp:=hp7;clear hp7;go_wp2_with fail;refine (G5 comma HV.out.any).mono ?_;rintro en w8 ⟨c,o',rfl,ha,hf,hc⟩;have HU:=Qa (HV.out.step ha hf rfl);clear ha hf hp;have X9:Hid (∀u,Does (toO u1) (Qd3 d acc k) u->Does oa (λs n=>Qac n (.params []) d s) u):=λu h=>HC.out _ (Does.params (Does.name (G:=Qgo d acc) (λs hs=>Wj.out s hs) (by rw [<-T9.out];exact Qyi Cx.out Qba.out (by rw [<-Vx.out];exact Yl.out) (by rw [<-HK.out];exact h))));have Dq:Hid (∀n m,Qc o1 n m->Qc (toO u1) (n-2+1) (m-2)):=λn m h=>Ia.out _ _ (Wla (Q33 h));rcases hc with ⟨rfl,s,hs,hb,ho⟩ |⟨rfl,ho,hb⟩
      ·rw [ho]at HU;have HS:=Qa hs;have HB:=Qa hb;clear ho hs hb;obtain ⟨s0,hs0⟩: ∃s0,o1= .ok s0:=by
        cases o1 with
        |ok s0=>exact ⟨s0,rfl⟩
        |error f=>
         have h1:u1= .error f:=Yl.out;rw [h1]at HS;exact absurd HS.out (by intro h;cases h)
       have HS0:=Qa hs0;clear hs0;have HMS:Hid (lam g L.length w8<lam g L.length wr):=by have h1:Good B g L w8 _ d s.next:=HU.out.any;have h2:=HX.out.any;rw [HS0.out]at h2;have h2:Good B g L wr R1 d s0:=h2;have h3:=Dq.out (s0.l.length+s0.r.length) s0.r.length (by rw [HS0.out];intro s' e;injection e with e;subst e;exact ⟨Qh _,Qh _⟩) s HS.out;have h4:=Ve HB.out;have h5:=h2.some;show lam _ _ _<lam _ _ _;rw [h1.lam,h2.lam];omega
       have Pv:Hid (Qc (.ok s.next) L.length L.length):=by have h1:=Dq.out _ _ K5.out;rw [HS.out]at h1;have h2:=(K5.out s0 HS0.out).1;have h3:=HX.out.any;rw [HS0.out]at h3;have h4:=Good.some h3;exact (h1.Fh HB.out).self.mono (by omega) (by omega)
       go_wp2_with fail;go_roundw
       case rel=>exact ⟨true,_,_,_,rfl,HU.out,Pv.out,.inl ⟨rfl,by rw [Qf,Yw];have h1:=Qba.out;have h2:=Cx.out;omega,λu h=>X9.out u (Q6r HS.out HB.out h)⟩⟩
       case measure=>have:=HMS.out;show 1*_<1*_;omega
      ·rw [ho]at HU;have HB:=Qa hb;clear ho hb;have Pv:Hid (Qc (toO u1) L.length L.length):=by
        intro s hs;cases o1 with
        |error f=>
         have h1:u1= .error f:=Yl.out;rw [h1]at hs;cases hs
        |ok s0=>
         have h1:=Dq.out _ _ K5.out s hs;have h3:Good B g L wr R1 d s0:=HX.out.any;have h4:=h3.some;have h2:=(K5.out s0 rfl).1;exact ⟨by omega,by omega⟩
       go_wp2_with fail;go_roundw
       case rel=>exact ⟨false,_,_,_,rfl,HU.out,Pv.out,.inr ⟨rfl,by rw [Qf,Yw];have h1:=Qba.out;omega,λu h=>X9.out u (Q7u HB.out h)⟩⟩
       case measure=>show 0*_<1*_;omega
   ·have HC:=Qa hcont;have Qba:Hid (acc.length<=9):=h9;clear hcont hA h9;have hp:=HX.out.par.c0;go_wp2_with fail;refine (Qb0 rp HX.out.any).mono ?_;rintro en w3 ⟨⟨x3,rfl⟩,ha,hf⟩;have HY:=Qa (HX.out.step ha hf rfl);clear ha hf hp;go_wp2_with fail;go_ret;have hw0:=HW0.out;have hR0:=Jg.out;subst hw0 hR0;have hfin: ∀u,Does (Yv rp o1) (λs n=>some (.ok (acc,s))) u->Does (Yv lp o) (λs2 n=>if s2.is rp then some (.ok ([],s2.next))else Qac n (.params []) d s2) u:=λu h=>by rw [<-HOA.out];exact Does.O4 (X:=λs2 n=>some (.ok ([],s2.next))) (Y:=λs2 n=>Qac n (.params []) d s2) HB.out (HC.out u (Does.need (b:=rp) (G:=λs4 n=>some (.ok (acc,s4))) h))
    have hY:=HY.out;cases hn:Yv rp o1 with
    |error f=>
     rw [hn]at hY hfin;exact ⟨.error f,_,_,acc,rfl,hfin _ rfl,hY,Qba.out,λp s e=>by cases e⟩
    |ok s=>
     rw [hn]at hY hfin;exact ⟨.ok (acc,s),_,_,acc,rfl,hfin _ Ev.const,hY,Qba.out,λp s' e=>by injection e with e;injection e with e1 e2⟩
end
section
open Go.RowKit
variable {B g M:Nat}{L:List Tk}{w0 w w':World}{R0 R R':Bx}{d d':Nat}{o o' o1:Except Qq PS}{acc:List Int}
def Qa8 (d:Nat):PS->Nat->Option Out:=λs n=>Qm lp s λs2=>if s2.is rp then some (.ok ([],s2.next))else Qac n (.params []) d s2
def rpF (acc:List Int):PS->Nat->Option Out:=λs _=>Qm rp s λs4=>some (.ok (acc,s4))
def Q5e (B g:Nat) (L:List Tk) (w0:World) (R0:Bx) (d:Nat) (o:Except Qq PS) (t3 t4:Value) (wr:World):Prop:=
 ∃(m:Bool) (o2:Except Qq PS) (R2:Bx) (acc:List Int),t4= .bool m/\Ar B g L w0 R0 d wr R2 o2 t3 acc/\Qc o2 L.length L.length/\Grow o o2/\acc.length<=9/\
  (((m=false\/ ∃f,o2= .error f)/\ ∀u,Does o2 (rpF acc) u->Does o (Qa8 d) u)\/
   (∃s,o2= .ok s/\m=true/\acc.length<=8/\ ∀u,Does (.ok s) (λs n=>Qac n (.params acc) d s) u->Does o (Qa8 d) u))
def Wpu (B g:Nat) (L:List Tk) (w:World) (R:Bx) (d:Nat) (o:Except Qq PS) (en:Ending) (w':World):Prop:=
 ∃(v:Out) (R':Bx) (x:Value) (acc:List Int),en= .returned x/\Does o (Qa8 d) v/\Ar B g L w R d w' R' (toO v) x acc/\acc.length<=9/\Grow o (toO v)/\(∀p s,v= .ok (p,s)->acc=p)/\Qc (toO v) L.length L.length
theorem Does.Q4l:Does o (rpF acc) (Qch acc (Yv rp o)):=Does.Qqi
theorem Q86 {s:PS} {u:Out} (hb:s.is rp=true) (h:Does (.ok s) (rpF acc) u):u= .ok (acc,s.next):=by refine Ev.Qbo (Ev.congr (λn=> ?_) h);unfold rpF Qm;rw [Qk hb]
theorem Q4h (H:Qw B g L w R d o) (hl:Qc o L.length L.length):Calls prog 35 #[.pointer (some ⟨g,0,none⟩)] w (Wpu B g L w R d o):=by
 have HS:=Qa ((QRun.start H).pre H);have HL:=Qa hl;have HBO:Hid (B<=w.heap.size):=H.old;have Xp:=Xm;clear H hl;go_enter func35,ntmps35;go_wp2_with fail;refine (Kr lp HS.out.any).mono ?_;rintro en w2 ⟨⟨x2,rfl⟩,ha,hf⟩;replace HS:=Qa (HS.out.step ha hf (λ_ h=>h) (Grow.need _));clear ha hf;obtain ⟨o1,ho1⟩:=Qb (Yv lp o);rw [<-ho1]at HS;have Xq:=Qa ho1;have Ym:Hid (Qc o1 L.length L.length):=by rw [ho1];exact Qc.Ao HL.out
 have Vu:Hid (Grow o o1):=by rw [ho1];exact Grow.need _
 clear ho1;go_wp2_with fail;refine (Pj rp HS.out.any).mono ?_;rintro en w3 ⟨c,rfl,hb,hc⟩;replace HS:=Qa (HS.out.below hb);have HQ:Hid (Q5e B g L w R d o (.slice none 0 0) (.bool (!c)) w3):=by
  rcases hc with ⟨rfl,s,hs,hr⟩ |⟨rfl,hr⟩
  ·refine ⟨false,o1,_,[],rfl,HS.out,Ym.out,Vu.out,by simp,.inl ⟨.inl rfl,λu hu=> ?_⟩⟩;refine Does.need (b:=lp) ?_;rw [<-Xq.out];rw [hs]at hu ⊢;rw [Q86 hr hu];exact Ev.const.congr λn=>Qk hr
  ·cases o1 with
   |error f=>exact ⟨true,_,_,[],rfl,HS.out,Ym.out,Vu.out,by simp,.inl ⟨.inr ⟨f,rfl⟩,λu hu=>by refine Does.need (b:=lp) ?_;rw [<-Xq.out];exact hu⟩⟩
   |ok s=>
    refine ⟨true,_,_,[],rfl,HS.out,Ym.out,Vu.out,by simp,.inr ⟨s,rfl,rfl,by simp,λu hu=> ?_⟩⟩;refine Does.need (b:=lp) ?_;rw [<-Xq.out];exact Ev.Gi (by rw [hr s rfl];decide) hu
 clear hb hc HS;go_wp2_with fail;go_loopw [3,4] (λt3 t4 wr=>Hid (Q5e B g L w R d o t3 t4 wr)) (λ_ t4 wr=>Io t4*(1+Y7 g L.length wr))
 case atStart=>cases c<;>exact HQ
 case round=>
  obtain ⟨m,o2,R2,acc,rfl,hpre,hlim,hgr,h9,hst⟩:=hrel.out;obtain ⟨la,lcp,hv⟩:=Zq hpre.now;obtain ⟨A,hA⟩:=Qb acc.length;rw [<-hA]at hv;subst hv;have Rq:=Qa hA;have HS:=Qa hpre;have K5:=Qa hlim;have Jm:=Qa hgr;have H9:=Qa h9;clear hrel hpre hlim hgr h9 hA HQ;obtain ⟨wo,hwo⟩:=Qb wr;have Eo:=Qa hwo;clear hwo;rcases hst with ⟨hm,hct⟩ |⟨s,rfl,rfl,h8,hct⟩
  ·have Az:=Qa hct;have HQ2: ∃e:Int,wr.cell? ⟨g,5,none⟩=some (.int .i64 e)/\(m=false\/(e==0)=false):=by
    rcases hm with h |⟨f,rfl⟩
    ·cases o2 with
     |error f=>obtain ⟨e,c5,he⟩:=Gb HS.out.any;exact ⟨e,c5,.inl h⟩
     |ok s=>exact ⟨0,Hl HS.out.any,.inl h⟩
    ·obtain ⟨e,c5,he⟩:=Gb HS.out.any;exact ⟨e,c5,.inr (by simpa using he)⟩
   obtain ⟨e,c5,hme⟩:=HQ2;clear hm hct;cases m with
   |false=>
    clear hme;go_wp2_with fail;refine (Kr rp HS.out.any).mono ?_;rintro en w4 ⟨⟨x4,rfl⟩,ha,hf⟩;replace HS:=Qa (HS.out.step ha hf (λ_ h=>h) (Grow.need _));clear ha hf c5;go_wp2_with fail;go_ret;exact ⟨Qch acc (Yv rp o2),_,_,acc,rfl,Az.out _ Does.Q4l,by rw [Ur];exact HS.out,H9.out,by rw [Ur];exact Jm.out.trans (Grow.need _),Qlq,by rw [Ur];exact Qc.Ao K5.out⟩
   |true=>
    have hen:(e==0)=false:=by
     rcases hme with h |h
     ·cases h
     ·exact h
    clear hme;go_wp2_with fail;refine (Kr rp HS.out.any).mono ?_;rintro en w4 ⟨⟨x4,rfl⟩,ha,hf⟩;replace HS:=Qa (HS.out.step ha hf (λ_ h=>h) (Grow.need _));clear ha hf c5 hen;go_wp2_with fail;go_ret;exact ⟨Qch acc (Yv rp o2),_,_,acc,rfl,Az.out _ Does.Q4l,by rw [Ur];exact HS.out,H9.out,by rw [Ur];exact Jm.out.trans (Grow.need _),Qlq,by rw [Ur];exact Qc.Ao K5.out⟩
  ·have Az:=Qa hct;have H8:Hid (acc.length<=8):=h8;have Pn:A<=8:=(by rw [Rq.out];exact h8);have c5:=Hl HS.out.any;have J2:Hid (Y7 g L.length wo=s.r.length):=(by rw [Eo.out];exact Zu.Y7 HS.out.any);have HSP:=Qa (HS.out.any.len s rfl);clear hct h8;go_wp2_with fail;refine (Qgj HS.out.any).mono ?_;rintro en w4 ⟨ta,rfl,Wp,ha,hf⟩;replace HS:=Qa (HS.out.step ha hf (λ_ h=>h) Grow.name);have Wj:=Qa Wp;obtain ⟨X,hX⟩:=Qb (Cj (Except.ok s));rw [<-hX];have HX:=Qa hX;clear ha hf Wp hX c5;obtain ⟨o3,ho3⟩:=Qb (Vg (.ok s));rw [<-ho3]at HS;have Ab:=Qa ho3;have Vm:Hid (Qc o3 (L.length-1) (s.r.length-1)):=by
    rw [ho3];refine Q33 (λs' e=> ?_);injection e with e
    subst e;exact ⟨(K5.out s rfl).1,Qh _⟩
   have V5:Hid (Grow (.ok s) o3):=(by rw [ho3];exact Grow.name);clear ho3;by_cases Sd:A=8
   ·have hge:(8:Int)<=(A:Int):=(by omega);have Cx:Hid (acc.length=8):=(by show _=_;rw [<-Rq.out];exact Sd);clear Pn Sd;go_wp2_with fail;refine (Pz 3 ta (by decide) HS.out.any).mono ?_;rintro en w5 ⟨⟨x5,rfl⟩,ha,hf⟩;replace HS:=Qa (HS.out.step ha hf (λ_ h=>h) (Grow.fail _ _));clear ha hf;obtain ⟨f1,hf1⟩:=Qth 3 ta o3;rw [hf1]at HS;have HF1:=Qa hf1;clear hf1;go_wp2_with fail;refine (Qlz HS.out.any).mono ?_;rintro en w6 ⟨rfl,ha,hf⟩;replace HS:=Qa (HS.out.step ha hf (λ_ h=>h) Grow.kind);obtain ⟨kd,hkd⟩:=Qb (Lv (Except.error f1):Nat);rw [<-hkd];clear ha hf hkd;go_wp2_with fail;refine (Qav 24 (kd:Int) X ta HS.out.any Qc.err).mono ?_;rintro en w7 ⟨u1,R7,Wi,Qe,_⟩;obtain rfl:=Qe.en;have hu1:u1= .error f1:=Wi;subst hu1;have HV:=Qa (HS.out.then_ Qe.run Qe.tell.grow);obtain ⟨k,hk⟩:=Qb (Qt (Except.error f1));rw [<-hk];have F4:=Qa Qe.tell;have HK:=Qa hk;clear Wi Qe hk;go_wp2_with (at_builtin;refine Hf rfl (.tmp 35) (.tmp 42) rfl w.heap.size w7 (.slice la A lcp) acc k rfl rfl HV.out.now HV.out.fr.size (by have:=H8.out;omega) ?_;intro v3 w8 h3 hg3 hw3;obtain ⟨va,vc3,hv3⟩:=Zq h3;obtain ⟨R3,hr3⟩:=HV.out.push (k:=k) (by rw [HK.out];exact F4.out.Xd) h3 hg3 hw3;have HR3:=Qa hr3;clear hr3 h3 hg3 hw3;rw [Qf,Yw]at hv3;subst hv3);refine (Ub comma HR3.out.any).mono ?_;rintro en w9 ⟨c,oe,rfl,ha,hf,hc⟩;rcases hc with ⟨rfl,s',hs,hb,ho⟩ |⟨rfl,ho,hb⟩
    ·cases hs
    ·subst ho;replace HR3:=Qa (HR3.out.step ha hf (λ_ h=>h) (Grow.refl _));clear ha hf hb;go_wp2_with fail;go_roundw
     case rel=>
      refine ⟨false,_,_,acc++[k],rfl,HR3.out,Qc.err,Grow.err,by rw [Qf,Yw];have:=H8.out;omega,.inl ⟨.inl rfl,λu hu=>Az.out u ?_⟩⟩;rw [show u= .error f1 from hu];refine Does.params (Does.name (G:=λnm at_ s1 n=>Qgo d acc nm at_ s1 n) Wj.out ?_);rw [<-HX.out,<-Ab.out];exact Qxc Cx.out HF1.out
     case measure=>
      show Io (.bool false)*_<Io (.bool true)*_;have h1:Io (.bool false)=0:=rfl;have h2:Io (.bool true)=1:=rfl;rw [h1,h2];omega
   ·have hge: ¬(8:Int)<=(A:Int):=(by omega);have Cx:Hid (acc.length≠8):=(by show _≠_;rw [<-Rq.out];exact Sd);clear Pn Sd;go_wp2_with fail;refine (Qlz HS.out.any).mono ?_;rintro en w6 ⟨rfl,ha,hf⟩;replace HS:=Qa (HS.out.step ha hf (λ_ h=>h) Grow.kind);obtain ⟨kd,hkd⟩:=Qb (Lv o3:Nat);rw [<-hkd];have Vx:=Qa hkd;clear ha hf hkd;have Dn:Hid (Qc (F3 o3) (L.length-1) (s.r.length-1)):=Qc.Qjb Vm.out;go_wp2_with fail;refine (Qav 24 (kd:Int) X ta HS.out.any (Dn.out.self.mono (by omega) (by omega))).mono ?_;rintro en w7 ⟨u1,R7,Wi,Qe,Ik⟩;obtain rfl:=Qe.en;have Yl:=Qa Wi;have Ia:=Qa (Ik _ _ Dn.out);have HV:=Qa (HS.out.then_ Qe.run Qe.tell.grow);obtain ⟨k,hk⟩:=Qb (Qt u1);rw [<-hk];have F4:=Qa Qe.tell;have HK:=Qa hk;clear Wi Qe hk Ik;have G8:=Qa (K5.out s rfl);have Xj:Hid (∀s3,toO u1= .ok s3->1<=s.r.length):=λs3 hs3=>by
     obtain ⟨sa,h1,_⟩:=F4.out.grow s3 hs3;cases ho:o3 with
     |error f=>rw [ho]at h1;cases h1
     |ok sb=>
      have h2:=Ab.out;rw [ho]at h2;by_cases hk1:s.tok.kind=1
      ·have:=Qgp (s:=s) (by omega);omega
      ·rw [Qcr hk1]at h2;cases h2
    have HGZ:Hid (Grow o (toO u1)):=((Jm.out.trans V5.out).trans Grow.kind).trans F4.out.grow;go_wp2_with (at_builtin;refine Hf rfl (.tmp 35) (.tmp 42) rfl w.heap.size w7 (.slice la A lcp) acc k rfl rfl HV.out.now HV.out.fr.size (by have:=H8.out;omega) ?_;intro v3 w8 h3 hg3 hw3;obtain ⟨va,vc3,hv3⟩:=Zq h3;obtain ⟨R3,hr3⟩:=HV.out.push (k:=k) (by rw [HK.out];exact F4.out.Xd) h3 hg3 hw3;have HR3:=Qa hr3;clear hr3 h3 hg3 hw3;rw [Qf,Yw]at hv3;subst hv3);refine (Ub comma HR3.out.any).mono ?_;rintro en w9 ⟨c,oe,rfl,ha,hf,hc⟩;have HCO:Hid (∀u,Does (toO u1) (Qd3 d acc k) u->Does o (Qa8 d) u):=λu hu=>Az.out u (by refine Does.params (Does.name (G:=λnm at_ s1 n=>Qgo d acc nm at_ s1 n) Wj.out ?_);rw [<-HX.out,<-Ab.out];refine Qyi Cx.out H8.out (by rw [<-Vx.out];exact Yl.out) ?_;rw [<-HK.out];exact hu);rcases hc with ⟨rfl,s',hs,hb,ho⟩ |⟨rfl,ho,hb⟩
    ·subst ho;have C8:=Qa hs;have Yx:=Qa hb;have HGE:Hid (Grow (toO u1) (.ok s'.next)):=(by rw [hs];exact Grow.next);replace HR3:=Qa (HR3.out.step ha hf (λ_ h=>h) HGE.out);clear ha hf hb hs;go_wp2_with fail;go_roundw
     case rel=>
      refine ⟨true,_,_,acc++[k],rfl,HR3.out,?_,HGZ.out.trans HGE.out,by rw [Qf,Yw];have:=H8.out;omega,.inr ⟨s'.next,rfl,rfl,by rw [Qf,Yw];have:=H8.out;have:=Cx.out;omega,λu hu=>HCO.out u (Q6r C8.out Yx.out hu)⟩⟩;have h1:=Ia.out;rw [C8.out]at h1;have h2:=G8.out;exact (h1.Fh Yx.out).self.mono (by omega) (by omega)
     case measure=>
      show Io (.bool true)*(1+Y7 g L.length w9)<Io (.bool true)*(1+Y7 g L.length _);have h2:Io (.bool true)=1:=rfl;rw [h2,<-Eo.out,J2.out,Zu.Y7 HR3.out.any];have h3:=(Ia.out s' C8.out).2;have h4:=Ve Yx.out;have h5:=Xj.out s' C8.out;omega
    ·rw [ho]at ha;replace HR3:=Qa (HR3.out.step ha hf (λ_ h=>h) (Grow.refl _));have Yx:=Qa hb;clear ha hf hb ho;go_wp2_with fail;go_roundw
     case rel=>
      exact ⟨false,_,_,acc++[k],rfl,HR3.out,Ia.out.self.mono (by have:=G8.out;have:=HSP.out;omega) (by have:=G8.out;have:=HSP.out;omega),HGZ.out,by rw [Qf,Yw];have:=H8.out;omega,.inl ⟨.inl rfl,λu hu=>HCO.out u (Q7u Yx.out hu)⟩⟩
     case measure=>
      show Io (.bool false)*_<Io (.bool true)*_;have h1:Io (.bool false)=0:=rfl;have h2:Io (.bool true)=1:=rfl;rw [h1,h2];omega
end
end Go.Proofs.YtdncpkkhkbijfaaGreatDoor
