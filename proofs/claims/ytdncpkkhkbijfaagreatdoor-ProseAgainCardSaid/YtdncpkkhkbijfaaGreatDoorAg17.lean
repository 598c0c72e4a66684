import Derived.Test.YtdncpkkhkbijfaaGreatDoorAg16
open Go.Proofs.Tryz
set_option linter.all false
set_option maxHeartbeats 0
set_option maxRecDepth 100000
namespace Go.Proofs.YtdncpkkhkbijfaaGreatDoor
section
open Go.RowKit
variable {B g:Nat}{L:List Tk}{w0 w w':World}{R0 R R':Bx}{d d':Nat}{o o' o1:Except Qq PS}{G:Nat}{K X N A:Value}
structure Tv (B g:Nat) (L:List Tk) (w0:World) (R0:Bx) (d:Nat) (w:World) (R:Bx) (o:Except Qq PS) (G:Nat) (K X N A:Value):Prop extends QRun B g L w0 R0 d w R o where
 tok:Held w G 69 #[K,X,N,A]
theorem Tv.step (H:Tv B g L w0 R0 d w R o G K X N A) (hA:Qw B g L w' R' d' o') (F:Fr g w w' R R') (hz: ∀k,R.Z k->R'.Z k):Tv B g L w0 R0 d' w' R' o' G K X N A:=
 ⟨H.toQRun.step hA F hz,H.any.held F H.tok (by decide) (by decide) (H.any.Lj H.tok (by decide))⟩
theorem Tv.then_ (H:Tv B g L w0 R0 d w R o G K X N A) (K':QRun B g L w R d' w' R' o'):Tv B g L w0 R0 d' w' R' o' G K X N A:=H.step K'.any K'.fr K'.z
theorem Tv.below (H:Tv B g L w0 R0 d w R o G K X N A) (hb:Below w.heap.size w w'):Tv B g L w0 R0 d w' R o G K X N A:=H.step (H.any.below hb) (Fr.of_below R hb) (λ_ h=>h)
theorem QRun.tok (H:QRun B g L w0 R0 d w R o) (K X N A:Value):Tv B g L w0 R0 d (w.alloc (.cells #[K,X,N,A] 69)) R o w.heap.size K X N A:=
 ⟨H.below Qag,Held.new _ _ _⟩
def Qga (B g:Nat) (L:List Tk) (M:Nat):Prop:= ∀w R d o,Qw B g L w R d o->(∀s,o= .ok s->d<=200)->Qc o L.length M->Calls prog 145 #[.pointer (some ⟨g,0,none⟩)] w (Jp B g L w R d o (λs n=>Qg n .front d s))
theorem Q0a {s:PS} (h:s.is minus=true\/s.is bang=true):(s.tok.text==bang)= !(s.is minus):=by
 unfold PS.is sees at h ⊢;simp only [Yo,beq_iff_eq]at h;rcases h with ⟨h1,h2⟩ |⟨h1,h2⟩
 ·rw [h2,h1];decide
 ·rw [h2,h1];decide
theorem Whc {M:Nat} (hU: ∀m,m<M->Qga B g L m) (hI: ∀w R d o,Qw B g L w R d o->(∀s,o= .ok s->d<=200)->Qc o L.length M->Calls prog 155 #[.pointer (some ⟨g,0,none⟩)] w (Jp B g L w R d o (λs n=>Qg n .idx d s))):Qga B g L M:=by
 intro w R d o H hd hl;have HQ:=Qa (QRun.start H);have HU:=Qa hU;have HI:=Qa hI;have Wv:=Qa hd;have HL:=Qa hl;obtain ⟨tk,tn,ta,tx,Wp,hcall⟩:=Gu H;have Wj:=Qa Wp;have HC:=Qa hcall;clear H hU hd hl Wp hcall hI;go_enter func145,ntmps145;rw [Qz 2,Qz 5,Qz 10,Qz 13];go_wp2_with fail;refine HC.out.mono ?_;rintro en w1 ⟨rfl,hb⟩;have HS:=Qa ((HQ.out.below hb).tok (.int .i64 (tk:Int)) (.string tx) (.int .i64 (tn:Int)) (.int .i64 (ta:Int)));clear hb HC HQ;go_wp2_with fail;obtain ⟨W0,hW0⟩:=Qb (w1.alloc (.cells #[.int .i64 (tk:Int),.string tx,.int .i64 (tn:Int),.int .i64 (ta:Int)] 69));obtain ⟨G,hG⟩:=Qb w1.heap.size;rw [<-hW0,<-hG]at HS ⊢;clear hW0 hG;refine Qn ?_;go_wp2_with fail;refine (Pj minus HS.out.any).mono ?_;rintro en w2 ⟨c,rfl,hb,hc⟩;replace HS:=Qa (HS.out.below hb);clear hb;rcases hc with ⟨rfl,s,rfl,hb⟩ |⟨rfl,hb⟩
 ·have HB:=Qa hb;have HSM:Hid (s.is minus=true\/s.is bang=true):=by show _\/_;simp [HB.out]
  have HB1:=Qa hb;clear hb;obtain ⟨hM,hN,hl1⟩:=HL.out.next_lt HB1.out;have Ym:=Qa hl1;have HM:=Qa hM;clear hl1 hM hN;obtain ⟨p,c1,f1,hp,hg,hf⟩:=Zu.take (s:=s) HS.out.any (Dc HB1.out);obtain ⟨W,hW⟩:=Qb (w2.setCell ⟨g,1,none⟩ (.int .i64 ((p:Int)+1)));rw [<-hW]at hg hf;replace HS:=Qa (HS.out.step (o':=.ok s.next) hg hf (λ_ h=>h));clear hg hf;go_wp2_with fail;rw [<-hW];clear hW c1 f1;have z3:W.cell? ⟨G,3,none⟩=some (.int .i64 (ta:Int)):=HS.out.tok.at_ rfl;refine Qn ?_;go_wp2_with fail;refine (Qfj ta HS.out.any (λ_ _=>by have:=Wv.out s rfl;omega)).mono ?_;rintro en w5 ⟨⟨x5,rfl⟩,ha,hf⟩;replace HS:=Qa (HS.out.step ha hf (λ_ h=>h));clear ha hf z3;by_cases hd2:200<=d
  ·rw [Ry hd2]at HS;obtain ⟨e,c5,he⟩:=Gb HS.out.any;have hen:(e != 0)=true:=(by simpa using he);clear he;have HD2:=Qa hd2;clear hd2;go_wp2_with fail;go_ret;refine ⟨.error (4,ta),_,?_,⟨⟨HS.out.any,HS.out.fr,HS.out.z⟩,rfl,Cc.err⟩⟩;rw [(Wj.out s rfl).2.2.1];exact Does.Qht HSM.out HD2.out
  ·rw [Un hd2]at HS;have c5:=Hl HS.out.any;have HD2:=Qa hd2;clear hd2;go_wp2_with fail;refine (HU.out (M-1) (by have:=HM.out;omega) _ _ _ _ HS.out.any (λ_ _=>by have:=HD2.out;omega) (Ym.out.mono (by omega) (Qh _))).mono ?_;rintro en w6 ⟨v,R6,hdo,Qe⟩;obtain rfl:=Qe.en;replace HS:=Qa (HS.out.then_ Qe.run);have Wu:=Qa hdo;have HT:=Qa Qe.tell;have Dq:=Qa (Does.Af hdo _ _ Ym.out);obtain ⟨k,hk⟩:=Qb (Qt v);rw [<-hk];have HK:=Qa hk;clear hdo Qe hk c5;obtain ⟨dd,V,c2,f2,hV,ha,hf⟩:=Qw.close HS.out.any (by have:=HD2.out;omega);obtain ⟨W7,Xr⟩:=Qb (w6.setCell ⟨g,2,none⟩ (.int .i64 V));rw [<-Xr]at ha hf;replace HS:=Qa (HS.out.step ha hf (λ_ h=>h));clear ha hf;go_wp2_with fail;rw [<-hV,<-Xr];clear hV Xr c2 f2;refine Qn ?_;have z1:W7.cell? ⟨G,1,none⟩=some (.string tx):=HS.out.tok.at_ rfl;have hX2:(tx.toList==(⟨bang.toArray⟩:ByteArray).toList)= !(s.is minus):=(by rw [(Wj.out s rfl).2.2.2,Qou];exact Q0a HSM.out);have Tp:(tx.toList==[33])= !(s.is minus):=(by rw [<-hX2,show (⟨bang.toArray⟩:ByteArray).toList=[33] by rw [ByteArray.toList_eq];rfl]);clear hX2;have z3:(W7.alloc (.cells #[.int .i64 k] 3)).cell? ⟨G,3,none⟩=some (.int .i64 (ta:Int)):=(HS.out.below Qag).tok.at_ rfl;have z3':W7.cell? ⟨G,3,none⟩=some (.int .i64 (ta:Int)):=HS.out.tok.at_ rfl;cases hm:s.is minus with
   |true=>
    replace Tp:(tx.toList==[33])=false:=(by rw [Tp,hm];rfl);have Lf:=Qa hm;clear hm;go_wp2_with fail;refine Qn ?_;go_wp2_with fail;refine (Ie 6 [k] 0 ⟨#[]⟩ ta #[.int .i64 k] rfl 1 rfl HS.out.any (λj hj=>by rw [List.mem_singleton.1 hj,HK.out];exact HT.out.Xd) (Dq.out.self.mono (by omega) (by omega)) (by simp)).mono ?_;rintro en w8 ⟨u,R8,Wi,Qe,_⟩;obtain rfl:=Qe.en;have Yl:=Qa Wi;have HG:=Qa Qe;clear Wi Qe;go_wp2_with fail;go_ret;exact ⟨u,R8,Does.Qm4 HSM.out HD2.out Wu.out (by rw [Lf.out];rw [<-(Wj.out s rfl).2.2.1,<-HK.out];exact Yl.out),⟨HS.out.toQRun.then_ HG.out.run,rfl,HG.out.tell.back (Grow.next.trans HT.out.grow)⟩⟩
   |false=>
    replace Tp:(tx.toList==[33])=true:=(by rw [Tp,hm];rfl);have Lf:=Qa hm;clear hm;go_wp2_with fail;refine Qn ?_;go_wp2_with fail;refine (Ie 7 [k] 0 ⟨#[]⟩ ta #[.int .i64 k] rfl 1 rfl HS.out.any (λj hj=>by rw [List.mem_singleton.1 hj,HK.out];exact HT.out.Xd) (Dq.out.self.mono (by omega) (by omega)) (by simp)).mono ?_;rintro en w8 ⟨u,R8,Wi,Qe,_⟩;obtain rfl:=Qe.en;have Yl:=Qa Wi;have HG:=Qa Qe;clear Wi Qe;go_wp2_with fail;go_ret;exact ⟨u,R8,Does.Qm4 HSM.out HD2.out Wu.out (by rw [Lf.out];rw [<-(Wj.out s rfl).2.2.1,<-HK.out];exact Yl.out),⟨HS.out.toQRun.then_ HG.out.run,rfl,HG.out.tell.back (Grow.next.trans HT.out.grow)⟩⟩
 ·have HNM:Hid (∀s,o= .ok s->s.is minus=false):=hb;clear hb;go_wp2_with fail;refine (Pj bang HS.out.any).mono ?_;rintro en w3 ⟨c,rfl,hb,hc⟩;replace HS:=Qa (HS.out.below hb);clear hb;rcases hc with ⟨rfl,s,rfl,hb⟩ |⟨rfl,hb⟩
  ·have HB:=Qa hb;have HSM:Hid (s.is minus=true\/s.is bang=true):=(by show _\/_;simp [HB.out]);have HB1:=Qa hb;clear hb;obtain ⟨hM,hN,hl1⟩:=HL.out.next_lt HB1.out;have Ym:=Qa hl1;have HM:=Qa hM;clear hl1 hM hN;obtain ⟨p,c1,f1,hp,hg,hf⟩:=Zu.take (s:=s) HS.out.any (Dc HB1.out);obtain ⟨W,hW⟩:=Qb (w3.setCell ⟨g,1,none⟩ (.int .i64 ((p:Int)+1)));rw [<-hW]at hg hf;replace HS:=Qa (HS.out.step (o':=.ok s.next) hg hf (λ_ h=>h));clear hg hf;go_wp2_with fail;rw [<-hW];clear hW c1 f1;have z3:W.cell? ⟨G,3,none⟩=some (.int .i64 (ta:Int)):=HS.out.tok.at_ rfl;refine Qn ?_;go_wp2_with fail;refine (Qfj ta HS.out.any (λ_ _=>by have:=Wv.out s rfl;omega)).mono ?_;rintro en w5 ⟨⟨x5,rfl⟩,ha,hf⟩;replace HS:=Qa (HS.out.step ha hf (λ_ h=>h));clear ha hf z3;by_cases hd2:200<=d
   ·rw [Ry hd2]at HS;obtain ⟨e,c5,he⟩:=Gb HS.out.any;have hen:(e != 0)=true:=(by simpa using he);clear he;have HD2:=Qa hd2;clear hd2;go_wp2_with fail;go_ret;refine ⟨.error (4,ta),_,?_,⟨⟨HS.out.any,HS.out.fr,HS.out.z⟩,rfl,Cc.err⟩⟩;rw [(Wj.out s rfl).2.2.1];exact Does.Qht HSM.out HD2.out
   ·rw [Un hd2]at HS;have c5:=Hl HS.out.any;have HD2:=Qa hd2;clear hd2;go_wp2_with fail;refine (HU.out (M-1) (by have:=HM.out;omega) _ _ _ _ HS.out.any (λ_ _=>by have:=HD2.out;omega) (Ym.out.mono (by omega) (Qh _))).mono ?_;rintro en w6 ⟨v,R6,hdo,Qe⟩;obtain rfl:=Qe.en;replace HS:=Qa (HS.out.then_ Qe.run);have Wu:=Qa hdo;have HT:=Qa Qe.tell;have Dq:=Qa (Does.Af hdo _ _ Ym.out);obtain ⟨k,hk⟩:=Qb (Qt v);rw [<-hk];have HK:=Qa hk;clear hdo Qe hk c5;obtain ⟨dd,V,c2,f2,hV,ha,hf⟩:=Qw.close HS.out.any (by have:=HD2.out;omega);obtain ⟨W7,Xr⟩:=Qb (w6.setCell ⟨g,2,none⟩ (.int .i64 V));rw [<-Xr]at ha hf;replace HS:=Qa (HS.out.step ha hf (λ_ h=>h));clear ha hf;go_wp2_with fail;rw [<-hV,<-Xr];clear hV Xr c2 f2;refine Qn ?_;have z1:W7.cell? ⟨G,1,none⟩=some (.string tx):=HS.out.tok.at_ rfl;have hX2:(tx.toList==(⟨bang.toArray⟩:ByteArray).toList)= !(s.is minus):=(by rw [(Wj.out s rfl).2.2.2,Qou];exact Q0a HSM.out);have Tp:(tx.toList==[33])= !(s.is minus):=(by rw [<-hX2,show (⟨bang.toArray⟩:ByteArray).toList=[33] by rw [ByteArray.toList_eq];rfl]);clear hX2;have z3:(W7.alloc (.cells #[.int .i64 k] 3)).cell? ⟨G,3,none⟩=some (.int .i64 (ta:Int)):=(HS.out.below Qag).tok.at_ rfl;have z3':W7.cell? ⟨G,3,none⟩=some (.int .i64 (ta:Int)):=HS.out.tok.at_ rfl;cases hm:s.is minus with
    |true=>
     replace Tp:(tx.toList==[33])=false:=(by rw [Tp,hm];rfl);have Lf:=Qa hm;clear hm;go_wp2_with fail;refine Qn ?_;go_wp2_with fail;refine (Ie 6 [k] 0 ⟨#[]⟩ ta #[.int .i64 k] rfl 1 rfl HS.out.any (λj hj=>by rw [List.mem_singleton.1 hj,HK.out];exact HT.out.Xd) (Dq.out.self.mono (by omega) (by omega)) (by simp)).mono ?_;rintro en w8 ⟨u,R8,Wi,Qe,_⟩;obtain rfl:=Qe.en;have Yl:=Qa Wi;have HG:=Qa Qe;clear Wi Qe;go_wp2_with fail;go_ret;exact ⟨u,R8,Does.Qm4 HSM.out HD2.out Wu.out (by rw [Lf.out];rw [<-(Wj.out s rfl).2.2.1,<-HK.out];exact Yl.out),⟨HS.out.toQRun.then_ HG.out.run,rfl,HG.out.tell.back (Grow.next.trans HT.out.grow)⟩⟩
    |false=>
     replace Tp:(tx.toList==[33])=true:=(by rw [Tp,hm];rfl);have Lf:=Qa hm;clear hm;go_wp2_with fail;refine Qn ?_;go_wp2_with fail;refine (Ie 7 [k] 0 ⟨#[]⟩ ta #[.int .i64 k] rfl 1 rfl HS.out.any (λj hj=>by rw [List.mem_singleton.1 hj,HK.out];exact HT.out.Xd) (Dq.out.self.mono (by omega) (by omega)) (by simp)).mono ?_;rintro en w8 ⟨u,R8,Wi,Qe,_⟩;obtain rfl:=Qe.en;have Yl:=Qa Wi;have HG:=Qa Qe;clear Wi Qe;go_wp2_with fail;go_ret;exact ⟨u,R8,Does.Qm4 HSM.out HD2.out Wu.out (by rw [Lf.out];rw [<-(Wj.out s rfl).2.2.1,<-HK.out];exact Yl.out),⟨HS.out.toQRun.then_ HG.out.run,rfl,HG.out.tell.back (Grow.next.trans HT.out.grow)⟩⟩
  ·have Rs:Hid (∀s,o= .ok s->s.is bang=false):=hb;clear hb;go_wp2_with fail;refine (HI.out _ _ _ _ HS.out.any Wv.out HL.out).mono ?_;rintro en w4 ⟨u,R4,hdo,Qe⟩;obtain rfl:=Qe.en;have Wu:=Qa hdo;have HG:=Qa Qe;clear hdo Qe;go_wp2_with fail;go_ret;exact ⟨u,R4,Does.Qjx HNM.out Rs.out Wu.out,HS.out.toQRun.got HG.out⟩
end
section
open Go.RowKit
variable {B g:Nat}{L:List Tk}{w0 w w':World}{R0 R R':Bx}{d d':Nat}{o o' o1:Except Qq PS}{G:Nat}{K X N A:Value}
theorem Does.Qxp {a b:List UInt8} {s:PS} {v:Out} (h:Does (.ok s) (λs n=>Qg n (.inner a b) d s) v) (n m:Nat) (hl:Qc (.ok s) n m):Qc (toO v) (n-1) (m-1):=by
 match v,h with
 | .error f,_=>exact Qc.err
 | .ok (l,s1),h=>
  obtain ⟨n0,hn⟩:=h;have h1:=hn n0 (Qh _);have h0:=hl s rfl;cases n0 with
  |zero=>cases h1
  |succ n0=>
   replace h1:Qg (n0+1) (.inner a b) d s=some (.ok (l,s1)):=h1;rw [Qg]at h1;split at h1
   ·rename_i ha;have hp:=Ve ha;have e0:s.next.l=s.l:=rfl;split at h1
    ·cases h1
    ·rcases go_ok h1 with ⟨e,_,h⟩ |⟨p,s2,h2,h3⟩
     ·cases h
     ·have h5:=Reads.N7 ⟨n0,h2⟩;rw [e0]at h5;split at h3
      ·rename_i hb;have hq:=Ve hb;have e2:s2.next.l=s2.l:=rfl;injection h3 with h3
       injection h3 with h3
       injection h3 with _ h3
       subst h3;intro s' e;injection e with e
       subst e;rw [e2];exact ⟨by omega,by omega⟩
      ·cases h3
   ·cases h1
def Q5h (B g:Nat) (L:List Tk) (M:Nat) (w0:World) (R0:Bx) (d:Nat) (o:Except Qq PS) (t3:Value) (wr:World):Prop:=
 ∃(o1:Except Qq PS) (R1:Bx) (p:Int),t3= .int .i64 p/\QRun B g L w0 R0 d wr R1 o1/\Qc o1 L.length M/\Grow o o1/\Js o1 p/\(∀f,o1= .error f->p= -1)/\
  ∀u,Does o1 (λs n=>Qg n (.more p) d s) u->Does o (λs n=>Qg n .idx d s) u
theorem Out.Qfs {v:Out}: ∀f,toO v= .error f->Qt v= -1:=λf e=>by
 match v,e with
 | .error f',_=>rfl
 | .ok (l,s),e=>cases e
theorem Wdv {M:Nat} (hE: ∀m,m<M->Sq B g L m) (hF:Calls prog 160 #[.pointer (some ⟨g,0,none⟩)] w (Jp B g L w R d o (λs n=>Qg n .single d s))) (hd: ∀s,o= .ok s->d<=200) (hl:Qc o L.length M):Calls prog 155 #[.pointer (some ⟨g,0,none⟩)] w (Jp B g L w R d o (λs n=>Qg n .idx d s)):=by
 have HE:=Qa hE;have HFI:=Qa hF;have Wv:=Qa hd;have HL:=Qa hl;have Xp:=Xm;clear hE hd hl hF;go_enter func155,ntmps155;go_wp2_with fail;refine HFI.out.mono ?_;rintro en w1 ⟨v,R1,hdo,Qe⟩;obtain rfl:=Qe.en;have HQ:Hid (Q5h B g L M w R d o (.int .i64 (Qt v)) w1):=⟨toO v,R1,Qt v,rfl,Qe.run,Does.Af hdo _ _ HL.out,Qe.tell.grow,Qe.tell.Xd,Out.Qfs,λu hu=>Does.idx hdo hu⟩;have HDL:Hid (∀s,toO v= .ok s->d<=200):=λs hs=>by obtain ⟨s0,h1,_⟩:=Qe.tell.grow s hs;exact Wv.out s0 h1
 obtain ⟨k,hk⟩:=Qb (Qt v);rw [<-hk]at HQ ⊢;clear hdo Qe hk HFI;go_wp2_with fail;go_loopw [3] (λt3 wr=>Hid (Q5h B g L M w R d o t3 wr)) (λ_ wr=>Y7 g L.length wr)
 case atStart=>exact HQ
 case round=>
  obtain ⟨o1,R1,p,rfl,hrun,hlim,hgr,hki,her,hcont⟩:=hrel.out;have HS:=Qa hrun;have K5:=Qa hlim;have Jm:=Qa hgr;have N8:=Qa hki;have Vp:=Qa her;have Az:=Qa hcont;clear hrel hrun hlim hgr hki her hcont HQ;obtain ⟨wo,hwo⟩:=Qb wr;have Eo:=Qa hwo;clear hwo;go_wp2_with fail;refine (Pj lb HS.out.any).mono ?_;rintro en w2 ⟨c,rfl,hb,hc⟩;rcases hc with ⟨rfl,s,hs,hb2⟩ |⟨rfl,hb2⟩
  ·subst hs;have J2:Hid (Y7 g L.length wo=s.r.length):=(by rw [Eo.out];exact Zu.Y7 HS.out.any);replace HS:=Qa (HS.out.below hb);have HB:=Qa hb2;have Yi:=Qa (Ve hb2);have Bu:Hid (d<=200):=(by obtain ⟨s0,h1,_⟩:=Jm.out s rfl;exact Wv.out s0 h1);clear hb hb2;obtain ⟨tk,tn,ta,tx,Wp,hcall⟩:=Gu HS.out.any;have Wj:=Qa Wp;have HC:=Qa hcall;clear Wp hcall;go_wp2_with fail;refine HC.out.mono ?_;rintro en w3 ⟨rfl,hb⟩;replace HS:=Qa (HS.out.below hb);clear hb HC;go_wp2_with fail;refine (Qzh HE.out HS.out.any (λ_ _=>Bu.out) K5.out).mono ?_;rintro en w4 ⟨v2,R4,hdo,Qe⟩;obtain rfl:=Qe.en;replace HS:=Qa (HS.out.then_ Qe.run);have Wu:=Qa hdo;have HT:=Qa Qe.tell;have Dq:=Qa (hdo.Qxp _ _ K5.out);have Pv:=Qa (hdo.Qxp _ _ (show Qc (.ok s) (s.l.length+s.r.length) s.r.length from λs' e=>by injection e with e;subst e;exact ⟨Qh _,Qh _⟩));have X3:=Qa (K5.out s rfl);obtain ⟨k2,hk⟩:=Qb (Qt v2);rw [<-hk];have HK:=Qa hk;clear hdo Qe hk;go_wp2_with fail;refine (Ie 8 [p,k2] 0 ⟨#[]⟩ ta #[.int .i64 p,.int .i64 k2] rfl 2 rfl HS.out.any (λj hj=>by
    rcases List.mem_cons.1 hj with rfl |hj
    ·exact N8.out.grow HT.out.grow
    ·rw [List.mem_singleton.1 hj,HK.out];exact HT.out.Xd) (Dq.out.self.mono (by omega) (by omega)) (by simp)).mono ?_;rintro en w5 ⟨u,R5,Wi,Qe,Ik⟩;obtain rfl:=Qe.en;replace HS:=Qa (HS.out.then_ Qe.run);have Yl:=Qa Wi;have HT2:=Qa Qe.tell;have Ia:=Qa (Ik _ _ Dq.out);have Wjm:=Qa (Ik _ _ Pv.out);obtain ⟨k3,hk⟩:=Qb (Qt u);rw [<-hk];have Yj:=Qa hk;clear Wi Qe Ik hk;go_wp2_with fail;go_roundw
   case rel=>
    refine ⟨toO u,R5,k3,rfl,HS.out,Ia.out.mono (by have:=X3.out;have:=Yi.out;omega) (by omega),(Jm.out.trans HT.out.grow).trans HT2.out.grow,by rw [Yj.out];exact HT2.out.Xd,by rw [Yj.out];exact Out.Qfs,λx hx=>Az.out x ?_⟩;refine Does.Qa0 HB.out Wu.out (by rw [<-(Wj.out s rfl).2.2.1,<-HK.out];exact Yl.out) ?_;rw [<-Yj.out];exact hx
   case measure=>
    show Y7 g L.length w5<Y7 g L.length _;rw [<-Eo.out,J2.out];have h1:=Yi.out;have h2:=HS.out.any;have h3:=Wjm.out;cases hv:toO u with
    |error f=>rw [hv]at h2;rw [Eu.Y7 h2];omega
    |ok s3=>rw [hv]at h2 h3;rw [Zu.Y7 h2];have:=(h3 s3 rfl).2;omega
  ·replace HS:=Qa (HS.out.below hb);have Rs:=Qa hb2;clear hb hb2;go_wp2_with fail;go_ret;refine ⟨E9 p o1,R1,Az.out _ (Does.Qie Rs.out),⟨⟨by rw [Qnp];exact HS.out.any,HS.out.fr,HS.out.z⟩,by rw [Q03 Vp.out];rfl,Cc.end_ N8.out Jm.out⟩⟩
theorem Wqy {o:Except Qq PS} {k:Int} (h:Qk8 [Cv,Bz,Di,Ky,Ah] o k):(k= -1/\ ∀s,o= .ok s->s.is Cv=false/\s.is Bz=false/\s.is Di=false/\s.is Ky=false/\s.is Ah=false)\/(k=0/\ ∃s,o= .ok s/\s.is Cv=true)\/(k=1/\ ∃s,o= .ok s/\s.is Bz=true)\/(k=2/\ ∃s,o= .ok s/\s.is Di=true)\/(k=3/\ ∃s,o= .ok s/\s.is Ky=true)\/(k=4/\ ∃s,o= .ok s/\s.is Ah=true):=by
 rcases h with ⟨h1,h2⟩ |⟨i,hi,h1,s,h3,h4,_⟩
 ·exact .inl ⟨h1,λs hs=>⟨h2 s hs 0 (by decide),h2 s hs 1 (by decide),h2 s hs 2 (by decide),h2 s hs 3 (by decide),h2 s hs 4 (by decide)⟩⟩
 ·right
  match i,hi,h1,h4 with
  | 0,_,h1,h4=>exact .inl ⟨h1,s,h3,h4⟩
  | 1,_,h1,h4=>exact .inr (.inl ⟨h1,s,h3,h4⟩)
  | 2,_,h1,h4=>exact .inr (.inr (.inl ⟨h1,s,h3,h4⟩))
  | 3,_,h1,h4=>exact .inr (.inr (.inr (.inl ⟨h1,s,h3,h4⟩)))
  | 4,_,h1,h4=>exact .inr (.inr (.inr (.inr ⟨h1,s,h3,h4⟩)))
theorem Wnu {t:Tk} (h:sees t Cv=true):sg t=3:=by unfold sg;rw [Zi h (show _≠lp by decide),Zi h (show _≠Bz by decide),h];rfl
theorem Q99 {t:Tk} (h:sees t Bz=true):sg t=2:=by unfold sg;rw [Zi h (show _≠lp by decide),h];rfl
theorem Wqx {t:Tk} (h:sees t Di=true):sg t=4:=by unfold sg;rw [Zi h (show _≠lp by decide),Zi h (show _≠Bz by decide),Zi h (show _≠Cv by decide),h];rfl
theorem Q9s {t:Tk} (h:sees t Ky=true):sg t=5:=by unfold sg;rw [Zi h (show _≠lp by decide),Zi h (show _≠Bz by decide),Zi h (show _≠Cv by decide),Zi h (show _≠Di by decide),h];rfl
theorem Wou {t:Tk} (h:sees t Ah=true):sg t=6:=by unfold sg;rw [Zi h (show _≠lp by decide),Zi h (show _≠Bz by decide),Zi h (show _≠Cv by decide),Zi h (show _≠Di by decide),Zi h (show _≠Ky by decide),h];rfl
theorem Q1t {t:Tk} {a:List UInt8} (h:t.kind≠3) (h':t.kind≠4):sees t a=false:=by unfold sees;rw [show (t.kind==3)=false by simpa using h,show (t.kind==4)=false by simpa using h'];rfl
theorem Weo {t:Tk} (h:t.kind=2):sg t=7:=by unfold sg;have h0: ∀a,sees t a=false:=λa=>Q1t (by omega) (by omega);rw [h0,h0,h0,h0,h0,h0,Qd (by decide),Qd (by decide),Qd (by decide),Qd (by decide),Qd (by decide),Qd (by decide),Qk h]
theorem Qxn {t:Tk} (h:t.kind=1):sg t=8:=by unfold sg;have h0: ∀a,sees t a=false:=λa=>Q1t (by omega) (by omega);rw [h0,h0,h0,h0,h0,h0,Qd (by decide),Qd (by decide),Qd (by decide),Qd (by decide),Qd (by decide),Qd (by decide),Qd (by omega),Qk h]
theorem Does.Qfb {s:PS} {j:Nat} {v u:Out} (hj:j=5\/j=6) (h:sg s.tok=j) (h1:Does (.ok s.next) (λs n=>Qg n (.inner lp rp) d s) v) (h2:Does (toO v) (λs1 _=>some (lay (En (Qbu j) [Qt v] 0 ⟨#[]⟩ s.tok.place) s1)) u):Does (.ok s) (λs n=>Qg n .single d s) u:=by
 refine Does.rd (F:=λs' n=>Out.go (Qg n (.inner lp rp) d s'.next) λq s1=>some (lay (En (Qbu j) [hd1 q] 0 ⟨#[]⟩ s.tok.place) s1)) (λs' hs n=> ?_) ?_
 ·injection hs with hs
  subst hs;rw [Eh,h];rcases hj with rfl |rfl<;>rfl
 ·exact Does.go (o:=.ok s.next) (F:=λs n=>Qg n (.inner lp rp) d s) (G:=λq s1 _=>some (lay (En (Qbu j) [q] 0 ⟨#[]⟩ s.tok.place) s1)) h1 h2
theorem Wnq {M:Nat} (hE: ∀m,m<M->Sq B g L m) (H:Qw B g L w R d o) (hd: ∀s,o= .ok s->d<=200) (hl:Qc o L.length M):Calls prog 160 #[.pointer (some ⟨g,0,none⟩)] w (Jp B g L w R d o (λs n=>Qg n .single d s)):=by
 have HQ:=Qa (QRun.start H);have HE:=Qa hE;have Wv:=Qa hd;have HL:=Qa hl;obtain ⟨tk,tn,ta,tx,Wp,hcall⟩:=Gu H;have Wj:=Qa Wp;have HC:=Qa hcall;clear H hE hd hl Wp hcall;go_enter func160,ntmps160;rw [Qz 2,Qz 6,Qz 8,Qz 9,Qz 11,Qz 12,Qz 13,Qz 14,Qz 16,Qz 19,Qz 20,Qz 22,Qz 24];go_wp2_with fail;refine HC.out.mono ?_;rintro en w1 ⟨rfl,hb⟩;have HS:=Qa ((HQ.out.below hb).tok (.int .i64 (tk:Int)) (.string tx) (.int .i64 (tn:Int)) (.int .i64 (ta:Int)));clear hb HC HQ;go_wp2_with fail;obtain ⟨W0,hW0⟩:=Qb (w1.alloc (.cells #[.int .i64 (tk:Int),.string tx,.int .i64 (tn:Int),.int .i64 (ta:Int)] 69));obtain ⟨G,hG⟩:=Qb w1.heap.size;rw [<-hW0,<-hG]at HS ⊢;clear hW0 hG;refine Qn ?_;cases o with
 |error f=>
  obtain ⟨e,c5,he⟩:=Gb HS.out.any;have hen:(e != 0)=true:=by simpa using he
  clear he;go_wp2_with fail;go_ret;exact ⟨.error f,_,rfl,⟨⟨HS.out.any,HS.out.fr,HS.out.z⟩,rfl,Cc.err⟩⟩
 |ok s=>
  have c5:=Hl HS.out.any;have Bu:Hid (d<=200):=Wv.out s rfl;obtain ⟨rfl,rfl,rfl,rfl⟩:=Wj.out s rfl;clear Wj;obtain ⟨tk,htk⟩:=Qb s.tok.kind;obtain ⟨tx,htx⟩:=Qb (⟨s.tok.text.toArray⟩:ByteArray);obtain ⟨tn,htn⟩:=Qb s.tok.n;obtain ⟨ta,Wp⟩:=Qb s.tok.place;rw [<-htk,<-htx,<-htn,<-Wp]at HS;have J6:=Qa htk;have Qo:=Qa htx;have HTN:=Qa htn;have Wj:=Qa Wp;have X3:=Qa (HL.out s rfl);go_wp2_with fail;rw [<-htk,<-htx,<-htn,<-Wp];clear htx htn Wp htk;refine (Pj lp HS.out.any).mono ?_;rintro en w2 ⟨c,rfl,hb,hc⟩;replace HS:=Qa (HS.out.below hb);clear hb c5;rcases hc with ⟨rfl,s',hs,hb⟩ |⟨rfl,hb⟩
  ·injection hs with hs
   subst hs;have HB:=Qa hb;clear hb;go_wp2_with fail;refine (Quh HE.out HS.out.any (λ_ _=>Bu.out) HL.out).mono ?_;rintro en w3 ⟨u,R3,hdo,Qe⟩;obtain rfl:=Qe.en;have Wu:=Qa hdo;have HG:=Qa Qe;clear hdo Qe;go_wp2_with fail;go_ret;refine ⟨u,R3,Does.rd (F:=λs n=>Qg n (.inner lp rp) d s) (λs' hs n=> ?_) Wu.out,HS.out.toQRun.got HG.out⟩;injection hs with hs
   subst hs;rw [Eh,show sg s.tok=1 from Qk HB.out];rfl
  ·have Rs:Hid (s.is lp=false):=hb s rfl;clear hb;go_wp2_with fail;refine Qn ?_;have z0:w2.cell? ⟨G,0,none⟩=some (.int .i64 (tk:Int)):=HS.out.tok.at_ rfl;by_cases h2:tk=2
   ·have h2i:((tk:Int)==2)=true:=(by simp [h2]);have Vs:Hid (s.tok.kind≠0):=(by show _≠_;rw [<-J6.out];omega);have Yq:Hid (s.tok.kind=2):=(by show _=_;rw [<-J6.out];exact h2);clear h2;obtain ⟨p,c1,f1,hp,hg,hf⟩:=Zu.take (s:=s) HS.out.any Vs.out;obtain ⟨W,hW⟩:=Qb (w2.setCell ⟨g,1,none⟩ (.int .i64 ((p:Int)+1)));rw [<-hW]at hg hf;replace HS:=Qa (HS.out.step (o':=.ok s.next) hg hf (λ_ h=>h));have Yk:Hid (Qc (.ok s.next) (L.length-1) (M-1)):=by
     have h1:=Cr Vs.out;have h2:=X3.out;have h3:s.next.l=s.l:=rfl;intro s' e;injection e with e
     subst e;rw [h3];exact ⟨by omega,by omega⟩
    have Ul:Hid (1<=M):=(by show 1<=M;have h1:=Cr Vs.out;have h2:=X3.out;omega);clear hg hf;go_wp2_with fail;rw [<-hW];clear hW c1 f1;refine Qn ?_;have z0:W.cell? ⟨G,0,none⟩=some (.int .i64 (tk:Int)):=HS.out.tok.at_ rfl;have z1:W.cell? ⟨G,1,none⟩=some (.string tx):=HS.out.tok.at_ rfl;have z2:W.cell? ⟨G,2,none⟩=some (.int .i64 (tn:Int)):=HS.out.tok.at_ rfl;have z3:W.cell? ⟨G,3,none⟩=some (.int .i64 (ta:Int)):=HS.out.tok.at_ rfl;go_wp2_with fail;refine (Qav 1 (tn:Int) ⟨#[]⟩ ta HS.out.any (Yk.out.self.mono (by omega) (by omega))).mono ?_;rintro en w9 ⟨u,R9,Wi,Qe,_⟩;obtain rfl:=Qe.en;have Yl:=Qa (Ev.Qbo Wi);have HG:=Qa Qe;clear Wi Qe;go_wp2_with fail;go_ret;refine ⟨u,R9,?_,⟨HS.out.toQRun.then_ HG.out.run,rfl,HG.out.tell.back Grow.next⟩⟩;rw [Yl.out,Wj.out,HTN.out];exact Does.Pw (Reads.Qss (Weo Yq.out))
   ·have h2i:((tk:Int)==2)=false:=(by simp;omega);have HN2:Hid (s.tok.kind≠2):=(by show _≠_;rw [<-J6.out];exact h2);clear h2;go_wp2_with fail;refine Qn ?_;by_cases h1:tk=1
    ·have h1i:((tk:Int)==1)=true:=(by simp [h1]);have Vs:Hid (s.tok.kind≠0):=(by show _≠_;rw [<-J6.out];omega);have Zh:Hid (s.tok.kind=1):=(by show _=_;rw [<-J6.out];exact h1);clear h1;obtain ⟨p,c1,f1,hp,hg,hf⟩:=Zu.take (s:=s) HS.out.any Vs.out;obtain ⟨W,hW⟩:=Qb (w2.setCell ⟨g,1,none⟩ (.int .i64 ((p:Int)+1)));rw [<-hW]at hg hf;replace HS:=Qa (HS.out.step (o':=.ok s.next) hg hf (λ_ h=>h));have Yk:Hid (Qc (.ok s.next) (L.length-1) (M-1)):=by
      have h1:=Cr Vs.out;have h2:=X3.out;have h3:s.next.l=s.l:=rfl;intro s' e;injection e with e
      subst e;rw [h3];exact ⟨by omega,by omega⟩
     have Ul:Hid (1<=M):=(by show 1<=M;have h1:=Cr Vs.out;have h2:=X3.out;omega);clear hg hf;go_wp2_with fail;rw [<-hW];clear hW c1 f1;refine Qn ?_;have z0:W.cell? ⟨G,0,none⟩=some (.int .i64 (tk:Int)):=HS.out.tok.at_ rfl;have z1:W.cell? ⟨G,1,none⟩=some (.string tx):=HS.out.tok.at_ rfl;have z2:W.cell? ⟨G,2,none⟩=some (.int .i64 (tn:Int)):=HS.out.tok.at_ rfl;have z3:W.cell? ⟨G,3,none⟩=some (.int .i64 (ta:Int)):=HS.out.tok.at_ rfl;go_wp2_with fail;refine (Pj lp HS.out.any).mono ?_;rintro en w4 ⟨c,rfl,hb,hc⟩;replace HS:=Qa (HS.out.below hb);clear hb z0 z1 z2 z3;have z1:w4.cell? ⟨G,1,none⟩=some (.string tx):=HS.out.tok.at_ rfl;have z3:w4.cell? ⟨G,3,none⟩=some (.int .i64 (ta:Int)):=HS.out.tok.at_ rfl;rcases hc with ⟨rfl,s',hs,hb⟩ |⟨rfl,hb⟩
     ·injection hs with hs
      subst hs;have HB:=Qa hb;clear hb;go_wp2_with fail;refine Qn ?_;go_wp2_with fail;refine (Q0t (M:=M-1) tx ta (λm hm=>HE.out m (by omega)) HS.out.any (λ_ _=>Bu.out) (by have:=Bu.out;omega) (Yk.out.mono (by omega) (Qh _)) (Yk.out.self.mono (by omega) (by omega))).mono ?_;rintro en w9 ⟨u,R9,Wi,Qe⟩;obtain rfl:=Qe.en;have Yl:=Qa Wi;have HG:=Qa Qe;clear Wi Qe;go_wp2_with fail;go_ret;refine ⟨u,R9,Does.rd (F:=λs' n=>Qg n (.call ⟨s.tok.text.toArray⟩ s.tok.place) d s'.next) (λs' hs n=> ?_) ?_,⟨HS.out.toQRun.then_ HG.out.run,rfl,HG.out.tell.back Grow.next⟩⟩
      ·injection hs with hs
       subst hs;rw [Eh,Qxn Zh.out];exact Qk HB.out
      ·have h1:=Yl.out;rw [Wj.out,Qo.out]at h1;exact h1
     ·have HB:Hid (s.next.is lp=false):=hb _ rfl;clear hb;go_wp2_with fail;refine Qn ?_;go_wp2_with fail;refine (Qav 4 0 tx ta HS.out.any (Yk.out.self.mono (by omega) (by omega))).mono ?_;rintro en w9 ⟨u,R9,Wi,Qe,_⟩;obtain rfl:=Qe.en;have Yl:=Qa (Ev.Qbo Wi);have HG:=Qa Qe;clear Wi Qe;go_wp2_with fail;go_ret;refine ⟨u,R9,?_,⟨HS.out.toQRun.then_ HG.out.run,rfl,HG.out.tell.back Grow.next⟩⟩;rw [Yl.out,Wj.out,Qo.out];exact Does.Pw (Reads.Qmz (Qxn Zh.out) HB.out)
    ·have h1i:((tk:Int)==1)=false:=(by simp;omega);have HN1:Hid (s.tok.kind≠1):=(by show _≠_;rw [<-J6.out];exact h1);clear h1;go_wp2_with fail;refine Qn ?_;go_wp2_with fail;obtain ⟨W1,hW1⟩:=Qb (w2.alloc (.cells #[.string ⟨#[102,97,108,115,101]⟩,.string ⟨#[116,114,117,101]⟩,.string ⟨#[110,105,108]⟩,.string ⟨#[108,101,110]⟩,.string ⟨#[110,101,119]⟩] 9));obtain ⟨b1,hb1⟩:=Qb w2.heap.size;have Mg:Hid (Held W1 b1 9 (strsOf [Cv,Bz,Di,Ky,Ah])):=(by rw [hW1,hb1];exact Held.new _ _ _);replace HS:=Qa (HS.out.below (show Below w2.heap.size w2 W1 by rw [hW1];exact Qag));rw [<-hW1,<-hb1];clear hW1 hb1 z0;refine (Qtd [Cv,Bz,Di,Ky,Ah] b1 5 rfl Mg.out (by decide) HS.out.any).mono ?_;rintro en w3 ⟨k,rfl,hb,hk⟩;replace HS:=Qa (HS.out.below hb);clear hb;have z3:w3.cell? ⟨G,3,none⟩=some (.int .i64 (ta:Int)):=HS.out.tok.at_ rfl;rcases Wqy hk with ⟨rfl,hno⟩ |⟨rfl,s',hs,hb⟩ |⟨rfl,s',hs,hb⟩ |⟨rfl,s',hs,hb⟩ |⟨rfl,s',hs,hb⟩ |⟨rfl,s',hs,hb⟩
     ·have V9:=Qa (hno s rfl);clear hno hk;go_wp2_with fail;refine Qn ?_;go_wp2_with fail;refine (Pz 8 ta (by decide) HS.out.any).mono ?_;rintro en w9 ⟨⟨x9,rfl⟩,ha,hf⟩;have HG:=Qa (HS.out.toQRun.step ha hf (λ_ h=>h));clear ha hf;go_wp2_with fail;go_ret;refine ⟨.error (8,ta),_,?_,⟨⟨HG.out.any,HG.out.fr,HG.out.z⟩,rfl,Cc.err⟩⟩;rw [Wj.out];refine Does.Pw (Reads.Q71 ?_);obtain ⟨h1,h2,h3,h4,h5⟩:=V9.out;have h0:=Rs.out;unfold PS.is at h0 h1 h2 h3 h4 h5;unfold sg;rw [h0,h1,h2,h3,h4,h5,Qd (by decide),Qd (by decide),Qd (by decide),Qd (by decide),Qd (by decide),Qd (by decide),Qd HN2.out,Qd HN1.out]
     ·injection hs with hs
      subst hs;have HB:=Qa hb;have Vs:Hid (s.tok.kind≠0):=Dc hb;clear hb hk z3;obtain ⟨p,c1,f1,hp,hg,hf⟩:=Zu.take (s:=s) HS.out.any Vs.out;obtain ⟨W,hW⟩:=Qb (w3.setCell ⟨g,1,none⟩ (.int .i64 ((p:Int)+1)));rw [<-hW]at hg hf;replace HS:=Qa (HS.out.step (o':=.ok s.next) hg hf (λ_ h=>h));have Yk:Hid (Qc (.ok s.next) (L.length-1) (M-1)):=by
       have h1:=Cr Vs.out;have h2:=X3.out;have h3:s.next.l=s.l:=rfl;intro s' e;injection e with e
       subst e;rw [h3];exact ⟨by omega,by omega⟩
      have Ul:Hid (1<=M):=(by show 1<=M;have h1:=Cr Vs.out;have h2:=X3.out;omega);clear hg hf;go_wp2_with fail;rw [<-hW];clear hW c1 f1;have z0:W.cell? ⟨G,0,none⟩=some (.int .i64 (tk:Int)):=HS.out.tok.at_ rfl;have z1:W.cell? ⟨G,1,none⟩=some (.string tx):=HS.out.tok.at_ rfl;have z2:W.cell? ⟨G,2,none⟩=some (.int .i64 (tn:Int)):=HS.out.tok.at_ rfl;have z3:W.cell? ⟨G,3,none⟩=some (.int .i64 (ta:Int)):=HS.out.tok.at_ rfl;refine Qn ?_;go_wp2_with fail;refine Qn ?_;go_wp2_with fail;refine (Qav 2 0 ⟨#[]⟩ ta HS.out.any (Yk.out.self.mono (by omega) (by omega))).mono ?_;rintro en w9 ⟨u,R9,Wi,Qe,_⟩;obtain rfl:=Qe.en;have Yl:=Qa (Ev.Qbo Wi);have HG:=Qa Qe;clear Wi Qe;go_wp2_with fail;go_ret;refine ⟨u,R9,?_,⟨HS.out.toQRun.then_ HG.out.run,rfl,HG.out.tell.back Grow.next⟩⟩;rw [Yl.out,Wj.out];exact Does.Pw (Reads.Qs1 (Wnu HB.out))
     ·injection hs with hs
      subst hs;have HB:=Qa hb;have Vs:Hid (s.tok.kind≠0):=Dc hb;clear hb hk z3;obtain ⟨p,c1,f1,hp,hg,hf⟩:=Zu.take (s:=s) HS.out.any Vs.out;obtain ⟨W,hW⟩:=Qb (w3.setCell ⟨g,1,none⟩ (.int .i64 ((p:Int)+1)));rw [<-hW]at hg hf;replace HS:=Qa (HS.out.step (o':=.ok s.next) hg hf (λ_ h=>h));have Yk:Hid (Qc (.ok s.next) (L.length-1) (M-1)):=by
       have h1:=Cr Vs.out;have h2:=X3.out;have h3:s.next.l=s.l:=rfl;intro s' e;injection e with e
       subst e;rw [h3];exact ⟨by omega,by omega⟩
      have Ul:Hid (1<=M):=(by show 1<=M;have h1:=Cr Vs.out;have h2:=X3.out;omega);clear hg hf;go_wp2_with fail;rw [<-hW];clear hW c1 f1;have z0:W.cell? ⟨G,0,none⟩=some (.int .i64 (tk:Int)):=HS.out.tok.at_ rfl;have z1:W.cell? ⟨G,1,none⟩=some (.string tx):=HS.out.tok.at_ rfl;have z2:W.cell? ⟨G,2,none⟩=some (.int .i64 (tn:Int)):=HS.out.tok.at_ rfl;have z3:W.cell? ⟨G,3,none⟩=some (.int .i64 (ta:Int)):=HS.out.tok.at_ rfl;refine Qn ?_;go_wp2_with fail;refine Qn ?_;go_wp2_with fail;refine (Qav 2 1 ⟨#[]⟩ ta HS.out.any (Yk.out.self.mono (by omega) (by omega))).mono ?_;rintro en w9 ⟨u,R9,Wi,Qe,_⟩;obtain rfl:=Qe.en;have Yl:=Qa (Ev.Qbo Wi);have HG:=Qa Qe;clear Wi Qe;go_wp2_with fail;go_ret;refine ⟨u,R9,?_,⟨HS.out.toQRun.then_ HG.out.run,rfl,HG.out.tell.back Grow.next⟩⟩;rw [Yl.out,Wj.out];exact Does.Pw (Reads.Qsj (Q99 HB.out))
     ·injection hs with hs
      subst hs;have HB:=Qa hb;have Vs:Hid (s.tok.kind≠0):=Dc hb;clear hb hk z3;obtain ⟨p,c1,f1,hp,hg,hf⟩:=Zu.take (s:=s) HS.out.any Vs.out;obtain ⟨W,hW⟩:=Qb (w3.setCell ⟨g,1,none⟩ (.int .i64 ((p:Int)+1)));rw [<-hW]at hg hf;replace HS:=Qa (HS.out.step (o':=.ok s.next) hg hf (λ_ h=>h));have Yk:Hid (Qc (.ok s.next) (L.length-1) (M-1)):=by
       have h1:=Cr Vs.out;have h2:=X3.out;have h3:s.next.l=s.l:=rfl;intro s' e;injection e with e
       subst e;rw [h3];exact ⟨by omega,by omega⟩
      have Ul:Hid (1<=M):=(by show 1<=M;have h1:=Cr Vs.out;have h2:=X3.out;omega);clear hg hf;go_wp2_with fail;rw [<-hW];clear hW c1 f1;have z0:W.cell? ⟨G,0,none⟩=some (.int .i64 (tk:Int)):=HS.out.tok.at_ rfl;have z1:W.cell? ⟨G,1,none⟩=some (.string tx):=HS.out.tok.at_ rfl;have z2:W.cell? ⟨G,2,none⟩=some (.int .i64 (tn:Int)):=HS.out.tok.at_ rfl;have z3:W.cell? ⟨G,3,none⟩=some (.int .i64 (ta:Int)):=HS.out.tok.at_ rfl;refine Qn ?_;go_wp2_with fail;refine Qn ?_;go_wp2_with fail;refine (Qav 3 0 ⟨#[]⟩ ta HS.out.any (Yk.out.self.mono (by omega) (by omega))).mono ?_;rintro en w9 ⟨u,R9,Wi,Qe,_⟩;obtain rfl:=Qe.en;have Yl:=Qa (Ev.Qbo Wi);have HG:=Qa Qe;clear Wi Qe;go_wp2_with fail;go_ret;refine ⟨u,R9,?_,⟨HS.out.toQRun.then_ HG.out.run,rfl,HG.out.tell.back Grow.next⟩⟩;rw [Yl.out,Wj.out];exact Does.Pw (Reads.Qrl (Wqx HB.out))
     ·injection hs with hs
      subst hs;have HB:=Qa hb;have Vs:Hid (s.tok.kind≠0):=Dc hb;clear hb hk z3;obtain ⟨p,c1,f1,hp,hg,hf⟩:=Zu.take (s:=s) HS.out.any Vs.out;obtain ⟨W,hW⟩:=Qb (w3.setCell ⟨g,1,none⟩ (.int .i64 ((p:Int)+1)));rw [<-hW]at hg hf;replace HS:=Qa (HS.out.step (o':=.ok s.next) hg hf (λ_ h=>h));have Yk:Hid (Qc (.ok s.next) (L.length-1) (M-1)):=by
       have h1:=Cr Vs.out;have h2:=X3.out;have h3:s.next.l=s.l:=rfl;intro s' e;injection e with e
       subst e;rw [h3];exact ⟨by omega,by omega⟩
      have Ul:Hid (1<=M):=(by show 1<=M;have h1:=Cr Vs.out;have h2:=X3.out;omega);clear hg hf;go_wp2_with fail;rw [<-hW];clear hW c1 f1;have z0:W.cell? ⟨G,0,none⟩=some (.int .i64 (tk:Int)):=HS.out.tok.at_ rfl;have z1:W.cell? ⟨G,1,none⟩=some (.string tx):=HS.out.tok.at_ rfl;have z2:W.cell? ⟨G,2,none⟩=some (.int .i64 (tn:Int)):=HS.out.tok.at_ rfl;have z3:W.cell? ⟨G,3,none⟩=some (.int .i64 (ta:Int)):=HS.out.tok.at_ rfl;refine Qn ?_;go_wp2_with fail;refine (Quh (M:=M-1) (λm hm=>HE.out m (by omega)) HS.out.any (λ_ _=>Bu.out) (Yk.out.mono (by omega) (Qh _))).mono ?_;rintro en w8 ⟨v,R8,hdo,Qe⟩;obtain rfl:=Qe.en;replace HS:=Qa (HS.out.then_ Qe.run);have Wu:=Qa hdo;have HT:=Qa Qe.tell;have Dq:=Qa (Does.Af hdo _ _ Yk.out);obtain ⟨k,hk⟩:=Qb (Qt v);rw [<-hk];have HK:=Qa hk;clear hdo Qe hk z0 z1 z2 z3;have z3:(w8.alloc (.cells #[.int .i64 k] 3)).cell? ⟨G,3,none⟩=some (.int .i64 (ta:Int)):=(HS.out.below Qag).tok.at_ rfl;go_wp2_with fail;refine Qn ?_;go_wp2_with fail;refine (Ie 9 [k] 0 ⟨#[]⟩ ta #[.int .i64 k] rfl 1 rfl HS.out.any (λj hj=>by rw [List.mem_singleton.1 hj,HK.out];exact HT.out.Xd) (Dq.out.self.mono (by omega) (by omega)) (by simp)).mono ?_;rintro en w9 ⟨u,R9,Wi,Qe,_⟩;obtain rfl:=Qe.en;have Yl:=Qa Wi;have HG:=Qa Qe;clear Wi Qe;go_wp2_with fail;go_ret;refine ⟨u,R9,Does.Qfb (j:=5) (by decide) (Q9s HB.out) Wu.out ?_,⟨HS.out.toQRun.then_ HG.out.run,rfl,HG.out.tell.back (Grow.next.trans HT.out.grow)⟩⟩;rw [<-Wj.out,<-HK.out];exact Yl.out
     ·injection hs with hs
      subst hs;have HB:=Qa hb;have Vs:Hid (s.tok.kind≠0):=Dc hb;clear hb hk z3;obtain ⟨p,c1,f1,hp,hg,hf⟩:=Zu.take (s:=s) HS.out.any Vs.out;obtain ⟨W,hW⟩:=Qb (w3.setCell ⟨g,1,none⟩ (.int .i64 ((p:Int)+1)));rw [<-hW]at hg hf;replace HS:=Qa (HS.out.step (o':=.ok s.next) hg hf (λ_ h=>h));have Yk:Hid (Qc (.ok s.next) (L.length-1) (M-1)):=by
       have h1:=Cr Vs.out;have h2:=X3.out;have h3:s.next.l=s.l:=rfl;intro s' e;injection e with e
       subst e;rw [h3];exact ⟨by omega,by omega⟩
      have Ul:Hid (1<=M):=(by show 1<=M;have h1:=Cr Vs.out;have h2:=X3.out;omega);clear hg hf;go_wp2_with fail;rw [<-hW];clear hW c1 f1;have z0:W.cell? ⟨G,0,none⟩=some (.int .i64 (tk:Int)):=HS.out.tok.at_ rfl;have z1:W.cell? ⟨G,1,none⟩=some (.string tx):=HS.out.tok.at_ rfl;have z2:W.cell? ⟨G,2,none⟩=some (.int .i64 (tn:Int)):=HS.out.tok.at_ rfl;have z3:W.cell? ⟨G,3,none⟩=some (.int .i64 (ta:Int)):=HS.out.tok.at_ rfl;refine Qn ?_;go_wp2_with fail;refine (Quh (M:=M-1) (λm hm=>HE.out m (by omega)) HS.out.any (λ_ _=>Bu.out) (Yk.out.mono (by omega) (Qh _))).mono ?_;rintro en w8 ⟨v,R8,hdo,Qe⟩;obtain rfl:=Qe.en;replace HS:=Qa (HS.out.then_ Qe.run);have Wu:=Qa hdo;have HT:=Qa Qe.tell;have Dq:=Qa (Does.Af hdo _ _ Yk.out);obtain ⟨k,hk⟩:=Qb (Qt v);rw [<-hk];have HK:=Qa hk;clear hdo Qe hk z0 z1 z2 z3;have z3:(w8.alloc (.cells #[.int .i64 k] 3)).cell? ⟨G,3,none⟩=some (.int .i64 (ta:Int)):=(HS.out.below Qag).tok.at_ rfl;go_wp2_with fail;refine Qn ?_;go_wp2_with fail;refine (Ie 10 [k] 0 ⟨#[]⟩ ta #[.int .i64 k] rfl 1 rfl HS.out.any (λj hj=>by rw [List.mem_singleton.1 hj,HK.out];exact HT.out.Xd) (Dq.out.self.mono (by omega) (by omega)) (by simp)).mono ?_;rintro en w9 ⟨u,R9,Wi,Qe,_⟩;obtain rfl:=Qe.en;have Yl:=Qa Wi;have HG:=Qa Qe;clear Wi Qe;go_wp2_with fail;go_ret;refine ⟨u,R9,Does.Qfb (j:=6) (by decide) (Wou HB.out) Wu.out ?_,⟨HS.out.toQRun.then_ HG.out.run,rfl,HG.out.tell.back (Grow.next.trans HT.out.grow)⟩⟩;rw [<-Wj.out,<-HK.out];exact Yl.out
end
section
open Go.RowKit
variable {B g:Nat}{L:List Tk}{w0 w w':World}{R0 R R':Bx}{d d':Nat}{o o' o1:Except Qq PS}
def Qo1 (B g:Nat) (L:List Tk) (lv M:Nat):Prop:= ∀(S:Int) w R d o,S=(lv:Int)+1->Qw B g L w R d o->(∀s,o= .ok s->d<=200)->Qc o L.length M->Calls prog 135 #[.pointer (some ⟨g,0,none⟩),.int .i64 S] w (Jp B g L w R d o (λs n=>Qg n (.chain lv) d s))
theorem Qw.Wlu {G:Nat} {t:TypeId} {cs:Array Value} (H:Qw B g L w R d o) (F:Fr g w w' R R') (h:Held w G t cs) (h1:t≠67) (h2:t≠37) (hz:R.Z G):Held w' G t cs:=by
 obtain ⟨p,l,hh,dd,e,q,H⟩:=H.core;refine h.block (F.block G h.lt ?_ (Yr H.own h (λe=>h2 e.symm)) (H.zone G hz).2.1);intro e;subst e;have h4:w.heap[G]? =_:=H.box;have h5:w.heap[G]? =_:=h;rw [h4]at h5;injection h5 with h6
 injection h6 with _ h7
 exact h1 h7.symm
structure Ol (B g:Nat) (L:List Tk) (w0:World) (R0:Bx) (d:Nat) (w:World) (R:Bx) (o:Except Qq PS) (lv b1 b2:Nat):Prop extends QRun B g L w0 R0 d w R o where
 sg:Held w b1 9 (strsOf (P6 lv))
 op:Held w b2 3 (opsOf lv)
 zb:R.Z b2
theorem Ol.step {lv b1 b2:Nat} (H:Ol B g L w0 R0 d w R o lv b1 b2) (hA:Qw B g L w' R' d' o') (F:Fr g w w' R R') (hz: ∀k,R.Z k->R'.Z k):Ol B g L w0 R0 d' w' R' o' lv b1 b2:=
 ⟨H.toQRun.step hA F hz,H.any.held F H.sg (by decide) (by decide) (H.any.Lj H.sg (by decide)),H.any.Wlu F H.op (by decide) (by decide) H.zb,hz _ H.zb⟩
theorem Ol.then_ {lv b1 b2:Nat} (H:Ol B g L w0 R0 d w R o lv b1 b2) (K':QRun B g L w R d' w' R' o'):Ol B g L w0 R0 d' w' R' o' lv b1 b2:=H.step K'.any K'.fr K'.z
theorem Ol.below {lv b1 b2:Nat} (H:Ol B g L w0 R0 d w R o lv b1 b2) (hb:Below w.heap.size w w'):Ol B g L w0 R0 d w' R o lv b1 b2:=H.step (H.any.below hb) (Fr.of_below R hb) (λ_ h=>h)
theorem Qw.Y4 {lv b1 b2:Nat} (H:Qw B g L w R d o) (hb:Below w.heap.size w w') (h1:Held w' b1 9 (strsOf (P6 lv))) (h2:Held w' b2 3 (opsOf lv)) (h3:w.heap.size<=b2):Ol B g L w R d w' {R with Z:=λk=>R.Z k\/k=b2} o lv b1 b2:=
 ⟨⟨H.widen hb _ (λk hk=>by
   rcases hk with hk |hk
   ·exact .inl hk
   ·exact .inr ⟨by omega,by have:=h2.lt;omega⟩),by
   have F:=Fr.of_below (g:=g) R hb;exact ⟨F.os,F.tape,F.output,F.size,F.block,F.vn,F.vh⟩,λk hk=>.inl hk⟩,h1,h2,.inr rfl⟩
def Qfw (B g:Nat) (L:List Tk) (M:Nat) (w0:World) (R0:Bx) (d:Nat) (o:Except Qq PS) (lv b1 b2:Nat) (t7 t8:Value) (wr:World):Prop:=
 ∃(o1:Except Qq PS) (R1:Bx) (p k:Int),t7= .int .i64 p/\t8= .int .i64 k/\Ol B g L w0 R0 d wr R1 o1 lv b1 b2/\Qc o1 L.length M/\Grow o o1/\Js o1 p/\(∀f,o1= .error f->p= -1)/\
  ((k= -1/\Does o (λs n=>Qg n (.chain lv) d s) (E9 p o1))\/
   (∃(i:Nat) (s:PS),k=(i:Int)/\i<Ag lv+1-Zx lv/\o1= .ok s/\opAt lv s.tok=some (Zx lv+i)/\s.is (Xu.getD (Zx lv+i) [])=true/\ ∀u,Does o1 (λs n=>Qg n (.loop lv p) d s) u->Does o (λs n=>Qg n (.chain lv) d s) u))
def O6 (g n:Nat) (t8:Value) (w:World):Nat:=if intOf t8= -1 then 0 else Y7 g n w
theorem Qfw.of {lv b1 b2 M:Nat} {p k:Int} (HS:Ol B g L w0 R0 d w R o1 lv b1 b2) (hl:Qc o1 L.length M) (hg:Grow o o1) (hk:Js o1 p) (he: ∀f,o1= .error f->p= -1) (h1:Qk8 (P6 lv) o1 k) (hc: ∀u,Does o1 (λs n=>Qg n (.loop lv p) d s) u->Does o (λs n=>Qg n (.chain lv) d s) u):Qfw B g L M w0 R0 d o lv b1 b2 (.int .i64 p) (.int .i64 k) w:=by
 rcases h1.op with ⟨h1,h2⟩ |⟨i,hi,h1,s,h3,h4,h5⟩
 ·exact ⟨o1,R,p,k,rfl,rfl,HS,hl,hg,hk,he,.inl ⟨h1,hc _ (Does.Qa7 h2)⟩⟩
 ·exact ⟨o1,R,p,k,rfl,rfl,HS,hl,hg,hk,he,.inr ⟨i,s,h1,hi,h3,h4,h5,hc⟩⟩
theorem Q9v {lv:Nat} (h:lv<5):Ag lv+1-Zx lv<=6/\1<=Ag lv+1-Zx lv/\Ag lv<=16:=by
 match lv,h with
 | 0,_ | 1,_ | 2,_ | 3,_ | 4,_=>decide
theorem Wbd {M:Nat} (hU:Qga B g L M):Qo1 B g L 5 M:=by
 intro S w R d o hS H hd hl;obtain rfl:S=6:=by omega
 have HC:=Qa (hU w R d o H hd hl);clear hU H hS;go_enter func135,ntmps135;go_wp2_with fail;refine HC.out.mono ?_;rintro en w2 ⟨u,R2,hdo,Qe⟩;obtain rfl:=Qe.en;have Wu:=Qa hdo;have HG:=Qa Qe;clear hdo Qe;go_wp2_with fail;go_ret;exact ⟨u,R2,Wu.out.Qlb,HG.out⟩
theorem Qhj {lv M:Nat} (hlv:lv<5) (hC:Qo1 B g L (lv+1) M):Qo1 B g L lv M:=by
 intro S w R d o hS H hd hl;have HIH:Hid (∀w R d o,Qw B g L w R d o->(∀s,o= .ok s->d<=200)->Qc o L.length M->Calls prog 135 #[.pointer (some ⟨g,0,none⟩),.int .i64 (S+1)] w (Jp B g L w R d o (λs n=>Qg n (.chain (lv+1)) d s))):=λw R d o h1 h2 h3=>hC (S+1) w R d o (by omega) h1 h2 h3;have Wv:=Qa hd;have HL:=Qa hl;have HA:=Qa H;obtain ⟨nn,hnn⟩:=Qb (Ag lv+1-Zx lv);have Iq:=Qa (Wb3 (w:=w) hlv hnn S hS);have Qja:=Q9v hlv;rw [<-hnn]at Qja;have HNN:=Qa hnn;have Dq:=Qa hlv;have C8:=Qa hS;have hS1: ¬(5<S):=by omega
 have hS2:S<=5:=by omega
 have hS3:1<=S:=by omega
 have Dn:Hid (lv≠5):=by show lv≠5;omega
 have Tj:=Qa Qja;have Xp:=Xm;clear H hd hl hC hnn hlv hS;go_enter func135,ntmps135;rw [Qz 10,Qz 12];go_wp2_with fail;refine Iq.out.mono ?_;rintro en w1 ⟨b1,b2,rfl,hs1,hs2,hs3,hs4,hb⟩;have HS:=Qa (HA.out.Y4 hb hs1 hs2 hs4);clear Iq hs1 hs2 hs3 hs4 hb;go_wp2_with fail;refine (HIH.out _ _ _ _ HS.out.any Wv.out HL.out).mono ?_;rintro en w2 ⟨v,R2,hdo,Qe⟩;obtain rfl:=Qe.en;replace HS:=Qa (HS.out.then_ Qe.run);have Wu:=Qa hdo;have HT:=Qa Qe.tell;obtain ⟨p0,hp0⟩:=Qb (Qt v);rw [<-hp0];have HP0:=Qa hp0;clear hdo Qe hp0;go_wp2_with fail;refine (Qtd (P6 lv) b1 nn (by rw [Qg0];exact HNN.out) HS.out.sg (by rw [Qg0,<-HNN.out];have:=Tj.out;omega) HS.out.any).mono ?_;rintro en w3 ⟨k0,rfl,hb,hk⟩;replace HS:=Qa (HS.out.below hb);have HQ:Hid (Qfw B g L M w R d o lv b1 b2 (.int .i64 p0) (.int .i64 k0) w3):=by rw [HP0.out];exact Qfw.of HS.out (Does.Af Wu.out _ _ HL.out) HT.out.grow HT.out.Xd Out.Qfs hk (λu hu=>Does.chain Dn.out Wu.out hu)
 clear hb hk Wu HT HP0 HS;go_wp2_with fail;go_loopw [7,8] (λt7 t8 wr=>Hid (Qfw B g L M w R d o lv b1 b2 t7 t8 wr)) (λ_ t8 wr=>O6 g L.length t8 wr)
 case atStart=>exact HQ
 case round=>
  obtain ⟨o1,R1,p,k,rfl,rfl,hsg,hlim,hgr,hki,her,hst⟩:=hrel.out;have HS:=Qa hsg;have K5:=Qa hlim;have Jm:=Qa hgr;have N8:=Qa hki;have Vp:=Qa her;clear hrel hsg hlim hgr hki her HQ;obtain ⟨wo,hwo⟩:=Qb wr;have Eo:=Qa hwo;clear hwo;rcases hst with ⟨rfl,hdz⟩ |⟨i,s,rfl,hi,rfl,hop,his,hct⟩
  ·have F8:=Qa hdz;clear hdz;go_wp2_with fail;go_ret;exact ⟨E9 p o1,R1,F8.out,⟨⟨by rw [Qnp];exact HS.out.any,HS.out.fr,HS.out.z⟩,by rw [Q03 Vp.out];rfl,Cc.end_ N8.out Jm.out⟩⟩
  ·have HI:=Qa hi;have hin:i<nn:=(by rw [HNN.out];exact hi);have hin2:(i:Int)<(nn:Int):=(by omega);have hi0:(0:Int)<=(i:Int):=(by omega);have HIN:=Qa hin;have Rh:=Qa hop;have HIS:=Qa his;have Az:=Qa hct;have Yi:=Qa (Ve his);have X3:=Qa (K5.out s rfl);have Bu:Hid (d<=200):=(by obtain ⟨s0,h1,_⟩:=Jm.out s rfl;exact Wv.out s0 h1);have J2:Hid (Y7 g L.length wo=s.r.length):=(by rw [Eo.out];exact Zu.Y7 HS.out.any);have Vs:Hid (s.tok.kind≠0):=Dc his;clear hi hop his hct hin;obtain ⟨tk,tn,ta,tx,Wp,hcall⟩:=Gu HS.out.any;have Wj:=Qa Wp;have HC:=Qa hcall;clear Wp hcall;go_wp2_with fail;refine HC.out.mono ?_;rintro en w4 ⟨rfl,hb⟩;replace HS:=Qa (HS.out.below hb);clear hb HC;obtain ⟨pp,c1,f1,hp,hg,hf⟩:=Zu.take (s:=s) HS.out.any Vs.out;obtain ⟨W,hW⟩:=Qb (w4.setCell ⟨g,1,none⟩ (.int .i64 ((pp:Int)+1)));rw [<-hW]at hg hf;replace HS:=Qa (HS.out.step (o':=.ok s.next) hg hf (λ_ h=>h));have Yk:Hid (Qc (.ok s.next) (L.length-1) (M-1)):=by
    have h1:=Yi.out;have h2:=X3.out;have h3:s.next.l=s.l:=rfl;intro s' e;injection e with e
    subst e;rw [h3];exact ⟨by omega,by omega⟩
   clear hg hf;go_wp2_with fail;rw [<-hW];clear hW c1 f1;refine (HIH.out _ _ _ _ HS.out.any (λ_ _=>Bu.out) (Yk.out.mono (by omega) (by omega))).mono ?_;rintro en w5 ⟨v2,R5,hdo,Qe⟩;obtain rfl:=Qe.en;replace HS:=Qa (HS.out.then_ Qe.run);have Wu:=Qa hdo;have HT:=Qa Qe.tell;have Qy8:=Qa (Does.Af hdo _ _ Yk.out);have Wrg:=Qa (Does.Af hdo _ _ (show Qc (.ok s.next) (s.next.l.length+s.next.r.length) s.next.r.length from λs' e=>by injection e with e;subst e;exact ⟨Qh _,Qh _⟩));obtain ⟨k2,hk⟩:=Qb (Qt v2);rw [<-hk];have HK:=Qa hk;clear hdo Qe hk;have c0:=Wmb HS.out.op HI.out;obtain ⟨opn,Qls⟩:=Qb (Zx lv+i);rw [<-Qls]at c0;have Wdq:=Qa Qls;clear Qls;go_wp2_with fail;refine Qn ?_;go_wp2_with fail;refine (Ie 5 [p,k2] (opn:Int) ⟨#[]⟩ ta #[.int .i64 p,.int .i64 k2] rfl 2 rfl HS.out.any (λj hj=>by
    rcases List.mem_cons.1 hj with rfl |hj
    ·exact N8.out.grow (Grow.next.trans HT.out.grow)
    ·rw [List.mem_singleton.1 hj,HK.out];exact HT.out.Xd) (Qy8.out.self.mono (by omega) (by omega)) (by simp)).mono ?_;rintro en w6 ⟨u,R6,Wi,Qe,Ik⟩;obtain rfl:=Qe.en;replace HS:=Qa (HS.out.then_ Qe.run);have Yl:=Qa Wi;have HT2:=Qa Qe.tell;have Ia:=Qa (Ik _ _ Qy8.out);have Wm5:=Qa (Ik _ _ Wrg.out);obtain ⟨k3,hk⟩:=Qb (Qt u);rw [<-hk];have Yj:=Qa hk;clear Wi Qe Ik hk c0;go_wp2_with fail;refine (Qtd (P6 lv) b1 nn (by rw [Qg0];exact HNN.out) HS.out.sg (by rw [Qg0,<-HNN.out];have:=Tj.out;omega) HS.out.any).mono ?_;rintro en w7 ⟨k7,rfl,hb,D7⟩;replace HS:=Qa (HS.out.below hb);have HK7:=Qa D7;clear hb D7;have HGZ:Hid (Grow o (toO u)):=((Jm.out.trans Grow.next).trans HT.out.grow).trans HT2.out.grow;have HLZ:Hid (Qc (toO u) L.length M):=Ia.out.mono (by have:=X3.out;have:=Yi.out;omega) (by omega);have HMS:Hid (Y7 g L.length w7<s.r.length):=by
    have h1:=Yi.out;have h2:=HS.out.any;have h3:=Wm5.out;show _<_;cases hv:toO u with
    |error f=>rw [hv]at h2;rw [Eu.Y7 h2];omega
    |ok s3=>rw [hv]at h2 h3;rw [Zu.Y7 h2];have:=(h3 s3 rfl).2;omega
   have Tt:Hid (Does (toO v2) (λs1 _=>some (lay (En 5 [p,Qt v2] (Zx lv+i:Nat) ⟨#[]⟩ s.tok.place) s1)) u):=by rw [<-(Wj.out s rfl).2.2.1,<-HK.out,<-Wdq.out];exact Yl.out
   have HM0:Hid (1<=O6 g L.length (.int .i64 (i:Int)) wo):=by show 1<=O6 _ _ _ _;unfold O6;rw [Qd (by show¬(i:Int)= -1;omega),J2.out];have:=Yi.out;omega
   have Ul:Hid (O6 g L.length (.int .i64 (i:Int)) wo=s.r.length):=by show O6 _ _ _ _=_;unfold O6;rw [Qd (by show¬(i:Int)= -1;omega),J2.out]
   go_wp2_with fail;refine Qn ?_;by_cases h3:S=3
   ·have h3b:(S==3)=true:=(by simp [h3]);have Gj:Hid (lv=2):=(by show _=_;have:=C8.out;omega);clear h3;go_wp2_with fail;go_roundw
    case rel=>
     refine ⟨toO u,R6,k3,-1,rfl,rfl,HS.out,HLZ.out,HGZ.out,by rw [Yj.out];exact HT2.out.Xd,by rw [Yj.out];exact Out.Qfs,.inl ⟨rfl,Az.out _ ?_⟩⟩;rw [Yj.out];exact Does.Qno Rh.out Gj.out Wu.out Tt.out
    case measure=>
     show O6 g L.length (.int .i64 (-1)) w7<O6 g L.length (.int .i64 (i:Int)) _;rw [<-Eo.out];have:=HM0.out;show (if (-1:Int)= -1 then _ else _)<_;rw [Qk rfl];omega
   ·have h3b:(S==3)=false:=(by simp [h3]);have Gj:Hid (lv≠2):=(by show _≠_;have:=C8.out;omega);clear h3;go_wp2_with fail;go_roundw
    case rel=>
     refine Qfw.of HS.out HLZ.out HGZ.out (by rw [Yj.out];exact HT2.out.Xd) (by rw [Yj.out];exact Out.Qfs) HK7.out (λx hx=>Az.out x ?_);refine Does.Qly Rh.out Gj.out Wu.out Tt.out ?_;rw [<-Yj.out];exact hx
    case measure=>
     show O6 g L.length (.int .i64 k7) w7<O6 g L.length (.int .i64 (i:Int)) _;rw [<-Eo.out,Ul.out];have h1:=HMS.out;have h2:=Yi.out;unfold O6;split
     ·omega
     ·exact h1
theorem Wiu {M:Nat} (h:Qo1 B g L 0 M):Sq B g L M:=by
 intro w R d o H hd hl;have HC:=Qa (h 1 w R d o rfl H hd hl);clear h H;go_enter func111,ntmps111;go_wp2_with fail;refine HC.out.mono ?_;rintro en w2 ⟨u,R2,hdo,Qe⟩;obtain rfl:=Qe.en;have Wu:=Qa hdo;have HG:=Qa Qe;clear hdo Qe HC;have HE:=Qa (Wu.out.Qwm (λ_ e=>by cases e));obtain ⟨o1,ho1⟩:=Qb (toO u);have Xq:=Qa ho1;obtain ⟨k,hk⟩:=Qb (Qt u);have HK:=Qa hk;rw [<-hk];have HA:Hid (Qw B g L w2 R2 d o1):=by rw [ho1];exact HG.out.run.any
 clear ho1 hk;cases o1 with
 |error f=>
  obtain ⟨e,c5,he⟩:=Gb HA.out;have hen:(e != 0)=true:=by simpa using he
  clear he;go_wp2_with fail;go_ret;refine ⟨u,R2,Wu.out,⟨HG.out.run,?_,HG.out.tell⟩⟩;rw [Out.Qfs f Xq.out.symm];rfl
 |ok s=>
  have c5:=Hl HA.out;go_wp2_with fail;go_ret;exact ⟨u,R2,Wu.out,⟨HG.out.run,by rw [HK.out];rfl,HG.out.tell⟩⟩
theorem Wh4 {M:Nat} (h:Qga B g L M):Sq B g L M:=
 Wiu (Qhj (by decide) (Qhj (by decide) (Qhj (by decide) (Qhj (by decide) (Qhj (by decide) (Wbd h))))))
theorem Qu5 (B g:Nat) (L:List Tk) (M:Nat):Qga B g L M/\Sq B g L M:=by
 induction M using Nat.strongRecOn with
 |ind M ih=>
  have hE: ∀m,m<M->Sq B g L m:=λm hm=>(ih m hm).2;have h1:Qga B g L M:=Whc (λm hm=>(ih m hm).1) (λw R d o H hd hl=>Wdv hE (Wnq hE H hd hl) hd hl);exact ⟨h1,Wh4 h1⟩
end
section
open Go.RowKit
variable {B g:Nat}{L:List Tk}{w0 w w':World}{R0 R R':Bx}{d d':Nat}{o o' o1:Except Qq PS}
theorem Qgj (H:Qw B g L w R d o):
  Calls prog 34 #[.pointer (some ⟨g,0,none⟩)] w λen w'=> ∃ta:Nat,en= .returned (.tuple #[.string (Cj o),.int .i64 (ta:Int)])/\(∀s,o= .ok s->ta=s.tok.place)/\Qw B g L w' R d (Vg o)/\Fr g w w' R R:=by
 have HQ:=Qa (QRun.start H);obtain ⟨tk,tn,ta,tx,Wp,hcall⟩:=Gu H;have Wj:=Qa Wp;have HC:=Qa hcall;clear H Wp hcall;go_enter func34,ntmps34;rw [Qz 2,Qz 3];go_wp2_with fail;refine HC.out.mono ?_;rintro en w1 ⟨rfl,hb⟩;have HS:=Qa ((HQ.out.below hb).tok (.int .i64 (tk:Int)) (.string tx) (.int .i64 (tn:Int)) (.int .i64 (ta:Int)));clear hb HC HQ;go_wp2_with fail;obtain ⟨W0,hW0⟩:=Qb (w1.alloc (.cells #[.int .i64 (tk:Int),.string tx,.int .i64 (tn:Int),.int .i64 (ta:Int)] 69));obtain ⟨G,hG⟩:=Qb w1.heap.size;rw [<-hW0,<-hG]at HS ⊢;clear hW0 hG;refine Qn ?_;have z0:W0.cell? ⟨G,0,none⟩=some (.int .i64 (tk:Int)):=HS.out.tok.at_ rfl;have z3:W0.cell? ⟨G,3,none⟩=some (.int .i64 (ta:Int)):=HS.out.tok.at_ rfl;cases o with
 |error f=>
  obtain ⟨e,c5,he⟩:=Gb HS.out.any;have hen:(e != 0)=true:=by simpa using he
  clear he;go_wp2_with fail;refine Qn ?_;go_wp2_with fail;refine (Pz 8 ta (by decide) HS.out.any).mono ?_;rintro en w2 ⟨⟨x2,rfl⟩,ha,hf⟩;replace HS:=Qa (HS.out.step ha hf (λ_ h=>h));clear ha hf c5 z0 z3;have z3:w2.cell? ⟨G,3,none⟩=some (.int .i64 (ta:Int)):=HS.out.tok.at_ rfl;go_wp2_with fail;go_quiet (fail);go_wp2_with fail;go_ret2;exact ⟨ta,rfl,λs hs=>(by cases hs),(HS.out.below (Wq _ _ _)).any,(HS.out.below (Wq _ _ _)).fr⟩
 |ok s=>
  have c5:=Hl HS.out.any;obtain ⟨hk,_,hp,hx⟩:=Wj.out s rfl;have HTP:=Qa hp;have Qo:=Qa hx;have J6:=Qa hk;clear hk hp hx Wj;by_cases h1:tk=1
  ·have h1i:((tk:Int) != 1)=false:=(by simp [h1]);have Zh:Hid (s.tok.kind=1):=(by show _=_;rw [<-J6.out];exact h1);clear h1;obtain ⟨pp,c1,f1,hp,hg,hf⟩:=Zu.take (s:=s) HS.out.any (by have:=Zh.out;omega);obtain ⟨W,hW⟩:=Qb (W0.setCell ⟨g,1,none⟩ (.int .i64 ((pp:Int)+1)));rw [<-hW]at hg hf;replace HS:=Qa (HS.out.step (o':=.ok s.next) hg hf (λ_ h=>h));clear hg hf;go_wp2_with fail;rw [<-hW];clear hW c1 f1 c5 z0 z3;have z1:W.cell? ⟨G,1,none⟩=some (.string tx):=HS.out.tok.at_ rfl;have z3:W.cell? ⟨G,3,none⟩=some (.int .i64 (ta:Int)):=HS.out.tok.at_ rfl;go_wp2_with fail;go_quiet (fail);go_wp2_with fail;go_ret2;refine ⟨ta,by rw [Qvv Zh.out,<-Qo.out];rfl,λs' hs=>by injection hs with hs;subst hs;exact HTP.out,?_,(HS.out.below (Wq _ _ _)).fr⟩;rw [Qkd Zh.out];exact (HS.out.below (Wq _ _ _)).any
  ·have h1i:((tk:Int) != 1)=true:=(by simp;omega);have Zh:Hid (s.tok.kind≠1):=(by show _≠_;rw [<-J6.out];exact h1);clear h1;go_wp2_with fail;refine Qn ?_;go_wp2_with fail;refine (Pz 8 ta (by decide) HS.out.any).mono ?_;rintro en w2 ⟨⟨x2,rfl⟩,ha,hf⟩;replace HS:=Qa (HS.out.step ha hf (λ_ h=>h));clear ha hf c5 z0 z3;have z3:w2.cell? ⟨G,3,none⟩=some (.int .i64 (ta:Int)):=HS.out.tok.at_ rfl;go_wp2_with fail;go_quiet (fail);go_wp2_with fail;go_ret2;refine ⟨ta,by rw [Qyc Zh.out];rfl,λs' hs=>by injection hs with hs;subst hs;exact HTP.out,?_,(HS.out.below (Wq _ _ _)).fr⟩;rw [Qcr Zh.out,<-HTP.out];exact (HS.out.below (Wq _ _ _)).any
theorem Wqv {s:PS} (h:s.is Qb7=true):Yt s.tok=1:=Qfd (i:=1) (by decide) (by decide) h
theorem Wqf {s:PS} (h:s.is Qdz=true):Yt s.tok=2:=Qfd (i:=2) (by decide) (by decide) h
theorem Wep {s:PS} (h:s.is Qfe=true):Yt s.tok=3:=Qfd (i:=3) (by decide) (by decide) h
theorem Qlz (H:Qw B g L w R d o):
  Calls prog 36 #[.pointer (some ⟨g,0,none⟩)] w λen w'=>en= .returned (.int .i64 ((Lv o:Nat):Int))/\Qw B g L w' R d (F3 o)/\Fr g w w' R R:=by
 have HS:=Qa (QRun.start H);have Xp:=Xm;clear H;go_enter func36,ntmps36;go_wp2_with fail;refine (Ub Qb7 HS.out.any).mono ?_;rintro en w1 ⟨c,o',rfl,ha,hf,hc⟩;rcases hc with ⟨rfl,s,rfl,hb,rfl⟩ |⟨rfl,ho,h1⟩
 ·replace HS:=Qa (HS.out.step ha hf (λ_ h=>h));have HK:=Qa (Wqv hb);clear ha hf hb;go_wp2_with fail;go_ret;exact ⟨by show _=Ending.returned (.int .i64 ((Yt s.tok:Nat):Int));rw [HK.out];rfl,by rw [U4 (by rw [HK.out];decide)];exact HS.out.any,HS.out.fr⟩
 rw [ho]at ha;replace HS:=Qa (HS.out.step ha hf (λ_ h=>h));have H1:=Qa h1;clear ha hf h1 ho;go_wp2_with fail;refine (Ub Qdz HS.out.any).mono ?_;rintro en w2 ⟨c,o',rfl,ha,hf,hc⟩;rcases hc with ⟨rfl,s,rfl,hb,rfl⟩ |⟨rfl,ho,h2⟩
 ·replace HS:=Qa (HS.out.step ha hf (λ_ h=>h));have HK:=Qa (Wqf hb);clear ha hf hb;go_wp2_with fail;go_ret;exact ⟨by show _=Ending.returned (.int .i64 ((Yt s.tok:Nat):Int));rw [HK.out];rfl,by rw [U4 (by rw [HK.out];decide)];exact HS.out.any,HS.out.fr⟩
 rw [ho]at ha;replace HS:=Qa (HS.out.step ha hf (λ_ h=>h));have H2:=Qa h2;clear ha hf h2 ho;go_wp2_with fail;refine (Ub Qfe HS.out.any).mono ?_;rintro en w3 ⟨c,o',rfl,ha,hf,hc⟩;rcases hc with ⟨rfl,s,rfl,hb,rfl⟩ |⟨rfl,ho,h3⟩
 ·replace HS:=Qa (HS.out.step ha hf (λ_ h=>h));have HK:=Qa (Wep hb);clear ha hf hb;go_wp2_with fail;go_ret;exact ⟨by show _=Ending.returned (.int .i64 ((Yt s.tok:Nat):Int));rw [HK.out];rfl,by rw [U4 (by rw [HK.out];decide)];exact HS.out.any,HS.out.fr⟩
 rw [ho]at ha;replace HS:=Qa (HS.out.step ha hf (λ_ h=>h));have H3:=Qa h3;clear ha hf h3 ho;obtain ⟨tk,tn,ta,tx,Wp,hcall⟩:=Gu HS.out.any;have Wj:=Qa Wp;have HC:=Qa hcall;clear Wp hcall;go_wp2_with fail;refine HC.out.mono ?_;rintro en w4 ⟨rfl,hb⟩;replace HS:=Qa (HS.out.below hb);clear hb HC;go_wp2_with fail;refine (Pz 8 ta (by decide) HS.out.any).mono ?_;rintro en w5 ⟨⟨x5,rfl⟩,ha,hf⟩;replace HS:=Qa (HS.out.step ha hf (λ_ h=>h));clear ha hf;go_wp2_with fail;go_ret;cases o with
 |error f=>exact ⟨rfl,HS.out.any,HS.out.fr⟩
 |ok s=>
  have h0:Yt s.tok=0:=Q2z (λj h1 h4=>by
   match j,h1,h4 with
   | 1,_,_=>exact H1.out s rfl
   | 2,_,_=>exact H2.out s rfl
   | 3,_,_=>exact H3.out s rfl);refine ⟨by show _=Ending.returned (.int .i64 ((Yt s.tok:Nat):Int));rw [h0];rfl,?_,HS.out.fr⟩;rw [Qd5 h0,<-(Wj.out s rfl).2.2.1];exact HS.out.any
end
end Go.Proofs.YtdncpkkhkbijfaaGreatDoor
