import Derived.Test.YtdncpkkhkbijfaaGreatDoorBa16
open Go.Proofs.Tryz
set_option linter.all false
set_option maxHeartbeats 0
set_option maxRecDepth 100000
namespace Go.Proofs.YtdncpkkhkbijfaaGreatDoor
section
open Go.RowKit
variable {B g:Nat}{L:List Tk}
theorem Reads.Wf0 {a b:List UInt8} {d:Nat} {s s':PS} {l:List Int} (h:Reads (.inner a b) d s (.ok (l,s'))):s'.l.length+s'.r.length+1<=s.l.length+s.r.length/\s'.r.length+1<=s.r.length:=by
 obtain ⟨n,hn⟩:=h;cases n with
 |zero=>cases hn
 |succ n=>
  rw [Qg]at hn;split at hn
  ·rename_i g1;have hs:=Ii g1;split at hn
   ·cases hn
   ·rcases go_ok hn with ⟨e,_,he⟩ |⟨p2,s3,h3,h4⟩
    ·cases he
    ·have a:=Lg n _ _ _ _ h3 _ _ rfl;have e1:s.next.l=s.l:=rfl;rw [e1]at a;split at h4
     ·rename_i g2;have hs2:=Ii g2;injection h4 with h4
      injection h4 with h4
      injection h4 with _ h5
      subst h5;have e3:s3.next.l=s3.l:=rfl;rw [e3];exact ⟨by omega,by omega⟩
     ·cases h4
  ·cases hn
theorem Bad.held {w w':World} {R R':Bx} {d:Nat} {f:Qq} {G:Nat} {t:TypeId} {cs:Array Value} (H:Bad B g L w R d f) (F:Fr g w w' R R') (h:Held w G t cs) (h1:t≠98) (h2:t≠37) (h3:t≠3):Held w' G t cs:=by
 obtain ⟨p,l,h0,H,_⟩:=H;refine h.block (F.block G h.lt ?_ (Yr H.own h (λe=>h2 e.symm)) (Yr H.hts h (λe=>h3 e.symm)));intro e;subst e;have h4:w.heap[G]? =_:=H.box;have h5:w.heap[G]? =_:=h;rw [h4]at h5;injection h5 with h6
 injection h6 with _ h7
 exact h1 h7.symm
def Q18 (B g:Nat) (L:List Tk) (w:World) (R:Bx) (d:Nat) (s:PS) (t3:Value) (wr:World):Prop:=
 ∃R1,Fr g w wr R R1/\R1.Z=R.Z/\(
  (∃p s1,t3= .int .i64 p/\Good B g L wr R1 d s1/\s1.r.length<=s.r.length/\s1.l.length+s1.r.length<=s.l.length+s.r.length/\ ∀v,Reads (.more p) d s1 v->Reads .idx d s v)\/
  (∃f,t3= .int .i64 (-1)/\Bad B g L wr R1 d f/\Reads .idx d s (.error f)))
theorem Wg3 {M:Nat} (hE:U3 B g L M) (w:World) (R:Bx) (d:Nat) (s:PS) (H:Good B g L w R d s) (hd:d<=200) (hM:s.r.length<=M+1):
  Calls prog 152 #[.pointer (some ⟨g,0,none⟩)] w (Post B g L .idx w R d s):=by
 have HE:=Qa hE;have HI:=Qa (Qrh hE);have K9:=Qa H.size;have HH:=Qa H;have HM:=Qa hM;have Xp:=Xm;clear H hE hM;go_enter func152,ntmps152;rw [Qz 5];go_wp2_with fail;refine (Whs HE.out w R d s HH.out hd HM.out).mono ?_;rintro en w1 ⟨v,hrd,R1,hf,hz,hv⟩;have HST:Hid (∃k,en= .returned (.int .i64 k)/\Q18 B g L w R d s (.int .i64 k) w1):=by
  rcases hv with ⟨k,s1,rfl,rfl,hg⟩ |⟨f,rfl,rfl,hg⟩
  ·have:=hrd.N7;exact ⟨k,rfl,R1,hf,hz,.inl ⟨k,s1,rfl,hg,by omega,by omega,λv h=>hrd.idx h⟩⟩
  ·exact ⟨-1,rfl,R1,hf,hz,.inr ⟨f,rfl,hg,hrd.Wpi⟩⟩
 obtain ⟨k,rfl,hst⟩:=HST.out;replace HST:=Qa hst;clear hrd hf hz hv hst;go_wp2_with fail;go_loopw [3] (λt3 wr=>Hid (Q18 B g L w R d s t3 wr)) (λ_ wr=>lam g L.length wr)
 case atStart=>exact HST
 case round=>
  obtain ⟨R2,hF,hZ,hst⟩:=hrel.out;rcases hst with ⟨p,s1,rfl,hG,hle,hsl,hcont⟩ |⟨f,rfl,hG,hrd⟩
  ·have HF:=Qa hF;have HZ:=Qa hZ;have HS:=Qa hG;have J2:=Qa hG.lam;have Z9:=Qa hle;have HSL:=Qa hsl;have HC:=Qa hcont;clear hrel hF hZ hG hle hsl hcont;go_wp2_with fail;refine (Qhp lb HS.out).mono ?_;rintro en x1 ⟨rfl,hb⟩;replace HS:=Qa (HS.out.below hb);replace HF:=Qa (HF.out.trans (Fr.of_below _ hb));clear hb;cases hlb:s1.is lb with
   |false=>
    have Ec:=Qa hlb;clear hlb;go_wp2_with fail;go_ret;exact ⟨_,HC.out _ (Reads.Qie Ec.out),R2,HF.out,HZ.out,.inl ⟨p,s1,rfl,rfl,HS.out⟩⟩
   |true=>
    have Ec:=Qa hlb;clear hlb;go_wp2_with fail;refine (Qbx HS.out).mono ?_;rintro en x2 ⟨rfl,hb⟩;replace HS:=Qa (HS.out.below hb);replace HF:=Qa (HF.out.trans (Fr.of_below _ hb));clear hb;go_wp2_with fail;refine (HI.out lb rb _ _ _ _ HS.out hd (by have:=HM.out;have:=Z9.out;omega)).mono ?_;rintro en x3 ⟨v,hrd,R3,hf,hz,hv⟩;have Q0:=Qa hrd;replace HF:=Qa (HF.out.trans hf);have HZ3:Hid (R3.Z=R.Z):=hz.trans HZ.out;clear hrd hf hz;rcases hv with ⟨q,s2,rfl,rfl,hg⟩ |⟨f,rfl,rfl,hg⟩
    ·have Sz:=Qa hg;have Ai:=Qa Q0.out.Wf0;clear hg;go_wp2_with fail;refine Qn ?_;go_wp2_with fail;have HNW:=Qa (Qex x3 [p,q] #[.int .i64 p,.int .i64 q] rfl (by simp) 2 rfl);have Jl:Hid (Below x3.heap.size x3 (x3.alloc (.cells #[.int .i64 p,.int .i64 q] 3))):=Qag;refine (Qey (B':=x3.heap.size) ⟨8,some ⟨x3.heap.size,0,none⟩,2,[p,q],0,⟨#[]⟩,(s1.tok.place:Int)⟩ s1.tok.place (Sz.out.below Jl.out) HNW.out (by have:=Ai.out;have:=HSL.out;have:=K9.out;omega) (by simp) rfl).mono ?_;rintro en x4 ⟨R4,hf2,hz2,hv2⟩;have O9:=Qa ((HF.out.trans (Fr.of_below _ Jl.out)).trans hf2);have HZ4:Hid (R4.Z=R.Z):=hz2.trans HZ3.out;clear hf2 hz2;rcases hv2 with ⟨k2,s3,Y2,rfl,hg⟩ |⟨f,Y2,rfl,hg⟩
     ·have M5:=Qa Y2;have HG:=Qa hg;have Ji:=Qa hg.lam;have Nn:=Qa (Qbq Y2);clear Y2 hg;go_wp2_with fail;go_roundw
      case rel=>exact ⟨R4,O9.out,HZ4.out,.inl ⟨k2,s3,rfl,HG.out,by have:=Nn.out;have:=Ai.out;have:=Z9.out;rw [Nn.out.2.1];omega,by have:=Nn.out;have:=Ai.out;have:=HSL.out;rw [Nn.out.2.1];omega,λv h=>HC.out _ (Reads.Qa0 Ec.out Q0.out M5.out h)⟩⟩
      case measure=>show lam g L.length x4<lam g L.length _;rw [Ji.out,J2.out,Nn.out.2.1];have:=Ai.out;omega
     ·have M5:=Qa Y2;have HG:=Qa hg;have Ji:=Qa hg.lam;clear Y2 hg;go_wp2_with fail;go_roundw
      case rel=>exact ⟨R4,O9.out,HZ4.out,.inr ⟨f,rfl,HG.out,HC.out _ (Reads.Q9c Ec.out Q0.out M5.out)⟩⟩
      case measure=>show lam g L.length x4<lam g L.length _;rw [Ji.out,J2.out];have:=Ai.out;omega
    ·have Sz:=Qa hg;clear hg;go_wp2_with fail;refine Qn ?_;go_wp2_with fail;have Jl:Hid (Below x3.heap.size x3 (x3.alloc (.cells #[.int .i64 p,.int .i64 (-1)] 3))):=Qag;refine (Mx _ _ _ _ _ (Sz.out.below Jl.out)).mono ?_;rintro en x4 ⟨rfl,hb⟩;have Jf:=Qa (Z4 Jl.out hb);have Le:=Qa (Sz.out.below Jf.out);have Ez:=Qa (HF.out.trans (Fr.of_below _ Jf.out));have Ji:=Qa Le.out.lam;have HPO:=Qa (Ve Ec.out);clear hb;go_wp2_with fail;go_roundw
     case rel=>exact ⟨R3,Ez.out,HZ3.out,.inr ⟨f,rfl,Le.out,HC.out _ (Reads.Wia Ec.out Q0.out)⟩⟩
     case measure=>show lam g L.length x4<lam g L.length _;rw [Ji.out,J2.out];have:=HPO.out;omega
  ·have HF:=Qa hF;have HZ:=Qa hZ;have HS:=Qa hG;have Q0:=Qa hrd;clear hrel hF hZ hG hrd;go_wp2_with fail;refine (Qck lb HS.out).mono ?_;rintro en x1 ⟨rfl,hb⟩;replace HS:=Qa (HS.out.below hb);replace HF:=Qa (HF.out.trans (Fr.of_below _ hb));clear hb;go_wp2_with fail;go_ret;exact ⟨_,Q0.out,R2,HF.out,HZ.out,.inr ⟨f,rfl,rfl,HS.out⟩⟩
def Qk4 (B g:Nat) (L:List Tk) (M:Nat):Prop:= ∀w R d s,Good B g L w R d s->d<=200->s.r.length<=M->Calls prog 143 #[.pointer (some ⟨g,0,none⟩)] w (Post B g L .front w R d s)
def Ql4 (k:Nat):List UInt8:=if k=0 then minus else bang
def Qye (k:Nat):Int:=if k=0 then 6 else 7
theorem Wc6 {M:Nat} (hE:U3 B g L M) (hFr:Qk4 B g L M):Qk4 B g L (M+1):=by
 intro w R d s H hd hM;have HE:=Qa hE;have HFR:=Qa hFr;have K9:=Qa H.size;have HH:=Qa H;have HM:=Qa hM;have J6:=Qa (Qbx H);obtain ⟨A,hA⟩:=Qb s.tok.place;rw [<-hA]at J6;have HA:=Qa hA;have Xp:=Xm;clear H hE hM hFr hA;go_enter func143,ntmps143;rw [Qz 5,Qz 9];go_wp2_with fail;refine J6.out.mono ?_;rintro en w1 ⟨rfl,hb⟩;have HB:=Qa hb;clear hb;obtain ⟨tt,fr,hg⟩:=(HH.out.below HB.out).tabs.front;have Fz:=Qa hg;clear hg;go_wp2_with (refine wpList_load_row rfl 160 _ rfl 13 rfl tt _ fr _ Fz.out underlying160 rfl (by kernel_rfl) ?_);go_loopw [11] (λt11 wr=> ∃k:Nat,k<=2/\t11= .int .i64 (k:Int)/\Hid (Below w.heap.size w wr)/\Hid (∀j,j<k->s.is (Ql4 j)=false)) (λt11 _=>2-(intOf t11).toNat)
 case atStart=>exact ⟨0,by omega,rfl,HB,λj hj=>by omega⟩
 case round=>
  obtain ⟨k,hk,rfl,Ku,V9⟩:=hrel;by_cases hlt:k<2
  ·have hix: ∀w,(Instr.index 160 (.agg Qqp) (.int .i64 (k:Int))).run prog w= .ok (.agg #[.string ⟨(Ql4 k).toArray⟩,.int .i64 (Qye k)]) w:=Q12 k hlt;obtain ⟨c,hc⟩:=Qb (Ql4 k);obtain ⟨m,hm⟩:=Qb (Qye k:Int);rw [<-hc,<-hm]at hix;have HC:=Qa hc;have HKM:=Qa hm;clear hc hm;go_wp2_with fail;obtain ⟨W,hW⟩:=Qb (wr.alloc (.cells #[.string ⟨c.toArray⟩,.int .i64 m] 159));obtain ⟨G,hG⟩:=Qb wr.heap.size;have HG:Hid (Held W G 159 #[.string ⟨c.toArray⟩,.int .i64 m]):=(by rw [hW,hG];exact Held.new _ _ _);have z0:W.cell? ⟨G,0,none⟩=some (.string ⟨c.toArray⟩):=HG.out.at_ rfl;have HB2:Hid (Below w.heap.size w W):=(by rw [hW];exact Ku.out.alloc Ku.out.size _);have HS:=Qa (HH.out.below HB2.out);have HF:Hid (Fr g w W R R):=Fr.of_below R HB2.out;rw [<-hW,<-hG];clear hW hG;refine Qn ?_;go_wp2_with fail;cases hsc:s.is c with
   |false=>
    have Ow:=Qa hsc;clear hsc;refine (Qbi c HS.out Ow.out).mono ?_;rintro en w2 ⟨rfl,hb⟩;have HB3:=Qa (Z4 HB2.out hb);clear hb;go_wp2_with fail;go_roundw
    case rel=>exact ⟨k+1,by omega,by go_num,HB3,λj hj=>by
     rcases V7 j k with g1 |g1
     ·exact V9.out j g1
     ·rw [show j=k by omega,<-HC.out];exact Ow.out⟩
    case measure=>simp [intOf];omega
   |true=>
    have Ow:=Qa hsc;clear hsc;have HMB:Hid (s.is minus=true\/s.is bang=true):=by
     have h1:=Ow.out;rw [HC.out]at h1;unfold Ql4 at h1;split at h1
     ·exact .inl h1
     ·exact .inr h1
    have HMK:Hid ((if s.is minus then (6:Int)else 7)=m):=by
     show _=m;rw [HKM.out];rcases (show k=0\/k=1 by omega)with h0 |h0
     ·subst h0;have h1:=Ow.out;rw [HC.out]at h1;rw [Qk (show s.is minus=true from h1)];rfl
     ·subst h0;rw [Qd (by rw [show s.is minus=false from V9.out 0 (by omega)];decide)];rfl
    have Yi:=Qa (Ve Ow.out);refine (Qbh c HS.out Ow.out).mono ?_;rintro en w2 ⟨rfl,hg,hf⟩;replace HG:=Qa (HS.out.held hf HG.out (by decide) (by decide) (by decide));replace HS:=Qa hg;replace HF:=Qa (HF.out.trans hf);clear hg hf z0;go_wp2_with fail;by_cases Qb6:200<=d
    ·have HD:=Qa Qb6;refine (Qm7 A HS.out Qb6 (by omega)).mono ?_;rintro en w3 ⟨rfl,hg,hf⟩;replace HG:=Qa (HS.out.held hf HG.out (by decide) (by decide) (by decide));have HX:=Qa hg;replace HF:=Qa (HF.out.trans hf);clear hg hf;go_wp2_with fail;refine (Qzk HX.out).mono ?_;rintro en w4 ⟨rfl,hb⟩;replace HG:=Qa (HG.out.since hb);replace HX:=Qa (HX.out.below hb);replace HF:=Qa (HF.out.trans (Fr.of_below _ hb));clear hb;go_wp2_with fail;refine (Pg HX.out (by omega)).mono ?_;rintro en w5 ⟨⟨v,rfl⟩,hg,hf⟩;replace HG:=Qa (HX.out.held hf HG.out (by decide) (by decide) (by decide));replace HX:=Qa hg;replace HF:=Qa (HF.out.trans hf);clear hg hf;have z1:w5.cell? ⟨G,1,none⟩=some (.int .i64 m):=HG.out.at_ rfl;go_wp2_with fail;refine Qn ?_;go_wp2_with fail;have Jl:Hid (Below w5.heap.size w5 (w5.alloc (.cells #[.int .i64 (-1)] 3))):=Qag;refine (Mx _ _ _ _ _ (HX.out.below Jl.out)).mono ?_;rintro en w6 ⟨rfl,hb⟩;have Br:=Qa (Z4 Jl.out hb);clear hb;go_wp2_with fail;go_ret;exact ⟨_,by rw [HA.out]at HX;exact Reads.Qht HMB.out HD.out,R,HF.out.trans (Fr.of_below _ Br.out),rfl,.inr ⟨_,rfl,rfl,by rw [<-HA.out];exact HX.out.below Br.out⟩⟩
    ·have hd2:d<200:=(by omega);refine (Qlu A HS.out hd2).mono ?_;rintro en w3 ⟨rfl,hg,hf⟩;replace HG:=Qa (HS.out.held hf HG.out (by decide) (by decide) (by decide));replace HS:=Qa hg;replace HF:=Qa (HF.out.trans hf);clear hg hf;go_wp2_with fail;refine (HFR.out _ _ _ _ HS.out (by omega) (by have:=Yi.out;have:=HM.out;omega)).mono ?_;rintro en w4 ⟨v,hrd,R3,hf,hz,hv⟩;have Q0:=Qa hrd;replace HG:=Qa (HS.out.held hf HG.out (by decide) (by decide) (by decide));replace HF:=Qa (HF.out.trans hf);have HZ:=Qa hz;clear hrd hf hz;rcases hv with ⟨q,s1,rfl,rfl,hg⟩ |⟨f,rfl,rfl,hg⟩
     ·replace HS:=Qa hg;have HSL:=Qa Q0.out.N7;clear hg;go_wp2_with fail;refine (Qnm HS.out (by omega)).mono ?_;rintro en w5 ⟨⟨v,rfl⟩,hg,hf⟩;replace HG:=Qa (HS.out.held hf HG.out (by decide) (by decide) (by decide));replace HS:=Qa hg;replace HF:=Qa (HF.out.trans hf);clear hg hf;have z1:w5.cell? ⟨G,1,none⟩=some (.int .i64 m):=HG.out.at_ rfl;go_wp2_with fail;refine Qn ?_;go_wp2_with fail;have HNW:=Qa (Qex w5 [q] #[.int .i64 q] rfl (by simp) 1 rfl);have Jl:Hid (Below w5.heap.size w5 (w5.alloc (.cells #[.int .i64 q] 3))):=Qag;refine (Qey (B':=w5.heap.size) ⟨m,some ⟨w5.heap.size,0,none⟩,1,[q],0,⟨#[]⟩,(A:Int)⟩ A (HS.out.below Jl.out) HNW.out (by have h1:=HSL.out;have e:s.next.l=s.l:=rfl;rw [e]at h1;have:=K9.out;have:=Yi.out;omega) (by simp) rfl).mono ?_;rintro en w6 Yy;obtain ⟨k9,rfl⟩:=Yy.val;have Vy:=Qa ((Yy.trans (Fr.of_below _ Jl.out) rfl).trans HF.out HZ.out);clear Yy;go_wp2_with fail;go_ret;exact ⟨_,Reads.Qrw HMB.out hd2 Q0.out,by rw [HMK.out,<-HA.out];exact Vy.out⟩
     ·have HX:=Qa hg;clear hg;go_wp2_with fail;refine (Pg HX.out (by omega)).mono ?_;rintro en w5 ⟨⟨v,rfl⟩,hg,hf⟩;replace HG:=Qa (HX.out.held hf HG.out (by decide) (by decide) (by decide));replace HX:=Qa hg;replace HF:=Qa (HF.out.trans hf);clear hg hf;have z1:w5.cell? ⟨G,1,none⟩=some (.int .i64 m):=HG.out.at_ rfl;go_wp2_with fail;refine Qn ?_;go_wp2_with fail;have Jl:Hid (Below w5.heap.size w5 (w5.alloc (.cells #[.int .i64 (-1)] 3))):=Qag;refine (Mx _ _ _ _ _ (HX.out.below Jl.out)).mono ?_;rintro en w6 ⟨rfl,hb⟩;have Br:=Qa (Z4 Jl.out hb);clear hb;go_wp2_with fail;go_ret;exact ⟨_,Reads.Wax HMB.out hd2 Q0.out,R3,HF.out.trans (Fr.of_below _ Br.out),HZ.out,.inr ⟨f,rfl,rfl,HX.out.below Br.out⟩⟩
  ·obtain rfl:k=2:=(by omega);go_wp2_with fail;refine (Wg3 HE.out wr R d s (HH.out.below Ku.out) hd HM.out).mono ?_;rintro en w2 ⟨v,hrd,Yy⟩;obtain ⟨k9,rfl⟩:=Yy.val;have Vy:=Qa (Yy.trans (Fr.of_below R Ku.out) rfl);have Q0:=Qa hrd;clear Yy hrd;go_wp2_with fail;go_ret;exact ⟨_,Reads.Qjx (V9.out 0 (by omega)) (V9.out 1 (by omega)) Q0.out,Vy.out⟩
end
section
open Go.RowKit
variable {B g:Nat}{L:List Tk}
def Qmf (B g:Nat) (L:List Tk) (lv M:Nat):Prop:= ∀w R d s,Good B g L w R d s->d<=200->s.r.length<=M->Calls prog 128 #[.pointer (some ⟨g,0,none⟩),.int .i64 (lv:Int)] w (Post B g L (.chain lv) w R d s)
theorem Q98 {M:Nat} (h:Qk4 B g L M):Qmf B g L 5 M:=by
 intro w R d s H hd hM;have HC:=Qa (h w R d s H hd hM);clear h H;go_enter func128,ntmps128;go_wp2_with fail;go_step3;go_wp2_with fail;refine HC.out.mono ?_;rintro en w2 ⟨v,hrd,Yy⟩;obtain ⟨k9,rfl⟩:=Yy.val;have Vy:=Qa Yy;have Q0:=Qa hrd;clear Yy hrd;go_wp2_with fail
 try rw [Exit.noGoto_ret]
 go_ret;exact ⟨_,Q0.out.Qlb,Vy.out⟩
theorem Qte {t:Tk}: ∀(n a k:Nat),a<=k->k<a+n->(∀j,a<=j->j<k->sees t (Xu.getD j [])=false)->sees t (Xu.getD k [])=true->Lr t a n=some k
 | 0,a,k,h1,h2,_,_=>by omega
 |n+1,a,k,h1,h2,h3,h4=>by
  unfold Lr;rcases Nat.eq_or_lt_of_le h1 with e |e
  ·subst e;rw [Qk h4]
  ·rw [Qd (by rw [h3 a (Qh _) e];decide)];exact Qte n (a+1) k e (by omega) (λj hj=>h3 j (by omega)) h4
theorem Qun {t:Tk}: ∀(n a:Nat),(∀j,a<=j->j<a+n->sees t (Xu.getD j [])=false)->Lr t a n=none
 | 0,a,_=>rfl
 |n+1,a,h=>by unfold Lr;rw [Qd (by rw [h a (Qh _) (by omega)];decide)];exact Qun n (a+1) (λj h1 h2=>h j (by omega) (by omega))
def Qzu (B g:Nat) (L:List Tk) (w:World) (R:Bx) (d lv:Nat) (s:PS) (G:Nat) (cs:Array Value) (t6:Value) (wr:World):Prop:=
 Held wr G 152 cs/\ ∃R1,Fr g w wr R R1/\R1.Z=R.Z/\(
  (∃p s1,t6= .int .i64 p/\Good B g L wr R1 d s1/\s1.r.length<=s.r.length/\s1.l.length+s1.r.length<=s.l.length+s.r.length/\ ∀v,Reads (.loop lv p) d s1 v->Reads (.chain lv) d s v)\/
  (∃f,t6= .int .i64 (-1)/\Bad B g L wr R1 d f/\Reads (.chain lv) d s (.error f)))
theorem Qka {lv M:Nat} (hlv:lv<5) (hC:Qmf B g L (lv+1) M):Qmf B g L lv M:=by
 intro w R d s H hd hM;have HIH:Hid (∀w R d s,Good B g L w R d s->d<=200->s.r.length<=M->Calls prog 128 #[.pointer (some ⟨g,0,none⟩),.int .i64 ((lv:Int)+1)] w (Post B g L (.chain (lv+1)) w R d s)):=λw R d s h1 h2 h3=>by have:=hC w R d s h1 h2 h3;rw [show ((lv+1:Nat):Int)=(lv:Int)+1 by omega]at this;exact this
 have HH:=Qa H;have K9:=Qa H.size;have HM:=Qa hM;obtain ⟨x0,x1,x2⟩:=Q42 H.tabs hlv;have Ip:=Qxr hlv;have Dn:Hid (lv≠5):=by show lv≠5;omega
 obtain ⟨o1,ho1⟩:=Qb (Zx lv);obtain ⟨o2,ho2⟩:=Qb (Ag lv);obtain ⟨once,hon⟩:=Qb (lv==2);have HAT:Hid (∀t,opAt lv t=Lr t o1 (o2+1-o1)):=λt=>by rw [ho1,ho2];rfl
 have HON:=Qa hon;rw [<-ho1]at x0 Ip;rw [<-ho2]at x1 Ip;rw [<-hon]at x2;clear H hC hM ho1 ho2 hon;obtain ⟨hq1,hq2,hq3⟩:=Ip;have hne:((lv:Int)==5)=false:=by simp;omega
 have Xp:=Xm;go_enter func128,ntmps128;rw [Qz 4,Qz 11,Qz 12];go_wp2_with fail;go_step3;go_wp2_with fail;obtain ⟨W,hW⟩:=Qb (w.alloc (.cells #[.int .i64 (o1:Int),.int .i64 (o2:Int),.bool once] 152));obtain ⟨G,hG⟩:=Qb w.heap.size;have HG:Hid (Held W G 152 #[.int .i64 (o1:Int),.int .i64 (o2:Int),.bool once]):=by rw [hW,hG];exact Held.new _ _ _
 have HB:Hid (Below w.heap.size w W):=by rw [hW];exact Qag
 rw [<-hW,<-hG];clear hW hG x0 x1 x2 hne;refine Qn ?_;go_wp2_with fail;refine (HIH.out W R d s (HH.out.below HB.out) hd HM.out).mono ?_;rintro en w1 ⟨v,hrd,R1,hf,hz,hv⟩;have HST:Hid (∃k,en= .returned (.int .i64 k)/\Qzu B g L w R d lv s G #[.int .i64 (o1:Int),.int .i64 (o2:Int),.bool once] (.int .i64 k) w1):=by
  have hG1:=(HH.out.below HB.out).held hf HG.out (by decide) (by decide) (by decide);have hF1:=(Fr.of_below R HB.out).trans hf;rcases hv with ⟨k,s1,rfl,rfl,hg⟩ |⟨f,rfl,rfl,hg⟩
  ·have:=hrd.N7;exact ⟨k,rfl,hG1,R1,hF1,hz,.inl ⟨k,s1,rfl,hg,by omega,by omega,λv h=>Reads.chain Dn.out hrd h⟩⟩
  ·exact ⟨-1,rfl,hG1,R1,hF1,hz,.inr ⟨f,rfl,hg,Reads.Wp5 Dn.out hrd⟩⟩
 obtain ⟨k,rfl,hst⟩:=HST.out;replace HST:=Qa hst;clear hrd hf hz hv hst;go_wp2_with fail;go_step3;go_wp2_with fail;go_loopw [6] (λt6 wr=>Hid (Qzu B g L w R d lv s G #[.int .i64 (o1:Int),.int .i64 (o2:Int),.bool once] t6 wr)) (λ_ wr=>lam g L.length wr)
 case atStart=>exact HST
 case round=>
  obtain ⟨hGr,R2,hF,hZ,hst⟩:=hrel.out;rcases hst with ⟨p,s1,rfl,hGd,hle,hsl,hcont⟩ |⟨f,rfl,hGd,hrd⟩
  ·replace HG:=Qa hGr;have HF:=Qa hF;have HZ:=Qa hZ;have HS:=Qa hGd;have J2:=Qa hGd.lam;have Z9:=Qa hle;have HSL:=Qa hsl;have HC:=Qa hcont;clear hrel hGr hF hZ hGd hle hsl hcont;go_wp2_with fail;refine (Qbx HS.out).mono ?_;rintro en x1 ⟨rfl,hb⟩;replace HG:=Qa (HG.out.since hb);replace HS:=Qa (HS.out.below hb);replace HF:=Qa (HF.out.trans (Fr.of_below _ hb));clear hb;have z0:x1.cell? ⟨G,0,none⟩=some (.int .i64 (o1:Int)):=HG.out.at_ rfl;obtain ⟨A,hA⟩:=Qb s1.tok.place;rw [<-hA];have HA:=Qa hA;clear hA;obtain ⟨wo,rfl⟩:=Qb wr;go_wp2_with fail;go_loopw [6,8] (λt6 t8 wr=> ∃k:Nat,t6= .int .i64 p/\o1<=k/\k<=o2+1/\t8= .int .i64 (k:Int)/\Hid (Below x1.heap.size x1 wr)/\Hid (∀j,o1<=j->j<k->sees s1.tok (Xu.getD j [])=false)) (λ_ t8 _=>o2+1-(intOf t8).toNat)
   case atStart=>exact ⟨o1,rfl,by omega,by omega,rfl,Below.refl _ _,λj h1 h2=>by omega⟩
   case round=>
    obtain ⟨k,rfl,hk1,hk2,rfl,Ku,V9⟩:=hrel;have HGr:=Qa (HG.out.since Ku.out);have Sb:=Qa (HS.out.below Ku.out);have HFr:=Qa (HF.out.trans (Fr.of_below _ Ku.out));have z1:wr.cell? ⟨G,1,none⟩=some (.int .i64 (o2:Int)):=HGr.out.at_ rfl;clear z0;by_cases hlt:k<=o2
    ·have Qaf:(k:Int)<=(o2:Int):=(by omega);have c1:=Qvk Sb.out.tabs (op:=k) (by omega);obtain ⟨c,hc⟩:=Qb (Xu.getD k []);rw [<-hc]at c1;have HCC:=Qa hc;clear hc;go_wp2_with fail;cases hsc:s1.is c with
     |false=>
      have Ow:=Qa hsc;clear hsc;refine (Qbi c Sb.out Ow.out).mono ?_;rintro en x3 ⟨rfl,hb⟩;have HB3:=Qa (Z4 Ku.out hb);clear hb;go_wp2_with fail;go_roundw
      case rel=>exact ⟨k+1,rfl,by omega,by omega,by go_num,HB3,λj h1 h2=>by
       rcases V7 j k with g1 |g1
       ·exact V9.out j h1 g1
       ·rw [show j=k by omega,<-HCC.out];exact Ow.out⟩
      case measure=>simp [intOf];omega
     |true=>
      have Ow:=Qa hsc;have Rh:Hid (opAt lv s1.tok=some k):=by show opAt lv s1.tok=some k;rw [HAT.out];exact Qte _ _ _ hk1 (by omega) V9.out (by rw [<-HCC.out];exact hsc)
      have Yi:=Qa (Ve hsc);clear hsc;refine (Qbh c Sb.out Ow.out).mono ?_;rintro en x3 ⟨rfl,hg,hf⟩;have V5:=Qa (Sb.out.held hf HGr.out (by decide) (by decide) (by decide));have Sz:=Qa hg;have HF3:=Qa (HFr.out.trans hf);clear hg hf;go_wp2_with fail;refine (HIH.out _ _ _ _ Sz.out hd (by have:=Yi.out;have:=Z9.out;have:=HM.out;omega)).mono ?_;rintro en x4 ⟨v,hrd,R4,hf,hz,hv⟩;have Q0:=Qa hrd;have D6:=Qa (Sz.out.held hf V5.out (by decide) (by decide) (by decide));have Ez:=Qa (HF3.out.trans hf);have HZ4:Hid (R4.Z=R.Z):=hz.trans HZ.out;clear hrd hf hz;rcases hv with ⟨q,s2,rfl,rfl,hg⟩ |⟨f,rfl,rfl,hg⟩
      ·have Le:=Qa hg;have HSK:Hid (s2.l.length+s2.r.length+1<=s1.l.length+s1.r.length/\s2.r.length+1<=s1.r.length):=by have h1:=Q0.out.N7;have e:s1.next.l=s1.l:=rfl;rw [e]at h1;have h2:=Yi.out;exact ⟨by omega,by omega⟩
       clear hg;go_wp2_with fail;refine Qn ?_;go_wp2_with fail;have HNW:=Qa (Qex x4 [p,q] #[.int .i64 p,.int .i64 q] rfl (by simp) 2 rfl);have Jl:Hid (Below x4.heap.size x4 (x4.alloc (.cells #[.int .i64 p,.int .i64 q] 3))):=Qag;refine (Qey (B':=x4.heap.size) ⟨5,some ⟨x4.heap.size,0,none⟩,2,[p,q],(k:Int),⟨#[]⟩,(A:Int)⟩ A (Le.out.below Jl.out) HNW.out (by have:=HSK.out;have:=HSL.out;have:=K9.out;omega) (by simp) rfl).mono ?_;rintro en x5 ⟨R5,hf2,hz2,hv2⟩;have E8:=Qa ((Le.out.below Jl.out).held hf2 (D6.out.since Jl.out) (by decide) (by decide) (by decide));have Me:=Qa ((Ez.out.trans (Fr.of_below _ Jl.out)).trans hf2);have O8:Hid (R5.Z=R.Z):=hz2.trans HZ4.out;have z2:x5.cell? ⟨G,2,none⟩=some (.bool once):=E8.out.at_ rfl;clear hf2 hz2;rcases hv2 with ⟨k2,s3,Y2,rfl,hg⟩ |⟨f,Y2,rfl,hg⟩
       ·have M5:Hid (lay (En 5 [p,q] (k:Int) ⟨#[]⟩ s1.tok.place) s2= .ok ([k2],s3)):=(by rw [<-HA.out];exact Y2);have Fa:=Qa hg;have Qim:=Qa hg.lam;have Nn:=Qa (Qbq Y2);clear Y2 hg;go_wp2_with fail;refine Qn ?_;cases once with
        |true=>
         have Gj:Hid (lv=2):=(by have h:=HON.out.symm;show _;simp at h;exact h);go_wp2_with fail
         try rw [Exit.noGoto_ret]
         go_ret;exact ⟨_,HC.out _ (Reads.Qno Gj.out Rh.out Q0.out M5.out),R5,Me.out,O8.out,.inl ⟨k2,s3,rfl,rfl,Fa.out⟩⟩
        |false=>
         have Gj:Hid (lv≠2):=(by have h:=HON.out.symm;show _;simp at h;exact h);go_wp2_with fail;go_roundw
         case rel=>exact ⟨E8.out,R5,Me.out,O8.out,.inl ⟨k2,s3,rfl,Fa.out,by rw [Nn.out.2.1];have:=HSK.out;have:=Z9.out;omega,by rw [Nn.out.2.1];have:=Nn.out.1;have:=HSK.out;have:=HSL.out;omega,λv h=>HC.out _ (Reads.Qly Gj.out Rh.out Q0.out M5.out h)⟩⟩
         case measure=>show lam g L.length x5<lam g L.length _;rw [Qim.out,J2.out,Nn.out.2.1];have:=HSK.out;omega
       ·have M5:Hid (lay (En 5 [p,q] (k:Int) ⟨#[]⟩ s1.tok.place) s2= .error f):=(by rw [<-HA.out];exact Y2);have Fa:=Qa hg;have Qim:=Qa hg.lam;clear Y2 hg;go_wp2_with fail;refine Qn ?_;cases once with
        |true=>
         go_wp2_with fail
         try rw [Exit.noGoto_ret]
         go_ret;exact ⟨_,HC.out _ (Reads.Q2n Rh.out Q0.out M5.out),R5,Me.out,O8.out,.inr ⟨f,rfl,rfl,Fa.out⟩⟩
        |false=>
         go_wp2_with fail;go_roundw
         case rel=>exact ⟨E8.out,R5,Me.out,O8.out,.inr ⟨f,rfl,Fa.out,HC.out _ (Reads.Q2n Rh.out Q0.out M5.out)⟩⟩
         case measure=>show lam g L.length x5<lam g L.length _;rw [Qim.out,J2.out];have:=HSK.out;omega
      ·have Le:=Qa hg;clear hg;go_wp2_with fail;refine Qn ?_;go_wp2_with fail;have Jl:Hid (Below x4.heap.size x4 (x4.alloc (.cells #[.int .i64 p,.int .i64 (-1)] 3))):=Qag;refine (Mx _ _ _ _ _ (Le.out.below Jl.out)).mono ?_;rintro en x5 ⟨rfl,hb⟩;have E5:=Qa (Z4 Jl.out hb);have E8:=Qa (D6.out.since E5.out);have Gm:=Qa (Le.out.below E5.out);have Me:=Qa (Ez.out.trans (Fr.of_below _ E5.out));have Qim:=Qa Gm.out.lam;have z2:x5.cell? ⟨G,2,none⟩=some (.bool once):=E8.out.at_ rfl;clear hb;go_wp2_with fail;refine Qn ?_;cases once with
       |true=>
        go_wp2_with fail
        try rw [Exit.noGoto_ret]
        go_ret;exact ⟨_,HC.out _ (Reads.Q00 Rh.out Q0.out),R4,Me.out,HZ4.out,.inr ⟨f,rfl,rfl,Gm.out⟩⟩
       |false=>
        go_wp2_with fail;go_roundw
        case rel=>exact ⟨E8.out,R4,Me.out,HZ4.out,.inr ⟨f,rfl,Gm.out,HC.out _ (Reads.Q00 Rh.out Q0.out)⟩⟩
        case measure=>show lam g L.length x5<lam g L.length _;rw [Qim.out,J2.out];have:=Yi.out;omega
    ·have Qaf: ¬(k:Int)<=(o2:Int):=(by omega);have Rh:Hid (opAt lv s1.tok=none):=by show opAt lv s1.tok=none;rw [HAT.out];exact Qun _ _ (λj h1 h2=>V9.out j h1 (by omega))
     go_wp2_with fail
     try rw [Exit.noGoto_ret]
     go_ret;exact ⟨_,HC.out _ (Reads.Qa7 Rh.out),R2,HFr.out,HZ.out,.inl ⟨p,s1,rfl,rfl,Sb.out⟩⟩
  ·replace HG:=Qa hGr;have HF:=Qa hF;have HZ:=Qa hZ;have HS:=Qa hGd;have Q0:=Qa hrd;clear hrel hGr hF hZ hGd hrd;go_wp2_with fail;refine (Qki HS.out).mono ?_;rintro en x1 ⟨K,N,A,X,rfl,hb⟩;replace HG:=Qa (HG.out.since hb);replace HS:=Qa (HS.out.below hb);replace HF:=Qa (HF.out.trans (Fr.of_below _ hb));clear hb;have z0:x1.cell? ⟨G,0,none⟩=some (.int .i64 (o1:Int)):=HG.out.at_ rfl;obtain ⟨wo,rfl⟩:=Qb wr;go_wp2_with fail;go_loopw [6,8] (λt6 t8 wr=> ∃k:Nat,t6= .int .i64 (-1)/\o1<=k/\k<=o2+1/\t8= .int .i64 (k:Int)/\Hid (Below x1.heap.size x1 wr)) (λ_ t8 _=>o2+1-(intOf t8).toNat)
   case atStart=>exact ⟨o1,rfl,by omega,by omega,rfl,Below.refl _ _⟩
   case round=>
    obtain ⟨k,rfl,hk1,hk2,rfl,Ku⟩:=hrel;have HGr:=Qa (HG.out.since Ku.out);have Sb:=Qa (HS.out.below Ku.out);have HFr:=Qa (HF.out.trans (Fr.of_below _ Ku.out));have z1:wr.cell? ⟨G,1,none⟩=some (.int .i64 (o2:Int)):=HGr.out.at_ rfl;clear z0;by_cases hlt:k<=o2
    ·have Qaf:(k:Int)<=(o2:Int):=(by omega);have c1:=Qvk Sb.out.tabs (op:=k) (by omega);obtain ⟨c,hc⟩:=Qb (Xu.getD k []);rw [<-hc]at c1;clear hc;go_wp2_with fail;refine (Nz c Sb.out).mono ?_;rintro en x3 ⟨rfl,hb⟩;have HB3:=Qa (Z4 Ku.out hb);clear hb;go_wp2_with fail;go_roundw
     case rel=>exact ⟨k+1,rfl,by omega,by omega,by go_num,HB3⟩
     case measure=>simp [intOf];omega
    ·have Qaf: ¬(k:Int)<=(o2:Int):=(by omega);go_wp2_with fail
     try rw [Exit.noGoto_ret]
     go_ret;exact ⟨_,Q0.out,R2,HFr.out,HZ.out,.inr ⟨f,rfl,rfl,Sb.out⟩⟩
theorem Wak {M:Nat} (h:Qmf B g L 0 M):U3 B g L M:=by intro w R d s H hd hM;have HC:=Qa (h w R d s H hd hM);clear h H;go_enter func94,ntmps94;go_wp2_with fail;refine HC.out.mono ?_;rintro en w2 ⟨v,hrd,Yy⟩;obtain ⟨k9,rfl⟩:=Yy.val;have Vy:=Qa Yy;have Q0:=Qa hrd;clear Yy hrd;go_wp2_with fail;go_ret;exact ⟨_,Q0.out,Vy.out⟩
theorem Wbu {M:Nat} (h:Qk4 B g L M):U3 B g L M:=
 Wak (Qka (by decide) (Qka (by decide) (Qka (by decide) (Qka (by decide) (Qka (by decide) (Q98 h))))))
theorem Qmq (B g:Nat) (L:List Tk): ∀M,Qk4 B g L M/\U3 B g L M
 | 0=>⟨λw R d s H _ h=>by have:=H.some;omega,λw R d s H _ h=>by have:=H.some;omega⟩
 |M+1=>by obtain ⟨h1,h2⟩:=Qmq B g L M;have h3:=Wc6 h2 h1;exact ⟨h3,Wbu h3⟩
theorem Wk3 {w:World} {R:Bx} {d:Nat} {s:PS} (H:Good B g L w R d s) (hd:d<=200):
  Calls prog 94 #[.pointer (some ⟨g,0,none⟩)] w (Post B g L (.chain 0) w R d s):=(Qmq B g L s.r.length).2 w R d s H hd (Qh _)
end
section
open Go.RowKit
structure IsL (L:List Tk):Prop where
 some:0<L.length
 many:L.length<=100000
 fin: ∀j t,L[j]? = .some t->t.kind≠0->j+1<L.length
theorem Wg2 {L:List Tk} (b off c:Nat) (w:World) (hT:Co w) (hL:IsL L) (hk:Uo w b off L):
  Calls prog 52 #[.slice (some ⟨b,off,none⟩) L.length c] w λen w'=> ∃g R,en= .returned (.pointer (some ⟨g,0,none⟩))/\Rd w.heap.size g L w' R 0 0 [] [] 0 0/\Below w.heap.size w w':=by
 have HT:=Qa hT;have HL:=Qa hL;have HC:=Qa (Wdx b off L.length c (Ey L) w (Q8o L) (by have:=hL.many;omega) hk (Wnh L));clear hT hL hk;go_enter func52,ntmps52;go_wp2_with fail;refine HC.out.mono ?_;rintro en w1 ⟨v,rfl,hown,_,hb⟩;obtain ⟨tb,tc,rfl,htb⟩:=Qpr hown HL.out.some;have HO:=Qa hown;have HB:=Qa hb;have Fz:=Qa htb;clear hown hb htb;go_wp2_with fail;go_ret;have hbb:Below w1.heap.size w1 (w1.alloc (.cells #[.slice (some ⟨tb,0,none⟩) L.length tc,.int .i64 0,.int .i64 0,.slice none 0 0,.slice none 0 0,.int .i64 0,.int .i64 0] 98)):=Qag;have hall:=Z4 HB.out hbb;have hlt:=(HO.out.lt tb rfl).2;refine ⟨w1.heap.size,⟨tb,tc,.slice none 0 0,.slice none 0 0,λ_=>False⟩,rfl,⟨⟨Held.new w1 _ _,?_,?_,Fz.out,?_,⟨rfl,.inl ⟨rfl,rfl⟩⟩,⟨rfl,.inl ⟨rfl,rfl⟩⟩,(λx hx=>by cases hx),(λx hx=>by cases hx),HB.out.size,HL.out.fin,HL.out.many,HT.out.keep (λk hk=>hall.block k (by have:=HT.out.size;omega)),HT.out.size,(λk hk=>hk.elim)⟩,rfl,HL.out.some,Vh _,(λx hx=>by cases hx)⟩,hall⟩
 ·intro j u hj;have h1:=HO.out.cells (g:=tb) rfl j u hj;rw [Qef]at h1;have h2:=hbb.cell (p:=⟨tb,j,none⟩) hlt;rw [Bq];exact h2.trans h1
 ·exact Fe hlt hbb.size
 ·rcases HO.out.2 with ⟨h1,_⟩ |⟨g',cap,cur,h1,_,h3,_⟩
  ·cases h1
  ·injection h1 with h1
   injection h1 with h1
   injection h1 with h1
   subst h1;exact ⟨cur,(0,0),(hbb.block _ hlt).trans h3⟩
variable {B g:Nat}{L:List Tk}{w:World}{R:Bx}{p:Nat}{d e q:Int}{l:List Nd}{h:List Nat}
theorem Uw {w V:World} {A:Nat} {t:TypeId} {a0 b0:Value} (h:Held V A t #[a0,b0]) (hb:Below w.heap.size w V) (hA:w.heap.size<=A) (a b:Value):
  ∃W',W'=((V.setCell ⟨A,0,none⟩ a).setCell ⟨A,1,none⟩ b)/\Held W' A t #[a,b]/\Below w.heap.size w W':=
 ⟨_,rfl,(h.set 0 _).set 1 _,(hb.setCell hA _).setCell hA _⟩
theorem Qyt (H:Rd B g L w R p d l h e q):
  Calls prog 25 #[.pointer (some ⟨g,0,none⟩)] w λen w'=>en= .returned (.agg #[.int .i64 e,.int .i64 q])/\Below w.heap.size w w':=by
 obtain ⟨W,hW⟩:=Qb (w.alloc (.cells #[.int .i64 0,.int .i64 0] 29));have HB:Hid (Below w.heap.size w W):=by rw [hW];exact Qag
 obtain ⟨G,hG⟩:=Qb w.heap.size;have HG:Hid (Held W G 29 #[.int .i64 0,.int .i64 0]):=by rw [hW,hG];exact Held.new _ _ _
 have HW:=H.below HB.out;have c5:=HW.c5;have c6:=HW.c6;have z0:W.cell? ⟨G,0,none⟩=some (.int .i64 0):=HG.out.at_ rfl;have z1:W.cell? ⟨G,1,none⟩=some (.int .i64 0):=HG.out.at_ rfl;have f0:=HG.out.frozen 0;have f1:=HG.out.frozen 1;have Fa:=Qa hG;clear H HW hG;go_enter func25,ntmps25;rw [Qz 1];go_wp2_with fail;rw [<-hW,<-Fa.out];clear hW;refine Qn ?_;go_wp2_with fail;obtain ⟨W',hW',hH,hBel⟩:=Uw HG.out HB.out (by rw [Fa.out];exact Qh _) (.int .i64 e) (.int .i64 q);rw [<-hW'];have y0:W'.cell? ⟨G,0,none⟩=some (.int .i64 e):=hH.at_ rfl;have y1:W'.cell? ⟨G,1,none⟩=some (.int .i64 q):=hH.at_ rfl;clear hW' hH;exact bodyPost_ret (v:=.agg #[.int .i64 e,.int .i64 q]) (by simp [results,results25,go_sem,y0,y1]) rfl ⟨rfl,hBel⟩
theorem Qz2 {L:List Nd} {j:Nat} (hj:j<L.length):L.drop j=nd L j::L.drop (j+1):=by rw [Uv hj];exact List.drop_eq_getElem_cons hj
theorem Wg8 {A C:List Nd} {i:Nat} (h:A.length<=i):nd (A++C) i=nd C (i-A.length):=by unfold nd;rw [Yc,Yc,Ht h]
structure Qk7 (w wr:World) (v:Value) (l Q:List Nd) (i:Nat):Prop where
 own:wr.ownsRow w.heap.size 37 5 v l.length (Ay (Q++l.drop i))
 kids: ∀x∈Q,Now w.heap.size wr (Y5 x) x.kids
 len:Q.length=i
 same:Q.map bare=(l.take i).map bare
 below:Below w.heap.size w wr
theorem Wlm {A C:List Value} {c0 c1 c2 c3 c4 x:Value} {p:Nat} (hp:p=A.length):(A++[c0,c1,c2,c3,c4]++C).set (p+1) x=A++[c0,x,c2,c3,c4]++C:=by subst hp;simp
theorem Qk7.next {w wr w1:World} {gp cp n:Nat} {l Q:List Nd} {i:Nat} {va:Option Addr} {kc:Nat} (h:Qk7 w wr (.slice (some ⟨gp,0,none⟩) n cp) l Q i) (hi:i<l.length) (hb:Below wr.heap.size wr w1) (hk:w1.ownsRow wr.heap.size 3 1 (.slice va (nd l i).kids.length kc) (nd l i).kids.length ((nd l i).kids.map (Value.int .i64))):
  Qk7 w (w1.setCell ⟨gp,i*5+1,none⟩ (.slice va (nd l i).kids.length kc)) (.slice (some ⟨gp,0,none⟩) n cp) l (Q++[⟨(nd l i).kind,va,kc,(nd l i).kids,(nd l i).n,(nd l i).s,(nd l i).at_⟩]) (i+1):=by
 have hbw:=h.below.size;have Q50:=Dr h.own hb;have hset:=Wa5 (u:=.slice va (nd l i).kids.length kc) (j:=i*5+1) Q50 (g:=gp) rfl (by omega);have gr:=Gv w1 gp (i*5+1) (.slice va (nd l i).kids.length kc);have K: ∀v xs n,w1.ownsRow w.heap.size 3 1 v n xs->(w1.setCell ⟨gp,i*5+1,none⟩ (.slice va (nd l i).kids.length kc)).ownsRow w.heap.size 3 1 v n xs:=by intro v xs n hv;refine World.ownsRow.kept hv gr ?_;have h2:=Nr hv Q50 (by decide);exact h2
 refine ⟨?_,?_,by rw [Qf,h.len];rfl,?_,?_⟩
 ·have e1:Ay (Q++l.drop i)=Ay Q++[.int .i64 (nd l i).kind,.slice (nd l i).ka (nd l i).kids.length (nd l i).kc,.int .i64 (nd l i).n,.string (nd l i).s,.int .i64 (nd l i).at_]++Ay (l.drop (i+1)):=by rw [Qz2 hi,Qfv,show nd l i::l.drop (i+1)=[nd l i]++l.drop (i+1)from rfl,Qfv,Qn8,<-Qy];rfl
  rw [e1,Wlm (by rw [Q0q,h.len])]at hset;rw [Qfv,Qfv,Qn8];exact hset
 ·intro x hx;rcases List.mem_append.1 hx with hx |hx
  ·exact K _ _ _ (Dr (h.kids x hx) hb)
  ·rw [List.mem_singleton.1 hx];exact K _ _ _ (Qb1 hk hbw)
 ·rw [Zp,h.same,List.take_add_one,Zp];congr 1;rw [Y3 hi];simp [bare,Uv hi]
 ·have hgp:=(h.own.lt gp rfl).1;exact (h.below.trans (hb.mono hbw)).setCell (p:=⟨gp,i*5+1,none⟩) hgp _
theorem Wpz (H:Rd B g L w R p d l h e q) (hl:0<l.length) (hkl: ∀x∈l,x.kids.length<=100000):
  Calls prog 26 #[.pointer (some ⟨g,0,none⟩)] w λen w'=> ∃v l',en= .returned v/\w'.ownsRow w.heap.size 37 5 v l.length (Ay l')/\l'.map bare=l.map bare/\(∀x∈l',Now w.heap.size w' (Y5 x) x.kids)/\Below w.heap.size w w':=by
 have hll:l.length<=100000:=by have:=H.few;have:=H.here;have:=H.many;omega
 have HC:=Qa (Wfb w H.own (by omega) (Wov l));have c3:=H.c3;obtain ⟨vn,L6⟩:=Qb R.vn;rw [<-L6]at c3 HC;have HH:=Qa H;have HKL:=Qa hkl;obtain ⟨n,hn⟩:=Qb l.length;have HN:=Qa hn;rw [<-hn]at hl hll;clear H hkl L6 hn;go_enter func26,ntmps26;rw [Qz 8];go_wp2_with fail;refine HC.out.mono ?_;rintro en w1 ⟨v,rfl,hown,hb⟩;obtain ⟨gp,cp,rfl,_⟩:=Qpr hown (by rw [<-HN.out];exact hl);have HST:Hid (Qk7 w w1 (.slice (some ⟨gp,0,none⟩) l.length cp) l [] 0):=⟨hown,(λx hx=>by cases hx),rfl,rfl,hb⟩;clear hown hb;rw [<-HN.out]at HST ⊢;go_wp2_with fail;go_loopw [14] (λt14 wr=> ∃(i:Nat) (Q:List Nd),i<=n/\t14= .int .i64 (i:Int)/\Hid (Qk7 w wr (.slice (some ⟨gp,0,none⟩) n cp) l Q i)) (λt14 _=>n-(intOf t14).toNat)
 case atStart=>exact ⟨0,[],by omega,rfl,HST⟩
 case round=>
  obtain ⟨i,Q,hi,rfl,HT⟩:=hrel;by_cases hin:i<n
  ·have Wiw:(i:Int)<(n:Int):=(by omega);have Xl:Hid (i<l.length):=(by show i<_;rw [<-HN.out];exact hin);obtain ⟨y,hy⟩:=Qb (nd l i);have HY:=Qa hy;have hmem:y∈l:=(by rw [hy,Uv Xl.out];exact F5 _);have HKN:=Qa (Dr (HH.out.kids y hmem) HT.out.below);have hyl:=HKL.out y hmem;have hcell:wr.cell? ⟨gp,i*5+1,none⟩=some (.slice y.ka y.kids.length y.kc):=by
    have h1:=HT.out.own.cells (g:=gp) rfl (i*5+1) (.slice y.ka y.kids.length y.kc) (by rw [Qqt _ i 1 (by rw [Qf,HT.out.len,Vf];have:=Xl.out;omega) (by decide),Wg8 (by rw [HT.out.len];exact Qh _),HT.out.len,Nat.sub_self,Qz2 Xl.out,hy];rfl);rw [Qef]at h1;exact h1
   clear hy hmem;go_wp2_with fail;refine (Q4y wr (v:=.slice y.ka y.kids.length y.kc) HKN.out (by omega) (ints_oneCell _ _)).mono ?_;rintro en w2 ⟨v2,rfl,hown2,hb2⟩;obtain ⟨ka2,kc2,rfl⟩:=Zq hown2;have HN2:=Qa (HT.out.next Xl.out hb2 (by rw [<-HY.out];exact hown2));have hfz:w2.frozen? ⟨gp,i*5+1,none⟩=false:=by have h1:=Dr HT.out.own hb2;rw [<-HN.out]at h1;exact Wmu h1 _
   have hc2:=(hb2.cell (p:=⟨gp,i*5+1,none⟩) (HT.out.own.lt gp rfl).2).trans hcell;clear hown2 hb2 hcell;go_wp2_with fail;obtain ⟨W2,hW2⟩:=Qb (w2.setCell ⟨gp,i*5+1,none⟩ (.slice ka2 y.kids.length kc2));rw [<-HY.out,<-hW2]at HN2;rw [<-hW2];clear hW2 hfz hc2;refine Qn ?_;go_wp2_with fail;go_roundw
   case rel=>exact ⟨i+1,_,by omega,by go_num,HN2⟩
   case measure=>simp [intOf];omega
  ·obtain rfl:i=n:=(by omega);go_wp2_with fail;go_ret;refine ⟨_,Q,rfl,?_,?_,HT.out.kids,HT.out.below⟩
   ·have:=HT.out.own;rw [Qla (by rw [<-HN.out];exact Qh _),Xe]at this;rw [<-HN.out]at this ⊢;exact this
   ·rw [HT.out.same,F6 (by rw [<-HN.out];exact Qh _)]
end
section
open Go.RowKit
def Given (w w':World) (v:Value) (l:List Nd):Prop:= ∃l',w'.ownsRow w.heap.size 37 5 v l'.length (Ay l')/\l'.map bare=l/\ ∀x∈l',Now w.heap.size w' (Y5 x) x.kids
variable {B g:Nat}{L:List Tk}{w:World}{R:Bx}{d:Nat}{s:PS}{f:Qq}
theorem Wde (H:Bad B g L w R d f):
  Calls prog 25 #[.pointer (some ⟨g,0,none⟩)] w λen w'=>en= .returned (.agg #[.int .i64 (f.1:Int),.int .i64 (f.2:Int)])/\Below w.heap.size w w':=by
 obtain ⟨p,l,h,H,_⟩:=H;exact Qyt H
theorem Wru (H:Bad B g L w R d f):
  Calls prog 99 #[.pointer (some ⟨g,0,none⟩)] w λen w'=>en= .returned (.bool true)/\w'=w:=by
 obtain ⟨p,l,h,H,hf⟩:=H;exact Qe3 H (by omega)
theorem Wcz (x a:Nat) (hx:x≠0) (H:Bad B g L w R d f):
  Calls prog 60 #[.pointer (some ⟨g,0,none⟩),.int .i64 (x:Int),.int .i64 (a:Int)] w λen w'=>(∃v,en= .returned v)/\w'=w:=by
 obtain ⟨p,l,h,H,hf⟩:=H;exact Qhh _ _ H (by omega) (by omega)
theorem Wbp (H:Good B g L w R d s) (hl:0<s.l.length) (hk: ∀x∈s.l,x.kids.length<=100000):
  Calls prog 26 #[.pointer (some ⟨g,0,none⟩)] w λen w'=> ∃v,en= .returned v/\Given w w' v s.l/\Below w.heap.size w w':=by
 obtain ⟨p,l,H,_,hls⟩:=H;refine (Wpz H (by rw [hls,Zr]at hl;exact hl) (λx hx=>hk (bare x) (by rw [hls];exact List.mem_map_of_mem hx))).mono ?_;rintro en w' ⟨v,l',h1,h2,h3,h4,h5⟩;have hlen:l'.length=l.length:=by have:=congrArg List.length h3;simpa using this
 exact ⟨v,h1,⟨l',by rw [hlen];exact h2,by rw [hls];exact h3,h4⟩,h5⟩
theorem Given.base {w0 w w':World} {v:Value} {l:List Nd} (h:Given w w' v l) (hb:w0.heap.size<=w.heap.size):Given w0 w' v l:=by obtain ⟨l',h1,h2,h3⟩:=h;exact ⟨l',Qb1 h1 hb,h2,λx hx=>Qb1 (h3 x hx) hb⟩
end
end Go.Proofs.YtdncpkkhkbijfaaGreatDoor
