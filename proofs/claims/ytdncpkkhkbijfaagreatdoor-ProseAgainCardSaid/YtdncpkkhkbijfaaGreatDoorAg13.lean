import Derived.Test.YtdncpkkhkbijfaaGreatDoorAg12
open Go.Proofs.Tryz
set_option linter.all false
set_option maxHeartbeats 0
set_option maxRecDepth 100000
namespace Go.Proofs.YtdncpkkhkbijfaaGreatDoor
section
open Go.RowKit
variable {B g:Nat}{L:List Tk}
theorem Fr.right {g:Nat} {w w':World} {R R':Bx} (F:Fr g w w' R R') (Z':Nat->Prop):Fr g w w' R {R' with Z:=Z'}:=⟨F.os,F.tape,F.output,F.size,F.block,F.vn,F.vh⟩
theorem Whg {w w2 w3:World} {R R2:Bx} {d:Nat} {s2:PS} {t3 v3:Value} {acc:List Int} {k:Int} {cs:Array Value} (HS:Good B g L w2 R2 d s2) (HF:Fr g w w2 R R2) (hZ:R2.Z=λk=>R.Z k\/t3.ownBlock=some k) (hN:Now w.heap.size w2 t3 acc) (hb:Vw<=w.heap.size)
  (h3:Now w.heap.size w3 v3 (acc++[k])) (hg:(w2.alloc (.cells cs 3)).grownBy w3 t3.ownBlock) (hw: ∀k,v3.ownBlock=some k->t3.ownBlock=some k\/k=(w2.alloc (.cells cs 3)).heap.size):
  ∃R3,(R3.Z=λk=>R.Z k\/v3.ownBlock=some k)/\Good B g L w3 R3 d s2/\Fr g w w3 R R3:=by
 have hB:Below w2.heap.size w2 (w2.alloc (.cells cs 3)):=Qag;have hv:=Dr hN hB;refine ⟨{R2 with Z:=λk=>R.Z k\/v3.ownBlock=some k},rfl,HS.wider hB hv hb (λk hk=>by rw [hZ];exact .inr hk) hg _ (λk hk=> ?_),Qmb HF hB hv hg _⟩;rcases hk with hk |hk
 ·exact .inl (by rw [hZ];exact .inl hk)
 ·rcases hw k hk with h1 |h1
  ·exact .inl (by rw [hZ];exact .inr h1)
  ·exact .inr ⟨by rw [h1];simp,(World.ownsRow.lt h3 k hk).2⟩
theorem Q2l {w w2 w3:World} {R R2:Bx} {d:Nat} {f:Qq} {t3:Value} {acc:List Int} {cs:Array Value} (HS:Bad B g L w2 R2 d f) (HF:Fr g w w2 R R2) (hZ:R2.Z=λk=>R.Z k\/t3.ownBlock=some k) (hN:Now w.heap.size w2 t3 acc) (hb:Vw<=w.heap.size)
  (hg:(w2.alloc (.cells cs 3)).grownBy w3 t3.ownBlock): ∃R3,R3.Z=R.Z/\Bad B g L w3 R3 d f/\Fr g w w3 R R3:=by
 have hB:Below w2.heap.size w2 (w2.alloc (.cells cs 3)):=Qag;have hv:=Dr hN hB;exact ⟨{R2 with Z:=R.Z},rfl,(HS.foreign hB hv hb (λk hk=>by rw [hZ];exact .inr hk) hg).less _ (λk hk=>by rw [hZ];exact .inl hk),Qmb HF hB hv hg _⟩
theorem Wid {M:Nat} (hE:U3 B g L M) (w:World) (R:Bx) (d:Nat) (s:PS) (H:Good B g L w R d s) (hd:d<=200) (hM:s.r.length<=M):
  Calls prog 159 #[.pointer (some ⟨g,0,none⟩)] w (Wrl B g L w R d s):=by
 have HE:=Qa hE;have HH:=Qa H;have HM:=Qa hM;have HTS:Hid (Vw<=w.heap.size):=H.tabs.size;have Xp:=Xm;clear H hE hM;go_enter func159,ntmps159;go_wp2_with fail;refine (Qhp rp HH.out).mono ?_;rintro en w1 ⟨rfl,hb⟩;have HB:=Qa hb;clear hb;cases hr:s.is rp with
 |true=>
  have HR:=Qa hr;clear hr;go_wp2_with fail;go_ret;exact ⟨{R with Z:=λk=>R.Z k\/(Value.slice none 0 0).ownBlock=some k},(Fr.of_below R HB.out).right _,.inl ⟨[],s,_,rfl,⟨rfl,.inl ⟨rfl,rfl⟩⟩,by simp,rfl,(HH.out.below HB.out).less _ (λk hk=>hk.elim id (λh=>by simp [Value.ownBlock]at h)),.inl ⟨HR.out,rfl,rfl⟩⟩⟩
 |false=>
  have HR:=Qa hr;clear hr;go_wp2_with fail;go_loopw [3,4] (λt3 t4 wr=>Hid (Wq8 B g L w R d s t3 t4 wr)) (λ_ t4 wr=>Io t4*(1+lam g L.length wr))
  case atStart=>exact ⟨{R with Z:=λk=>R.Z k\/(Value.slice none 0 0).ownBlock=some k},(Fr.of_below R HB.out).right _,.inl ⟨[],s,rfl,⟨rfl,.inl ⟨rfl,rfl⟩⟩,by simp,rfl,(HH.out.below HB.out).less _ (λk hk=>hk.elim id (λh=>by simp [Value.ownBlock]at h)),Qh _,λv h=>h⟩⟩
  case round=>
   obtain ⟨R1,hF,hst⟩:=hrel.out;rcases hst with ⟨acc,s1,rfl,hN,hlen,hZ,hG,hle,hcont⟩ |⟨l,s',rfl,hN,hlen,hZ,hG,hrd⟩ |⟨f,a,n,c,rfl,rfl,hZ,hG,hrd⟩
   ·have HF:=Qa hF;have HN:=Qa hN;have HZ:=Qa hZ;have HS:=Qa hG;have Z9:=Qa hle;have HC:=Qa hcont;have J2:=Qa hG.lam;obtain ⟨ta,tc,rfl⟩:=Zq hN;obtain ⟨A,hA⟩:=Qb acc.length;have HA:=Qa hA;rw [<-hA]at hlen;clear hrel hF hN hZ hG hle hcont;have HZK:Hid (∀k,(Value.slice ta acc.length tc).ownBlock=some k->R1.Z k):=λk hk=>(by rw [HZ.out];exact .inr hk);have HWB:Hid (w.heap.size<=wr.heap.size):=HF.out.size;rw [<-hA]at HN HZ HZK ⊢;clear hA;by_cases h8:A=8
    ·have h8i:((A:Int)==8)=true:=(by simp;omega);have Cx:Hid (acc.length=8):=(by show _=_;rw [<-HA.out];exact h8);clear h8;go_wp2_with fail;refine (Qbx HS.out).mono ?_;rintro en w2 ⟨rfl,hb⟩;have HS2:=Qa (HS.out.below hb);have O9:=Qa (Fr.of_below (g:=g) R1 hb);clear hb;go_wp2_with fail;refine (Q6t 3 s1.tok.place (by decide) HS2.out).mono ?_;rintro en w3 ⟨⟨v,rfl⟩,hg,hf⟩;have Sz:=Qa hg;have HF3:=Qa (O9.out.trans hf);clear hg hf;go_wp2_with fail;refine (Qi9 Sz.out).mono ?_;rintro en w4 ⟨rfl,hb⟩;have Le:=Qa (Sz.out.below hb);have Ez:=Qa (HF3.out.trans (Fr.of_below _ hb));clear hb;have HN4:=Qa (HN.out.keep HS.out HZK.out Ez.out);have hB4:w.heap.size<=w4.heap.size:=(by have:=HWB.out;have:=Ez.out.size;omega);go_wp2_with (at_builtin;refine Hf rfl (.tmp 18) (.tmp 21) rfl w.heap.size w4 (.slice ta A tc) acc (-1) rfl rfl HN4.out hB4 (by have:=HA.out;omega) ?_;intro v5 w5 Aj hg5 K8;obtain ⟨ga,gc,hv5⟩:=Zq Aj;have HP:=Qa (Q2l Le.out (HF.out.trans Ez.out) HZ.out HN4.out HTS.out hg5);clear Aj hg5 K8;subst hv5);obtain ⟨R5,hz5,hb5,hf5⟩:=HP.out;have Gm:=Qa hb5;have Me:=Qa hf5;have O8:=Qa hz5;clear HP hz5 hb5 hf5;go_wp2_with fail;refine (Nz comma Gm.out).mono ?_;rintro en w6 ⟨rfl,hb⟩;have Sl:=Qa (Gm.out.below hb);have Ph:=Qa (Me.out.trans (Fr.of_below _ hb));clear hb;go_wp2_with fail;go_roundw
     case rel=>exact ⟨R5,Ph.out,.inr (.inr ⟨_,_,_,_,rfl,rfl,O8.out,Sl.out,HC.out _ (Reads.Qyq Cx.out)⟩)⟩
     case measure=>show 0*_<1*_;rw [J2.out];omega
    ·have h8i:((A:Int)==8)=false:=(by simp;omega);have Cx:Hid (acc.length≠8):=(by show _≠_;rw [<-HA.out];exact h8);go_wp2_with fail;refine (HE.out _ _ _ _ HS.out hd (by have:=Z9.out;have:=HM.out;omega)).mono ?_;rintro en w4 ⟨v,hrd,R4,hf,hz,hv⟩;have Q0:=Qa hrd;have Ez:=Qa hf;have HZ4:Hid (R4.Z=λk=>R.Z k\/(Value.slice ta A tc).ownBlock=some k):=hz.trans HZ.out;have HN4:=Qa (HN.out.keep HS.out HZK.out Ez.out);have hB4:w.heap.size<=w4.heap.size:=(by have:=HWB.out;have:=Ez.out.size;omega);clear hrd hf hz;rcases hv with ⟨k,s2,rfl,rfl,hg⟩ |⟨f,rfl,rfl,hg⟩
     ·have Le:=Qa hg;have HSL:=Qa Q0.out.N7;clear hg;go_wp2_with (at_builtin;refine Hf rfl (.tmp 18) (.tmp 21) rfl w.heap.size w4 (.slice ta A tc) acc k rfl rfl HN4.out hB4 (by have:=HA.out;omega) ?_;intro v5 w5 Aj hg5 K8;obtain ⟨ga,gc,hv5⟩:=Zq Aj;rw [Qf,Yw]at hv5;have HP:=Qa (Whg Le.out (HF.out.trans Ez.out) HZ4.out HN4.out HTS.out Aj hg5 K8);have HR5:=Qa Aj;clear Aj hg5 K8;subst hv5);obtain ⟨R5,hz5,hb5,hf5⟩:=HP.out;have Gm:=Qa hb5;have Me:=Qa hf5;have O8:=Qa hz5;have Dn:Hid ((acc++[k]).length<=8):=(by show _<=_;rw [Qf,<-HA.out];show A+1<=8;omega);clear HP hz5 hb5 hf5;go_wp2_with fail;have Q3o:Hid (∀j,(Value.slice ga (acc.length+1) gc).ownBlock=some j->R5.Z j):=λj hj=>(by rw [O8.out];exact .inr hj);cases hc:s2.is comma with
      |true=>
       have HCM:=Qa hc;clear hc;refine (Qbh comma Gm.out HCM.out).mono ?_;rintro en w6 ⟨rfl,hg,hf⟩;have Sl:=Qa hg;have Ph:=Qa (Me.out.trans hf);have Mh:=Qa (HR5.out.keep Gm.out Q3o.out hf);have HL6:=Qa hg.lam;have Yi:=Qa (Ve HCM.out);clear hg hf;go_wp2_with fail;go_roundw
       case rel=>exact ⟨R5,Ph.out,.inl ⟨acc++[k],s2.next,rfl,Mh.out,Dn.out,O8.out,Sl.out,by have:=Yi.out;have:=HSL.out;have:=Z9.out;omega,λv h=>HC.out _ (Reads.Qwl Cx.out Q0.out HCM.out h)⟩⟩
       case measure=>show 1*(1+lam g L.length w6)<1*(1+lam g L.length _);rw [J2.out,HL6.out];have:=Yi.out;have:=HSL.out;omega
      |false=>
       have HCM:=Qa hc;clear hc;refine (Qbi comma Gm.out HCM.out).mono ?_;rintro en w6 ⟨rfl,hb⟩;have Sl:=Qa (Gm.out.below hb);have Ph:=Qa (Me.out.trans (Fr.of_below _ hb));have Mh:=Qa (HR5.out.keep Gm.out Q3o.out (Fr.of_below R5 hb));clear hb;go_wp2_with fail;go_roundw
       case rel=>exact ⟨R5,Ph.out,.inr (.inl ⟨acc++[k],s2,rfl,Mh.out,Dn.out,O8.out,Sl.out,HC.out _ (Reads.Q2k Cx.out Q0.out HCM.out)⟩)⟩
       case measure=>show 0*_<1*_;rw [J2.out];omega
     ·have Le:=Qa hg;clear hg;go_wp2_with (at_builtin;refine Hf rfl (.tmp 18) (.tmp 21) rfl w.heap.size w4 (.slice ta A tc) acc (-1) rfl rfl HN4.out hB4 (by have:=HA.out;omega) ?_;intro v5 w5 Aj hg5 K8;obtain ⟨ga,gc,hv5⟩:=Zq Aj;have HP:=Qa (Q2l Le.out (HF.out.trans Ez.out) HZ4.out HN4.out HTS.out hg5);clear Aj hg5 K8;subst hv5);obtain ⟨R5,hz5,hb5,hf5⟩:=HP.out;have Gm:=Qa hb5;have Me:=Qa hf5;have O8:=Qa hz5;clear HP hz5 hb5 hf5;go_wp2_with fail;refine (Nz comma Gm.out).mono ?_;rintro en w6 ⟨rfl,hb⟩;have Sl:=Qa (Gm.out.below hb);have Ph:=Qa (Me.out.trans (Fr.of_below _ hb));clear hb;go_wp2_with fail;go_roundw
      case rel=>exact ⟨R5,Ph.out,.inr (.inr ⟨_,_,_,_,rfl,rfl,O8.out,Sl.out,HC.out _ (Reads.Wmh Cx.out Q0.out)⟩)⟩
      case measure=>show 0*_<1*_;rw [J2.out];omega
   ·have HF:=Qa hF;have HN:=Qa hN;have HZ:=Qa hZ;have HS:=Qa hG;have Q0:=Qa hrd;have Yk:=Qa hlen;clear hrel hF hN hZ hG hrd hlen;go_wp2_with fail;go_ret;exact ⟨R1,HF.out,.inl ⟨l,s',_,rfl,HN.out,Yk.out,HZ.out,HS.out,.inr ⟨HR.out,Q0.out⟩⟩⟩
   ·have HF:=Qa hF;have HZ:=Qa hZ;have HS:=Qa hG;have Q0:=Qa hrd;clear hrel hF hZ hG hrd;go_wp2_with fail;go_ret;exact ⟨R1,HF.out,.inr ⟨f,a,n,c,HR.out,Q0.out,rfl,HZ.out,HS.out⟩⟩
theorem Q1b {M:Nat} (hE:U3 B g L M) (nm:ByteArray) (A:Nat) (w:World) (R:Bx) (d:Nat) (s:PS) (H:Good B g L w R d s) (hd:d<=200) (hM:s.r.length<=M+1):
  Calls prog 154 #[.pointer (some ⟨g,0,none⟩),.string nm,.int .i64 (A:Int)] w (Post B g L (.call nm A) w R d s):=by
 have HE:=Qa hE;have HS:=Qa H;have K9:=Qa H.size;have HM:=Qa hM;have HF:Hid (Fr g w w R R):=Fr.of_below R (Below.refl _ _);have Xp:=Xm;clear H hE hM;go_enter func154,ntmps154;rw [Qz 7];go_wp2_with fail;refine (Qbx HS.out).mono ?_;rintro en v1 ⟨rfl,hb⟩;replace HS:=Qa (HS.out.below hb);replace HF:=Qa (HF.out.trans (Fr.of_below _ hb));clear hb;go_wp2_with fail;cases ha:s.is lp with
 |false=>
  have HA:=Qa ha;clear ha;refine (Qg5 lp HS.out HA.out).mono ?_;rintro en v2 ⟨rfl,hg,hf⟩;replace HS:=Qa hg;replace HF:=Qa (HF.out.trans hf);clear hg hf;go_wp2_with fail;refine (Qu7 s.tok.place HS.out (by omega)).mono ?_;rintro en v3 ⟨rfl,hg,hf⟩;replace HS:=Qa hg;replace HF:=Qa (HF.out.trans hf);clear hg hf;go_wp2_with fail;refine (Q7d HS.out).mono ?_;rintro en v4 ⟨⟨a,n,c,rfl⟩,hb⟩;replace HS:=Qa (HS.out.below hb);replace HF:=Qa (HF.out.trans (Fr.of_below _ hb));clear hb;go_wp2_with fail;refine (Qe4 rp HS.out).mono ?_;rintro en v5 ⟨rfl,hb⟩;replace HS:=Qa (HS.out.below hb);replace HF:=Qa (HF.out.trans (Fr.of_below _ hb));clear hb;go_wp2_with fail;refine (Pg HS.out (by omega)).mono ?_;rintro en v6 ⟨⟨v,rfl⟩,hg,hf⟩;replace HS:=Qa hg;replace HF:=Qa (HF.out.trans hf);clear hg hf;go_wp2_with fail;refine Qn ?_;go_wp2_with fail;refine (Mx _ _ _ _ _ HS.out).mono ?_;rintro en v7 ⟨rfl,hb⟩;replace HS:=Qa (HS.out.below hb);replace HF:=Qa (HF.out.trans (Fr.of_below _ hb));clear hb;go_wp2_with fail;go_ret;exact ⟨_,Reads.Wap HA.out,_,HF.out,rfl,.inr ⟨_,rfl,rfl,HS.out⟩⟩
 |true=>
  have HA:=Qa ha;clear ha;have Yi:=Qa (Ve HA.out);refine (Qj2 lp HS.out HA.out).mono ?_;rintro en v8 ⟨rfl,hg,hf⟩;replace HS:=Qa hg;replace HF:=Qa (HF.out.trans hf);clear hg hf;go_wp2_with fail;by_cases Qb6:200<=d
  ·have HD:=Qa Qb6;refine (Qm7 s.tok.place HS.out Qb6 (by omega)).mono ?_;rintro en v9 ⟨rfl,hg,hf⟩;replace HS:=Qa hg;replace HF:=Qa (HF.out.trans hf);clear hg hf;go_wp2_with fail;refine (Q7d HS.out).mono ?_;rintro en v10 ⟨⟨a,n,c,rfl⟩,hb⟩;replace HS:=Qa (HS.out.below hb);replace HF:=Qa (HF.out.trans (Fr.of_below _ hb));clear hb;go_wp2_with fail;refine (Qe4 rp HS.out).mono ?_;rintro en v11 ⟨rfl,hb⟩;replace HS:=Qa (HS.out.below hb);replace HF:=Qa (HF.out.trans (Fr.of_below _ hb));clear hb;go_wp2_with fail;refine (Pg HS.out (by omega)).mono ?_;rintro en v12 ⟨⟨v,rfl⟩,hg,hf⟩;replace HS:=Qa hg;replace HF:=Qa (HF.out.trans hf);clear hg hf;go_wp2_with fail;refine Qn ?_;go_wp2_with fail;refine (Mx _ _ _ _ _ HS.out).mono ?_;rintro en v13 ⟨rfl,hb⟩;replace HS:=Qa (HS.out.below hb);replace HF:=Qa (HF.out.trans (Fr.of_below _ hb));clear hb;go_wp2_with fail;go_ret;exact ⟨_,Reads.Whf HA.out HD.out,_,HF.out,rfl,.inr ⟨_,rfl,rfl,HS.out⟩⟩
  ·have hlt:d<200:=(by omega);refine (Qlu s.tok.place HS.out hlt).mono ?_;rintro en v14 ⟨rfl,hg,hf⟩;replace HS:=Qa hg;replace HF:=Qa (HF.out.trans hf);clear hg hf;go_wp2_with fail;refine (Wid HE.out _ _ _ _ HS.out (by omega) (by have:=Yi.out;have:=HM.out;omega)).mono ?_;rintro en x1 ⟨R1,hf,hv⟩;replace HF:=Qa (HF.out.trans hf);clear hf;rcases hv with ⟨l,s1,v,rfl,hN,hl,hZ,hG,hrd⟩ |⟨f,a,n,c,hr,hrd,rfl,hZ,hG⟩
   ·obtain ⟨ta,tc,rfl⟩:=Zq hN;have HN:=Qa hN;have HL:=Qa hl;have HZ:=Qa hZ;have HZK:Hid (∀k,(Value.slice ta l.length tc).ownBlock=some k->R1.Z k):=λk hk=>(by rw [HZ.out];exact .inr hk);have Q0:=Qa hrd;replace HS:=Qa hG;have HSL:Hid (s1.l.length+s1.r.length+1<=s.l.length+s.r.length):=by
     have h0:=Yi.out;have e:s.next.l=s.l:=rfl;rcases Q0.out with ⟨_,_,h1⟩ |⟨_,h1⟩
     ·show _<=_;rw [h1,e];omega
     ·have h2:=h1.N7;rw [e]at h2;show _<=_;omega
    clear hN hl hZ hrd hG;go_wp2_with fail;cases hb:s1.is rp with
    |true=>
     have Yx:=Qa hb;have HNY:=Qa (Ve hb);clear hb;refine (Qj2 rp HS.out Yx.out).mono ?_;rintro en v15 ⟨rfl,hg,hf⟩;replace HN:=Qa (HN.out.keep HS.out HZK.out hf);replace HS:=Qa hg;replace HF:=Qa (HF.out.trans hf);clear hg hf;go_wp2_with fail;refine (Qnm HS.out (by omega)).mono ?_;rintro en v16 ⟨⟨v,rfl⟩,hg,hf⟩;replace HN:=Qa (HN.out.keep HS.out HZK.out hf);replace HS:=Qa hg;replace HF:=Qa (HF.out.trans hf);clear hg hf;go_wp2_with fail;refine Qn ?_;go_wp2_with fail;refine (Qey (B':=_) ⟨11,ta,tc,l,0,nm,(A:Int)⟩ A HS.out HN.out (by have:=HSL.out;have:=HNY.out;have:=K9.out;have e:s1.next.l=s1.l:=rfl;rw [e];omega) (by have:=HL.out;show l.length<=100000;omega) rfl).mono ?_;rintro en x2 ⟨R2,hf2,hz2,hv2⟩;have O9:=Qa ((HF.out.trans hf2).right R.Z);have HZ2:Hid (∀k,R.Z k->R2.Z k):=λk hk=>(by rw [hz2,HZ.out];exact .inl hk);have Qm3:Hid (Reads (.call nm A) d s (lay (En 11 l 0 nm A) s1.next)):=by
      rcases Q0.out with ⟨h1,h2,h3⟩ |⟨h1,h2⟩
      ·rw [h2,h3];exact Reads.Q1y HA.out hlt h1
      ·exact Reads.Q2b HA.out hlt h1 h2 Yx.out
     clear hf2 hz2;rcases hv2 with ⟨k2,s2,Y2,rfl,hg⟩ |⟨f,Y2,rfl,hg⟩
     ·have M5:=Qa Y2;have HG:=Qa (hg.less R.Z HZ2.out);clear Y2 hg;go_wp2_with fail;go_ret;exact ⟨_,Qm3.out,_,O9.out,rfl,.inl ⟨k2,s2,M5.out,rfl,HG.out⟩⟩
     ·have M5:=Qa Y2;have HG:=Qa (hg.less R.Z HZ2.out);clear Y2 hg;go_wp2_with fail;go_ret;exact ⟨_,Qm3.out,_,O9.out,rfl,.inr ⟨f,M5.out,rfl,HG.out⟩⟩
    |false=>
     have Yx:=Qa hb;clear hb;have Qm3:Hid (Reads (.call nm A) d s (.error (8,s1.tok.place))):=by
      rcases Q0.out with ⟨h1,h2,h3⟩ |⟨h1,h2⟩
      ·have:=Yx.out;rw [h3,h1]at this;cases this
      ·exact Reads.Q9r HA.out hlt h1 h2 Yx.out
     refine (Qg5 rp HS.out Yx.out).mono ?_;rintro en v17 ⟨rfl,hg,hf⟩;replace HS:=Qa hg;replace HF:=Qa (HF.out.trans hf);clear hg hf;go_wp2_with fail;refine (Pg HS.out (by omega)).mono ?_;rintro en v18 ⟨⟨v,rfl⟩,hg,hf⟩;replace HS:=Qa hg;replace HF:=Qa (HF.out.trans hf);clear hg hf;go_wp2_with fail;refine Qn ?_;go_wp2_with fail;refine (Mx _ _ _ _ _ HS.out).mono ?_;rintro en v19 ⟨rfl,hb⟩;replace HS:=Qa (HS.out.below hb);replace HF:=Qa (HF.out.trans (Fr.of_below _ hb));clear hb;go_wp2_with fail;go_ret;exact ⟨_,Qm3.out,_,HF.out.right R.Z,rfl,.inr ⟨_,rfl,rfl,HS.out.less R.Z (λk hk=>by rw [HZ.out];exact .inl hk)⟩⟩
   ·have Q0:=Qa hrd;have HRR:=Qa hr;have HZ:=Qa hZ;replace HS:=Qa hG;clear hr hrd hZ hG;go_wp2_with fail;refine (Qe4 rp HS.out).mono ?_;rintro en v20 ⟨rfl,hb⟩;replace HS:=Qa (HS.out.below hb);replace HF:=Qa (HF.out.trans (Fr.of_below _ hb));clear hb;go_wp2_with fail;refine (Pg HS.out (by omega)).mono ?_;rintro en v21 ⟨⟨v,rfl⟩,hg,hf⟩;replace HS:=Qa hg;replace HF:=Qa (HF.out.trans hf);clear hg hf;go_wp2_with fail;refine Qn ?_;go_wp2_with fail;refine (Mx _ _ _ _ _ HS.out).mono ?_;rintro en v22 ⟨rfl,hb⟩;replace HS:=Qa (HS.out.below hb);replace HF:=Qa (HF.out.trans (Fr.of_below _ hb));clear hb;go_wp2_with fail;go_ret;exact ⟨_,Reads.Wn6 HA.out hlt HRR.out Q0.out,_,HF.out,HZ.out,.inr ⟨_,rfl,rfl,HS.out⟩⟩
end
section
open Go.RowKit
variable {B g:Nat}{L:List Tk}
theorem Wjf {t:Tk} (h1:sees t lp=false) (h2:sees t Bz=false) (h3:sees t Cv=false) (h4:sees t Di=false) (h5:sees t Ky=false) (h6:sees t Ah=false):sg t=if t.kind=2 then 7 else if t.kind=1 then 8 else 0:=by unfold sg;simp [h1,h2,h3,h4,h5,h6]
theorem Qkj {w:World} {R:Bx} {d:Nat} {s:PS} (K n:Int) (nm:ByteArray) (A:Nat) (H:Good B g L w R d s) (hf:s.l.length+s.r.length<=L.length):
  Calls prog 63 #[.pointer (some ⟨g,0,none⟩),.agg #[.int .i64 K,.slice none 0 0,.int .i64 n,.string nm,.int .i64 (A:Int)]] w (Ends B g L w R d (lay (En K [] n nm A) s)):=
 Qey (B':=w.heap.size) ⟨K,none,0,[],n,nm,(A:Int)⟩ A H ⟨rfl,.inl ⟨rfl,rfl⟩⟩ hf (by simp) rfl
theorem Ends.trans {w w1 w':World} {R R1:Bx} {d:Nat} {v:Out} {en:Ending} (F:Fr g w w1 R R1) (hz:R1.Z=R.Z) (h:Ends B g L w1 R1 d v en w'):Ends B g L w R d v en w':=by obtain ⟨R2,hf,hz2,h⟩:=h;exact ⟨R2,F.trans hf,hz2.trans hz,h⟩
theorem Ends.val {w w':World} {R:Bx} {d:Nat} {v:Out} {en:Ending} (h:Ends B g L w R d v en w'): ∃k,en= .returned (.int .i64 k):=by
 obtain ⟨R2,_,_,⟨k,s',_,rfl,_⟩ |⟨f,_,rfl,_⟩⟩:=h
 ·exact ⟨_,rfl⟩
 ·exact ⟨_,rfl⟩
theorem Whs {M:Nat} (hE:U3 B g L M) (w:World) (R:Bx) (d:Nat) (s:PS) (H:Good B g L w R d s) (hd:d<=200) (hM:s.r.length<=M+1):
  Calls prog 158 #[.pointer (some ⟨g,0,none⟩)] w (Post B g L .single w R d s):=by
 have HE:=Qa hE;have HI:=Qa (Qrh hE);have K9:=Qa H.size;have HS:=Qa H;have HM:=Qa hM;have J6:=Qa (Qbx H);clear H hE hM;obtain ⟨K,hK⟩:=Qb s.tok.kind;obtain ⟨X,hX⟩:=Qb (⟨s.tok.text.toArray⟩:ByteArray);obtain ⟨N,hN⟩:=Qb s.tok.n;obtain ⟨A,hA⟩:=Qb s.tok.place;rw [<-hK,<-hX,<-hN,<-hA]at J6;have HK:=Qa hK;have HX:=Qa hX;have HN:=Qa hN;have HA:=Qa hA;clear hK hX hN hA;go_enter func158,ntmps158;rw [Qz 2,Qz 14,Qz 15,Qz 16,Qz 5,Qz 7,Qz 9,Qz 11,Qz 13,Qz 19,Qz 20];go_wp2_with fail;refine J6.out.mono ?_;rintro en w1 ⟨rfl,hb1⟩;have HB1:=Qa hb1;clear hb1;go_wp2_with fail;obtain ⟨W,hW⟩:=Qb (w1.alloc (.cells #[.int .i64 (K:Int),.string X,.int .i64 (N:Int),.int .i64 (A:Int)] 69));obtain ⟨G,hG⟩:=Qb w1.heap.size;have HG:Hid (Held W G 69 #[.int .i64 (K:Int),.string X,.int .i64 (N:Int),.int .i64 (A:Int)]):=by rw [hW,hG];exact Held.new _ _ _
 have HB:Hid (Below w.heap.size w W):=by rw [hW];exact HB1.out.alloc HB1.out.size _
 rw [<-hW,<-hG];clear hW hG HB1;replace HS:=Qa (HS.out.below HB.out);have HF:Hid (Fr g w W R R):=Fr.of_below R HB.out;refine Qn ?_;go_wp2_with fail;refine (Qhp lp HS.out).mono ?_;rintro en v1 ⟨rfl,hb⟩;replace HG:=Qa (HG.out.since hb);replace HS:=Qa (HS.out.below hb);replace HF:=Qa (HF.out.trans (Fr.of_below _ hb));clear hb;cases h1:s.is lp with
 |true=>
  have HC:=Qa h1;clear h1;go_wp2_with fail;refine (HI.out lp rp _ _ _ _ HS.out hd HM.out).mono ?_;rintro en x9 ⟨v,hrd,Yy⟩;obtain ⟨k9,rfl⟩:=Yy.val;have Vy:=Qa (Yy.trans HF.out rfl);have Q0:=Qa hrd;clear Yy hrd;go_wp2_with fail;go_ret;exact ⟨_,Reads.Qw2 (by unfold sg;exact Qk HC.out) Q0.out,Vy.out⟩
 |false=>
  have H1:=Qa h1;clear h1;go_wp2_with fail;cases hc:s.is Bz with
  |true=>
   have HC:=Qa hc;clear hc;refine (Qbh Bz HS.out HC.out).mono ?_;rintro en v2 ⟨rfl,hg,hf⟩;replace HG:=Qa (HS.out.held hf HG.out (by decide) (by decide) (by decide));replace HS:=Qa hg;replace HF:=Qa (HF.out.trans hf);clear hg hf;have z3:=HG.out.t3;have Yi:=Qa (Ve HC.out);go_wp2_with fail;refine Qn ?_;go_wp2_with fail;refine (Qkj 2 1 ⟨#[]⟩ A HS.out (by have:=K9.out;have:=Yi.out;have e:s.next.l=s.l:=rfl;rw [e];omega)).mono ?_;rintro en x9 Yy;obtain ⟨k9,rfl⟩:=Yy.val;have Vy:=Qa (Yy.trans HF.out rfl);clear Yy;go_wp2_with fail;go_ret;exact ⟨_,(by rw [HA.out];exact Reads.Qsj (by unfold sg;rw [Qd (by have:=H1.out;unfold PS.is at this;rw [this];decide)];exact Qk HC.out)),Vy.out⟩
  |false=>
   have H2:=Qa hc;clear hc;refine (Qbi Bz HS.out H2.out).mono ?_;rintro en v3 ⟨rfl,hb⟩;replace HG:=Qa (HG.out.since hb);replace HS:=Qa (HS.out.below hb);replace HF:=Qa (HF.out.trans (Fr.of_below _ hb));clear hb;go_wp2_with fail;cases hc:s.is Cv with
   |true=>
    have HC:=Qa hc;clear hc;refine (Qbh Cv HS.out HC.out).mono ?_;rintro en v4 ⟨rfl,hg,hf⟩;replace HG:=Qa (HS.out.held hf HG.out (by decide) (by decide) (by decide));replace HS:=Qa hg;replace HF:=Qa (HF.out.trans hf);clear hg hf;have z3:=HG.out.t3;have Yi:=Qa (Ve HC.out);go_wp2_with fail;refine Qn ?_;go_wp2_with fail;refine (Qkj 2 0 ⟨#[]⟩ A HS.out (by have:=K9.out;have:=Yi.out;have e:s.next.l=s.l:=rfl;rw [e];omega)).mono ?_;rintro en x9 Yy;obtain ⟨k9,rfl⟩:=Yy.val;have Vy:=Qa (Yy.trans HF.out rfl);clear Yy;go_wp2_with fail;go_ret;exact ⟨_,(by rw [HA.out];exact Reads.Qs1 (by unfold sg;rw [Qd (by have:=H1.out;unfold PS.is at this;rw [this];decide)];rw [Qd (by have:=H2.out;unfold PS.is at this;rw [this];decide)];exact Qk HC.out)),Vy.out⟩
   |false=>
    have H3:=Qa hc;clear hc;refine (Qbi Cv HS.out H3.out).mono ?_;rintro en v5 ⟨rfl,hb⟩;replace HG:=Qa (HG.out.since hb);replace HS:=Qa (HS.out.below hb);replace HF:=Qa (HF.out.trans (Fr.of_below _ hb));clear hb;go_wp2_with fail;cases hc:s.is Di with
    |true=>
     have HC:=Qa hc;clear hc;refine (Qbh Di HS.out HC.out).mono ?_;rintro en v6 ⟨rfl,hg,hf⟩;replace HG:=Qa (HS.out.held hf HG.out (by decide) (by decide) (by decide));replace HS:=Qa hg;replace HF:=Qa (HF.out.trans hf);clear hg hf;have z3:=HG.out.t3;have Yi:=Qa (Ve HC.out);go_wp2_with fail;refine Qn ?_;go_wp2_with fail;refine (Qkj 3 0 ⟨#[]⟩ A HS.out (by have:=K9.out;have:=Yi.out;have e:s.next.l=s.l:=rfl;rw [e];omega)).mono ?_;rintro en x9 Yy;obtain ⟨k9,rfl⟩:=Yy.val;have Vy:=Qa (Yy.trans HF.out rfl);clear Yy;go_wp2_with fail;go_ret;exact ⟨_,(by rw [HA.out];exact Reads.Qrl (by unfold sg;rw [Qd (by have:=H1.out;unfold PS.is at this;rw [this];decide)];rw [Qd (by have:=H2.out;unfold PS.is at this;rw [this];decide)];rw [Qd (by have:=H3.out;unfold PS.is at this;rw [this];decide)];exact Qk HC.out)),Vy.out⟩
    |false=>
     have H4:=Qa hc;clear hc;refine (Qbi Di HS.out H4.out).mono ?_;rintro en v7 ⟨rfl,hb⟩;replace HG:=Qa (HG.out.since hb);replace HS:=Qa (HS.out.below hb);replace HF:=Qa (HF.out.trans (Fr.of_below _ hb));clear hb;go_wp2_with fail;cases hc:s.is Ky with
     |true=>
      have HC:=Qa hc;clear hc;refine (Qbh Ky HS.out HC.out).mono ?_;rintro en v8 ⟨rfl,hg,hf⟩;replace HG:=Qa (HS.out.held hf HG.out (by decide) (by decide) (by decide));replace HS:=Qa hg;replace HF:=Qa (HF.out.trans hf);clear hg hf;have z3:=HG.out.t3;have Yi:=Qa (Ve HC.out);go_wp2_with fail;refine Qn ?_;go_wp2_with fail;refine (Q3s HI.out 9 A _ _ _ _ HS.out hd (by have:=HM.out;have:=Yi.out;omega) (by have:=K9.out;have:=Yi.out;have e:s.next.l=s.l:=rfl;rw [e];omega)).mono ?_;rintro en x9 hPA;rcases hPA with ⟨f,hrd,Yy⟩ |⟨q,s1,hrd,Yy⟩
      ·obtain ⟨k9,rfl⟩:=Yy.val;have Vy:=Qa (Yy.trans HF.out rfl);have Q0:=Qa hrd;clear Yy hrd;go_wp2_with fail;go_ret;exact ⟨_,Reads.Q7z (j:=5) (by decide) (by unfold sg;rw [Qd (by have:=H1.out;unfold PS.is at this;rw [this];decide)];rw [Qd (by have:=H2.out;unfold PS.is at this;rw [this];decide)];rw [Qd (by have:=H3.out;unfold PS.is at this;rw [this];decide)];rw [Qd (by have:=H4.out;unfold PS.is at this;rw [this];decide)];exact Qk HC.out) Q0.out,Vy.out⟩
      ·obtain ⟨k9,rfl⟩:=Yy.val;have Vy:=Qa (Yy.trans HF.out rfl);have Q0:=Qa hrd;clear Yy hrd;go_wp2_with fail;go_ret;exact ⟨_,Reads.Qfb (j:=5) (by decide) (by unfold sg;rw [Qd (by have:=H1.out;unfold PS.is at this;rw [this];decide)];rw [Qd (by have:=H2.out;unfold PS.is at this;rw [this];decide)];rw [Qd (by have:=H3.out;unfold PS.is at this;rw [this];decide)];rw [Qd (by have:=H4.out;unfold PS.is at this;rw [this];decide)];exact Qk HC.out) Q0.out,by rw [HA.out]at Vy;exact Vy.out⟩
     |false=>
      have H5:=Qa hc;clear hc;refine (Qbi Ky HS.out H5.out).mono ?_;rintro en v9 ⟨rfl,hb⟩;replace HG:=Qa (HG.out.since hb);replace HS:=Qa (HS.out.below hb);replace HF:=Qa (HF.out.trans (Fr.of_below _ hb));clear hb;go_wp2_with fail;cases hc:s.is Ah with
      |true=>
       have HC:=Qa hc;clear hc;refine (Qbh Ah HS.out HC.out).mono ?_;rintro en v10 ⟨rfl,hg,hf⟩;replace HG:=Qa (HS.out.held hf HG.out (by decide) (by decide) (by decide));replace HS:=Qa hg;replace HF:=Qa (HF.out.trans hf);clear hg hf;have z3:=HG.out.t3;have Yi:=Qa (Ve HC.out);go_wp2_with fail;refine Qn ?_;go_wp2_with fail;refine (Q3s HI.out 10 A _ _ _ _ HS.out hd (by have:=HM.out;have:=Yi.out;omega) (by have:=K9.out;have:=Yi.out;have e:s.next.l=s.l:=rfl;rw [e];omega)).mono ?_;rintro en x9 hPA;rcases hPA with ⟨f,hrd,Yy⟩ |⟨q,s1,hrd,Yy⟩
       ·obtain ⟨k9,rfl⟩:=Yy.val;have Vy:=Qa (Yy.trans HF.out rfl);have Q0:=Qa hrd;clear Yy hrd;go_wp2_with fail;go_ret;exact ⟨_,Reads.Q7z (j:=6) (by decide) (by unfold sg;rw [Qd (by have:=H1.out;unfold PS.is at this;rw [this];decide)];rw [Qd (by have:=H2.out;unfold PS.is at this;rw [this];decide)];rw [Qd (by have:=H3.out;unfold PS.is at this;rw [this];decide)];rw [Qd (by have:=H4.out;unfold PS.is at this;rw [this];decide)];rw [Qd (by have:=H5.out;unfold PS.is at this;rw [this];decide)];exact Qk HC.out) Q0.out,Vy.out⟩
       ·obtain ⟨k9,rfl⟩:=Yy.val;have Vy:=Qa (Yy.trans HF.out rfl);have Q0:=Qa hrd;clear Yy hrd;go_wp2_with fail;go_ret;exact ⟨_,Reads.Qfb (j:=6) (by decide) (by unfold sg;rw [Qd (by have:=H1.out;unfold PS.is at this;rw [this];decide)];rw [Qd (by have:=H2.out;unfold PS.is at this;rw [this];decide)];rw [Qd (by have:=H3.out;unfold PS.is at this;rw [this];decide)];rw [Qd (by have:=H4.out;unfold PS.is at this;rw [this];decide)];rw [Qd (by have:=H5.out;unfold PS.is at this;rw [this];decide)];exact Qk HC.out) Q0.out,by rw [HA.out]at Vy;exact Vy.out⟩
      |false=>
       have H6:=Qa hc;clear hc;refine (Qbi Ah HS.out H6.out).mono ?_;rintro en v11 ⟨rfl,hb⟩;replace HG:=Qa (HG.out.since hb);replace HS:=Qa (HS.out.below hb);replace HF:=Qa (HF.out.trans (Fr.of_below _ hb));clear hb;go_wp2_with fail;have Iq:=Qa (Wjf H1.out H2.out H3.out H4.out H5.out H6.out);refine Qn ?_;have z0:=HG.out.t0;by_cases hk:K=2
       ·have hk2:((K:Int)==2)=true:=(by simp;omega);have Yq:Hid (s.tok.kind=2):=(by show s.tok.kind=2;rw [<-HK.out];exact hk);go_wp2_with fail;refine (Wdu HS.out).mono ?_;rintro en v12 ⟨rfl,hb⟩;replace HG:=Qa (HG.out.since hb);replace HS:=Qa (HS.out.below hb);replace HF:=Qa (HF.out.trans (Fr.of_below _ hb));clear hb z0;go_wp2_with fail;refine Qn ?_;have Yi:=Qa (Cr (s:=s) (by rw [Yq.out];decide));obtain ⟨p,l,hR,hr,hl,ht,hnr⟩:=HS.out.tok;have c1:=hR.c1;have f1:=hR.box.frozen 1;have hpm:p<100000:=(by have:=hR.here;have:=hR.many;omega);have Qk0:=Qa (Good.Qny hl hnr (hR.take ht (by rw [Yq.out];decide) _ rfl));clear hR hr hl ht hnr;go_wp2_with fail;refine Qn ?_;obtain ⟨V4,hV4⟩:=Qb (v12.setCell ⟨g,1,none⟩ (.int .i64 ((p:Int)+1)));rw [<-hV4]at Qk0 ⊢;replace HG:=Qa (HS.out.held Qk0.out.2 HG.out (by decide) (by decide) (by decide));replace HS:=Qa Qk0.out.1;replace HF:=Qa (HF.out.trans Qk0.out.2);have z2:=HG.out.t2;have z3:=HG.out.t3;clear hV4 Qk0 c1 f1;go_wp2_with fail;refine (Qkj 1 (N:Int) ⟨#[]⟩ A HS.out (by have:=K9.out;have:=Yi.out;have e:s.next.l=s.l:=rfl;rw [e];omega)).mono ?_;rintro en x9 Yy;obtain ⟨k9,rfl⟩:=Yy.val;have Vy:=Qa (Yy.trans HF.out rfl);clear Yy;go_wp2_with fail;go_ret;exact ⟨_,(by rw [HA.out,HN.out];exact Reads.Qss (by rw [Iq.out,Qk Yq.out])),Vy.out⟩
       ·have hk2:((K:Int)==2)=false:=(by simp;omega);have Yq:Hid (s.tok.kind≠2):=(by show s.tok.kind≠2;rw [<-HK.out];exact hk);go_wp2_with fail;by_cases hk1:K=1
        ·have Zh:Hid (s.tok.kind=1):=(by show s.tok.kind=1;rw [<-HK.out];exact hk1);have HSV:Hid (sg s.tok=8):=(by show _=_;rw [Iq.out,Qd Yq.out,Qk Zh.out]);have hNM:=Q20 HS.out Zh.out;rw [<-HX.out]at hNM;refine hNM.mono ?_;rintro en v13 ⟨rfl,hg,hf⟩;replace HG:=Qa (HS.out.held hf HG.out (by decide) (by decide) (by decide));replace HS:=Qa hg;replace HF:=Qa (HF.out.trans hf);clear hg hf hNM z0;have Yi:=Qa (Cr (s:=s) (by rw [Zh.out];decide));go_wp2_with fail;refine (Qhp lp HS.out).mono ?_;rintro en v14 ⟨rfl,hb⟩;replace HG:=Qa (HG.out.since hb);replace HS:=Qa (HS.out.below hb);replace HF:=Qa (HF.out.trans (Fr.of_below _ hb));clear hb;have z3:=HG.out.t3;cases hc:s.next.is lp with
         |true=>
          have HC:=Qa hc;clear hc;go_wp2_with fail;refine Qn ?_;go_wp2_with fail;refine (Q1b HE.out X A _ _ _ _ HS.out hd (by have:=HM.out;have:=Yi.out;omega)).mono ?_;rintro en x9 ⟨v,hrd,Yy⟩;obtain ⟨k9,rfl⟩:=Yy.val;have Vy:=Qa (Yy.trans HF.out rfl);have Q0:=Qa hrd;clear Yy hrd;go_wp2_with fail;go_ret;exact ⟨_,Reads.Qza HSV.out HC.out (by rw [<-HX.out,<-HA.out];exact Q0.out),Vy.out⟩
         |false=>
          have HC:=Qa hc;clear hc;go_wp2_with fail;refine Qn ?_;go_wp2_with fail;refine (Qkj 4 0 X A HS.out (by have:=K9.out;have:=Yi.out;have e:s.next.l=s.l:=rfl;rw [e];omega)).mono ?_;rintro en x9 Yy;obtain ⟨k9,rfl⟩:=Yy.val;have Vy:=Qa (Yy.trans HF.out rfl);clear Yy;go_wp2_with fail;go_ret;exact ⟨_,(by rw [HA.out,HX.out];exact Reads.Qmz HSV.out HC.out),Vy.out⟩
        ·have Zh:Hid (s.tok.kind≠1):=(by show s.tok.kind≠1;rw [<-HK.out];exact hk1);have HSV:Hid (sg s.tok=0):=(by show _=_;rw [Iq.out,Qd Yq.out,Qd Zh.out]);refine (Q6s HS.out Zh.out).mono ?_;rintro en v15 ⟨rfl,hg,hf⟩;replace HG:=Qa (HS.out.held hf HG.out (by decide) (by decide) (by decide));have HD:=Qa hg;replace HF:=Qa (HF.out.trans hf);clear hg hf z0;go_wp2_with fail;refine (Qck lp HD.out).mono ?_;rintro en v16 ⟨rfl,hb⟩;replace HG:=Qa (HG.out.since hb);replace HD:=Qa (HD.out.below hb);replace HF:=Qa (HF.out.trans (Fr.of_below _ hb));clear hb;have z3:=HG.out.t3;go_wp2_with fail;refine Qn ?_;go_wp2_with fail;refine (Mx _ _ _ _ _ HD.out).mono ?_;rintro en v17 ⟨rfl,hb⟩;replace HD:=Qa (HD.out.below hb);replace HF:=Qa (HF.out.trans (Fr.of_below _ hb));clear hb;go_wp2_with fail;go_ret;exact ⟨_,Reads.Q71 HSV.out,_,HF.out,rfl,.inr ⟨_,rfl,rfl,HD.out⟩⟩
end
section
open Go.RowKit
variable {B g:Nat}{L:List Tk}
theorem Reads.Wf0 {a b:List UInt8} {d:Nat} {s s':PS} {l:List Int} (h:Reads (.inner a b) d s (.ok (l,s'))):s'.l.length+s'.r.length+1<=s.l.length+s.r.length/\s'.r.length+1<=s.r.length:=by
 obtain ⟨n,hn⟩:=h;cases n with
 |zero=>cases hn
 |succ n=>
  rw [Qg]at hn;split at hn
  ·rename_i g1;have hs:=Ii g1;split at hn
   ·cases hn
   ·rcases go_ok hn with ⟨e,_,he⟩ |⟨p2,s3,h3,h4⟩
    ·cases he
    ·have a:=Lg n _ _ _ _ h3 _ _ rfl;have e1:s.next.l=s.l:=rfl;rw [e1]at a;split at h4
     ·rename_i g2;have hs2:=Ii g2;injection h4 with h4
      injection h4 with h4
      injection h4 with _ h5
      subst h5;have e3:s3.next.l=s3.l:=rfl;rw [e3];exact ⟨by omega,by omega⟩
     ·cases h4
  ·cases hn
theorem Bad.held {w w':World} {R R':Bx} {d:Nat} {f:Qq} {G:Nat} {t:TypeId} {cs:Array Value} (H:Bad B g L w R d f) (F:Fr g w w' R R') (h:Held w G t cs) (h1:t≠98) (h2:t≠37) (h3:t≠3):Held w' G t cs:=by
 obtain ⟨p,l,h0,H,_⟩:=H;refine h.block (F.block G h.lt ?_ (Yr H.own h (λe=>h2 e.symm)) (Yr H.hts h (λe=>h3 e.symm)));intro e;subst e;have h4:w.heap[G]? =_:=H.box;have h5:w.heap[G]? =_:=h;rw [h4]at h5;injection h5 with h6
 injection h6 with _ h7
 exact h1 h7.symm
def Q18 (B g:Nat) (L:List Tk) (w:World) (R:Bx) (d:Nat) (s:PS) (t3:Value) (wr:World):Prop:=
 ∃R1,Fr g w wr R R1/\R1.Z=R.Z/\(
  (∃p s1,t3= .int .i64 p/\Good B g L wr R1 d s1/\s1.r.length<=s.r.length/\s1.l.length+s1.r.length<=s.l.length+s.r.length/\ ∀v,Reads (.more p) d s1 v->Reads .idx d s v)\/
  (∃f,t3= .int .i64 (-1)/\Bad B g L wr R1 d f/\Reads .idx d s (.error f)))
theorem Wg3 {M:Nat} (hE:U3 B g L M) (w:World) (R:Bx) (d:Nat) (s:PS) (H:Good B g L w R d s) (hd:d<=200) (hM:s.r.length<=M+1):
  Calls prog 152 #[.pointer (some ⟨g,0,none⟩)] w (Post B g L .idx w R d s):=by
 have HE:=Qa hE;have HI:=Qa (Qrh hE);have K9:=Qa H.size;have HH:=Qa H;have HM:=Qa hM;have Xp:=Xm;clear H hE hM;go_enter func152,ntmps152;rw [Qz 5];go_wp2_with fail;refine (Whs HE.out w R d s HH.out hd HM.out).mono ?_;rintro en w1 ⟨v,hrd,R1,hf,hz,hv⟩;have HST:Hid (∃k,en= .returned (.int .i64 k)/\Q18 B g L w R d s (.int .i64 k) w1):=by
  rcases hv with ⟨k,s1,rfl,rfl,hg⟩ |⟨f,rfl,rfl,hg⟩
  ·have:=hrd.N7;exact ⟨k,rfl,R1,hf,hz,.inl ⟨k,s1,rfl,hg,by omega,by omega,λv h=>hrd.idx h⟩⟩
  ·exact ⟨-1,rfl,R1,hf,hz,.inr ⟨f,rfl,hg,hrd.Wpi⟩⟩
 obtain ⟨k,rfl,hst⟩:=HST.out;replace HST:=Qa hst;clear hrd hf hz hv hst;go_wp2_with fail;go_loopw [3] (λt3 wr=>Hid (Q18 B g L w R d s t3 wr)) (λ_ wr=>lam g L.length wr)
 case atStart=>exact HST
 case round=>
  obtain ⟨R2,hF,hZ,hst⟩:=hrel.out;rcases hst with ⟨p,s1,rfl,hG,hle,hsl,hcont⟩ |⟨f,rfl,hG,hrd⟩
  ·have HF:=Qa hF;have HZ:=Qa hZ;have HS:=Qa hG;have J2:=Qa hG.lam;have Z9:=Qa hle;have HSL:=Qa hsl;have HC:=Qa hcont;clear hrel hF hZ hG hle hsl hcont;go_wp2_with fail;refine (Qhp lb HS.out).mono ?_;rintro en x1 ⟨rfl,hb⟩;replace HS:=Qa (HS.out.below hb);replace HF:=Qa (HF.out.trans (Fr.of_below _ hb));clear hb;cases hlb:s1.is lb with
   |false=>
    have Ec:=Qa hlb;clear hlb;go_wp2_with fail;go_ret;exact ⟨_,HC.out _ (Reads.Qie Ec.out),R2,HF.out,HZ.out,.inl ⟨p,s1,rfl,rfl,HS.out⟩⟩
   |true=>
    have Ec:=Qa hlb;clear hlb;go_wp2_with fail;refine (Qbx HS.out).mono ?_;rintro en x2 ⟨rfl,hb⟩;replace HS:=Qa (HS.out.below hb);replace HF:=Qa (HF.out.trans (Fr.of_below _ hb));clear hb;go_wp2_with fail;refine (HI.out lb rb _ _ _ _ HS.out hd (by have:=HM.out;have:=Z9.out;omega)).mono ?_;rintro en x3 ⟨v,hrd,R3,hf,hz,hv⟩;have Q0:=Qa hrd;replace HF:=Qa (HF.out.trans hf);have HZ3:Hid (R3.Z=R.Z):=hz.trans HZ.out;clear hrd hf hz;rcases hv with ⟨q,s2,rfl,rfl,hg⟩ |⟨f,rfl,rfl,hg⟩
    ·have Sz:=Qa hg;have Ai:=Qa Q0.out.Wf0;clear hg;go_wp2_with fail;refine Qn ?_;go_wp2_with fail;have HNW:=Qa (Qex x3 [p,q] #[.int .i64 p,.int .i64 q] rfl (by simp) 2 rfl);have Jl:Hid (Below x3.heap.size x3 (x3.alloc (.cells #[.int .i64 p,.int .i64 q] 3))):=Qag;refine (Qey (B':=x3.heap.size) ⟨8,some ⟨x3.heap.size,0,none⟩,2,[p,q],0,⟨#[]⟩,(s1.tok.place:Int)⟩ s1.tok.place (Sz.out.below Jl.out) HNW.out (by have:=Ai.out;have:=HSL.out;have:=K9.out;omega) (by simp) rfl).mono ?_;rintro en x4 ⟨R4,hf2,hz2,hv2⟩;have O9:=Qa ((HF.out.trans (Fr.of_below _ Jl.out)).trans hf2);have HZ4:Hid (R4.Z=R.Z):=hz2.trans HZ3.out;clear hf2 hz2;rcases hv2 with ⟨k2,s3,Y2,rfl,hg⟩ |⟨f,Y2,rfl,hg⟩
     ·have M5:=Qa Y2;have HG:=Qa hg;have Ji:=Qa hg.lam;have Nn:=Qa (Qbq Y2);clear Y2 hg;go_wp2_with fail;go_roundw
      case rel=>exact ⟨R4,O9.out,HZ4.out,.inl ⟨k2,s3,rfl,HG.out,by have:=Nn.out;have:=Ai.out;have:=Z9.out;rw [Nn.out.2.1];omega,by have:=Nn.out;have:=Ai.out;have:=HSL.out;rw [Nn.out.2.1];omega,λv h=>HC.out _ (Reads.Qa0 Ec.out Q0.out M5.out h)⟩⟩
      case measure=>show lam g L.length x4<lam g L.length _;rw [Ji.out,J2.out,Nn.out.2.1];have:=Ai.out;omega
     ·have M5:=Qa Y2;have HG:=Qa hg;have Ji:=Qa hg.lam;clear Y2 hg;go_wp2_with fail;go_roundw
      case rel=>exact ⟨R4,O9.out,HZ4.out,.inr ⟨f,rfl,HG.out,HC.out _ (Reads.Q9c Ec.out Q0.out M5.out)⟩⟩
      case measure=>show lam g L.length x4<lam g L.length _;rw [Ji.out,J2.out];have:=Ai.out;omega
    ·have Sz:=Qa hg;clear hg;go_wp2_with fail;refine Qn ?_;go_wp2_with fail;have Jl:Hid (Below x3.heap.size x3 (x3.alloc (.cells #[.int .i64 p,.int .i64 (-1)] 3))):=Qag;refine (Mx _ _ _ _ _ (Sz.out.below Jl.out)).mono ?_;rintro en x4 ⟨rfl,hb⟩;have Jf:=Qa (Z4 Jl.out hb);have Le:=Qa (Sz.out.below Jf.out);have Ez:=Qa (HF.out.trans (Fr.of_below _ Jf.out));have Ji:=Qa Le.out.lam;have HPO:=Qa (Ve Ec.out);clear hb;go_wp2_with fail;go_roundw
     case rel=>exact ⟨R3,Ez.out,HZ3.out,.inr ⟨f,rfl,Le.out,HC.out _ (Reads.Wia Ec.out Q0.out)⟩⟩
     case measure=>show lam g L.length x4<lam g L.length _;rw [Ji.out,J2.out];have:=HPO.out;omega
  ·have HF:=Qa hF;have HZ:=Qa hZ;have HS:=Qa hG;have Q0:=Qa hrd;clear hrel hF hZ hG hrd;go_wp2_with fail;refine (Qck lb HS.out).mono ?_;rintro en x1 ⟨rfl,hb⟩;replace HS:=Qa (HS.out.below hb);replace HF:=Qa (HF.out.trans (Fr.of_below _ hb));clear hb;go_wp2_with fail;go_ret;exact ⟨_,Q0.out,R2,HF.out,HZ.out,.inr ⟨f,rfl,rfl,HS.out⟩⟩
def Qk4 (B g:Nat) (L:List Tk) (M:Nat):Prop:= ∀w R d s,Good B g L w R d s->d<=200->s.r.length<=M->Calls prog 143 #[.pointer (some ⟨g,0,none⟩)] w (Post B g L .front w R d s)
def Ql4 (k:Nat):List UInt8:=if k=0 then minus else bang
def Qye (k:Nat):Int:=if k=0 then 6 else 7
theorem Wc6 {M:Nat} (hE:U3 B g L M) (hFr:Qk4 B g L M):Qk4 B g L (M+1):=by
 intro w R d s H hd hM;have HE:=Qa hE;have HFR:=Qa hFr;have K9:=Qa H.size;have HH:=Qa H;have HM:=Qa hM;have J6:=Qa (Qbx H);obtain ⟨A,hA⟩:=Qb s.tok.place;rw [<-hA]at J6;have HA:=Qa hA;have Xp:=Xm;clear H hE hM hFr hA;go_enter func143,ntmps143;rw [Qz 5,Qz 9];go_wp2_with fail;refine J6.out.mono ?_;rintro en w1 ⟨rfl,hb⟩;have HB:=Qa hb;clear hb;obtain ⟨tt,fr,hg⟩:=(HH.out.below HB.out).tabs.front;have Fz:=Qa hg;clear hg;go_wp2_with (refine wpList_load_row rfl 160 _ rfl 13 rfl tt _ fr _ Fz.out underlying160 rfl (by kernel_rfl) ?_);go_loopw [11] (λt11 wr=> ∃k:Nat,k<=2/\t11= .int .i64 (k:Int)/\Hid (Below w.heap.size w wr)/\Hid (∀j,j<k->s.is (Ql4 j)=false)) (λt11 _=>2-(intOf t11).toNat)
 case atStart=>exact ⟨0,by omega,rfl,HB,λj hj=>by omega⟩
 case round=>
  obtain ⟨k,hk,rfl,Ku,V9⟩:=hrel;by_cases hlt:k<2
  ·have hix: ∀w,(Instr.index 160 (.agg Qqp) (.int .i64 (k:Int))).run prog w= .ok (.agg #[.string ⟨(Ql4 k).toArray⟩,.int .i64 (Qye k)]) w:=Q12 k hlt;obtain ⟨c,hc⟩:=Qb (Ql4 k);obtain ⟨m,hm⟩:=Qb (Qye k:Int);rw [<-hc,<-hm]at hix;have HC:=Qa hc;have HKM:=Qa hm;clear hc hm;go_wp2_with fail;obtain ⟨W,hW⟩:=Qb (wr.alloc (.cells #[.string ⟨c.toArray⟩,.int .i64 m] 159));obtain ⟨G,hG⟩:=Qb wr.heap.size;have HG:Hid (Held W G 159 #[.string ⟨c.toArray⟩,.int .i64 m]):=(by rw [hW,hG];exact Held.new _ _ _);have z0:W.cell? ⟨G,0,none⟩=some (.string ⟨c.toArray⟩):=HG.out.at_ rfl;have HB2:Hid (Below w.heap.size w W):=(by rw [hW];exact Ku.out.alloc Ku.out.size _);have HS:=Qa (HH.out.below HB2.out);have HF:Hid (Fr g w W R R):=Fr.of_below R HB2.out;rw [<-hW,<-hG];clear hW hG;refine Qn ?_;go_wp2_with fail;cases hsc:s.is c with
   |false=>
    have Ow:=Qa hsc;clear hsc;refine (Qbi c HS.out Ow.out).mono ?_;rintro en w2 ⟨rfl,hb⟩;have HB3:=Qa (Z4 HB2.out hb);clear hb;go_wp2_with fail;go_roundw
    case rel=>exact ⟨k+1,by omega,by go_num,HB3,λj hj=>by
     rcases V7 j k with g1 |g1
     ·exact V9.out j g1
     ·rw [show j=k by omega,<-HC.out];exact Ow.out⟩
    case measure=>simp [intOf];omega
   |true=>
    have Ow:=Qa hsc;clear hsc;have HMB:Hid (s.is minus=true\/s.is bang=true):=by
     have h1:=Ow.out;rw [HC.out]at h1;unfold Ql4 at h1;split at h1
     ·exact .inl h1
     ·exact .inr h1
    have HMK:Hid ((if s.is minus then (6:Int)else 7)=m):=by
     show _=m;rw [HKM.out];rcases (show k=0\/k=1 by omega)with h0 |h0
     ·subst h0;have h1:=Ow.out;rw [HC.out]at h1;rw [Qk (show s.is minus=true from h1)];rfl
     ·subst h0;rw [Qd (by rw [show s.is minus=false from V9.out 0 (by omega)];decide)];rfl
    have Yi:=Qa (Ve Ow.out);refine (Qbh c HS.out Ow.out).mono ?_;rintro en w2 ⟨rfl,hg,hf⟩;replace HG:=Qa (HS.out.held hf HG.out (by decide) (by decide) (by decide));replace HS:=Qa hg;replace HF:=Qa (HF.out.trans hf);clear hg hf z0;go_wp2_with fail;by_cases Qb6:200<=d
    ·have HD:=Qa Qb6;refine (Qm7 A HS.out Qb6 (by omega)).mono ?_;rintro en w3 ⟨rfl,hg,hf⟩;replace HG:=Qa (HS.out.held hf HG.out (by decide) (by decide) (by decide));have HX:=Qa hg;replace HF:=Qa (HF.out.trans hf);clear hg hf;go_wp2_with fail;refine (Qzk HX.out).mono ?_;rintro en w4 ⟨rfl,hb⟩;replace HG:=Qa (HG.out.since hb);replace HX:=Qa (HX.out.below hb);replace HF:=Qa (HF.out.trans (Fr.of_below _ hb));clear hb;go_wp2_with fail;refine (Pg HX.out (by omega)).mono ?_;rintro en w5 ⟨⟨v,rfl⟩,hg,hf⟩;replace HG:=Qa (HX.out.held hf HG.out (by decide) (by decide) (by decide));replace HX:=Qa hg;replace HF:=Qa (HF.out.trans hf);clear hg hf;have z1:w5.cell? ⟨G,1,none⟩=some (.int .i64 m):=HG.out.at_ rfl;go_wp2_with fail;refine Qn ?_;go_wp2_with fail;have Jl:Hid (Below w5.heap.size w5 (w5.alloc (.cells #[.int .i64 (-1)] 3))):=Qag;refine (Mx _ _ _ _ _ (HX.out.below Jl.out)).mono ?_;rintro en w6 ⟨rfl,hb⟩;have Br:=Qa (Z4 Jl.out hb);clear hb;go_wp2_with fail;go_ret;exact ⟨_,by rw [HA.out]at HX;exact Reads.Qht HMB.out HD.out,R,HF.out.trans (Fr.of_below _ Br.out),rfl,.inr ⟨_,rfl,rfl,by rw [<-HA.out];exact HX.out.below Br.out⟩⟩
    ·have hd2:d<200:=(by omega);refine (Qlu A HS.out hd2).mono ?_;rintro en w3 ⟨rfl,hg,hf⟩;replace HG:=Qa (HS.out.held hf HG.out (by decide) (by decide) (by decide));replace HS:=Qa hg;replace HF:=Qa (HF.out.trans hf);clear hg hf;go_wp2_with fail;refine (HFR.out _ _ _ _ HS.out (by omega) (by have:=Yi.out;have:=HM.out;omega)).mono ?_;rintro en w4 ⟨v,hrd,R3,hf,hz,hv⟩;have Q0:=Qa hrd;replace HG:=Qa (HS.out.held hf HG.out (by decide) (by decide) (by decide));replace HF:=Qa (HF.out.trans hf);have HZ:=Qa hz;clear hrd hf hz;rcases hv with ⟨q,s1,rfl,rfl,hg⟩ |⟨f,rfl,rfl,hg⟩
     ·replace HS:=Qa hg;have HSL:=Qa Q0.out.N7;clear hg;go_wp2_with fail;refine (Qnm HS.out (by omega)).mono ?_;rintro en w5 ⟨⟨v,rfl⟩,hg,hf⟩;replace HG:=Qa (HS.out.held hf HG.out (by decide) (by decide) (by decide));replace HS:=Qa hg;replace HF:=Qa (HF.out.trans hf);clear hg hf;have z1:w5.cell? ⟨G,1,none⟩=some (.int .i64 m):=HG.out.at_ rfl;go_wp2_with fail;refine Qn ?_;go_wp2_with fail;have HNW:=Qa (Qex w5 [q] #[.int .i64 q] rfl (by simp) 1 rfl);have Jl:Hid (Below w5.heap.size w5 (w5.alloc (.cells #[.int .i64 q] 3))):=Qag;refine (Qey (B':=w5.heap.size) ⟨m,some ⟨w5.heap.size,0,none⟩,1,[q],0,⟨#[]⟩,(A:Int)⟩ A (HS.out.below Jl.out) HNW.out (by have h1:=HSL.out;have e:s.next.l=s.l:=rfl;rw [e]at h1;have:=K9.out;have:=Yi.out;omega) (by simp) rfl).mono ?_;rintro en w6 Yy;obtain ⟨k9,rfl⟩:=Yy.val;have Vy:=Qa ((Yy.trans (Fr.of_below _ Jl.out) rfl).trans HF.out HZ.out);clear Yy;go_wp2_with fail;go_ret;exact ⟨_,Reads.Qrw HMB.out hd2 Q0.out,by rw [HMK.out,<-HA.out];exact Vy.out⟩
     ·have HX:=Qa hg;clear hg;go_wp2_with fail;refine (Pg HX.out (by omega)).mono ?_;rintro en w5 ⟨⟨v,rfl⟩,hg,hf⟩;replace HG:=Qa (HX.out.held hf HG.out (by decide) (by decide) (by decide));replace HX:=Qa hg;replace HF:=Qa (HF.out.trans hf);clear hg hf;have z1:w5.cell? ⟨G,1,none⟩=some (.int .i64 m):=HG.out.at_ rfl;go_wp2_with fail;refine Qn ?_;go_wp2_with fail;have Jl:Hid (Below w5.heap.size w5 (w5.alloc (.cells #[.int .i64 (-1)] 3))):=Qag;refine (Mx _ _ _ _ _ (HX.out.below Jl.out)).mono ?_;rintro en w6 ⟨rfl,hb⟩;have Br:=Qa (Z4 Jl.out hb);clear hb;go_wp2_with fail;go_ret;exact ⟨_,Reads.Wax HMB.out hd2 Q0.out,R3,HF.out.trans (Fr.of_below _ Br.out),HZ.out,.inr ⟨f,rfl,rfl,HX.out.below Br.out⟩⟩
  ·obtain rfl:k=2:=(by omega);go_wp2_with fail;refine (Wg3 HE.out wr R d s (HH.out.below Ku.out) hd HM.out).mono ?_;rintro en w2 ⟨v,hrd,Yy⟩;obtain ⟨k9,rfl⟩:=Yy.val;have Vy:=Qa (Yy.trans (Fr.of_below R Ku.out) rfl);have Q0:=Qa hrd;clear Yy hrd;go_wp2_with fail;go_ret;exact ⟨_,Reads.Qjx (V9.out 0 (by omega)) (V9.out 1 (by omega)) Q0.out,Vy.out⟩
end
section
open Go.RowKit
variable {B g:Nat}{L:List Tk}
def Qmf (B g:Nat) (L:List Tk) (lv M:Nat):Prop:= ∀w R d s,Good B g L w R d s->d<=200->s.r.length<=M->Calls prog 128 #[.pointer (some ⟨g,0,none⟩),.int .i64 (lv:Int)] w (Post B g L (.chain lv) w R d s)
theorem Q98 {M:Nat} (h:Qk4 B g L M):Qmf B g L 5 M:=by
 intro w R d s H hd hM;have HC:=Qa (h w R d s H hd hM);clear h H;go_enter func128,ntmps128;go_wp2_with fail;go_step3;go_wp2_with fail;refine HC.out.mono ?_;rintro en w2 ⟨v,hrd,Yy⟩;obtain ⟨k9,rfl⟩:=Yy.val;have Vy:=Qa Yy;have Q0:=Qa hrd;clear Yy hrd;go_wp2_with fail
 try rw [Exit.noGoto_ret]
 go_ret;exact ⟨_,Q0.out.Qlb,Vy.out⟩
theorem Qte {t:Tk}: ∀(n a k:Nat),a<=k->k<a+n->(∀j,a<=j->j<k->sees t (Xu.getD j [])=false)->sees t (Xu.getD k [])=true->Lr t a n=some k
 | 0,a,k,h1,h2,_,_=>by omega
 |n+1,a,k,h1,h2,h3,h4=>by
  unfold Lr;rcases Nat.eq_or_lt_of_le h1 with e |e
  ·subst e;rw [Qk h4]
  ·rw [Qd (by rw [h3 a (Qh _) e];decide)];exact Qte n (a+1) k e (by omega) (λj hj=>h3 j (by omega)) h4
theorem Qun {t:Tk}: ∀(n a:Nat),(∀j,a<=j->j<a+n->sees t (Xu.getD j [])=false)->Lr t a n=none
 | 0,a,_=>rfl
 |n+1,a,h=>by unfold Lr;rw [Qd (by rw [h a (Qh _) (by omega)];decide)];exact Qun n (a+1) (λj h1 h2=>h j (by omega) (by omega))
def Qzu (B g:Nat) (L:List Tk) (w:World) (R:Bx) (d lv:Nat) (s:PS) (G:Nat) (cs:Array Value) (t6:Value) (wr:World):Prop:=
 Held wr G 152 cs/\ ∃R1,Fr g w wr R R1/\R1.Z=R.Z/\(
  (∃p s1,t6= .int .i64 p/\Good B g L wr R1 d s1/\s1.r.length<=s.r.length/\s1.l.length+s1.r.length<=s.l.length+s.r.length/\ ∀v,Reads (.loop lv p) d s1 v->Reads (.chain lv) d s v)\/
  (∃f,t6= .int .i64 (-1)/\Bad B g L wr R1 d f/\Reads (.chain lv) d s (.error f)))
theorem Qka {lv M:Nat} (hlv:lv<5) (hC:Qmf B g L (lv+1) M):Qmf B g L lv M:=by
 intro w R d s H hd hM;have HIH:Hid (∀w R d s,Good B g L w R d s->d<=200->s.r.length<=M->Calls prog 128 #[.pointer (some ⟨g,0,none⟩),.int .i64 ((lv:Int)+1)] w (Post B g L (.chain (lv+1)) w R d s)):=λw R d s h1 h2 h3=>by have:=hC w R d s h1 h2 h3;rw [show ((lv+1:Nat):Int)=(lv:Int)+1 by omega]at this;exact this
 have HH:=Qa H;have K9:=Qa H.size;have HM:=Qa hM;obtain ⟨x0,x1,x2⟩:=Q42 H.tabs hlv;have Ip:=Qxr hlv;have Dn:Hid (lv≠5):=by show lv≠5;omega
 obtain ⟨o1,ho1⟩:=Qb (Zx lv);obtain ⟨o2,ho2⟩:=Qb (Ag lv);obtain ⟨once,hon⟩:=Qb (lv==2);have HAT:Hid (∀t,opAt lv t=Lr t o1 (o2+1-o1)):=λt=>by rw [ho1,ho2];rfl
 have HON:=Qa hon;rw [<-ho1]at x0 Ip;rw [<-ho2]at x1 Ip;rw [<-hon]at x2;clear H hC hM ho1 ho2 hon;obtain ⟨hq1,hq2,hq3⟩:=Ip;have hne:((lv:Int)==5)=false:=by simp;omega
 have Xp:=Xm;go_enter func128,ntmps128;rw [Qz 4,Qz 11,Qz 12];go_wp2_with fail;go_step3;go_wp2_with fail;obtain ⟨W,hW⟩:=Qb (w.alloc (.cells #[.int .i64 (o1:Int),.int .i64 (o2:Int),.bool once] 152));obtain ⟨G,hG⟩:=Qb w.heap.size;have HG:Hid (Held W G 152 #[.int .i64 (o1:Int),.int .i64 (o2:Int),.bool once]):=by rw [hW,hG];exact Held.new _ _ _
 have HB:Hid (Below w.heap.size w W):=by rw [hW];exact Qag
 rw [<-hW,<-hG];clear hW hG x0 x1 x2 hne;refine Qn ?_;go_wp2_with fail;refine (HIH.out W R d s (HH.out.below HB.out) hd HM.out).mono ?_;rintro en w1 ⟨v,hrd,R1,hf,hz,hv⟩;have HST:Hid (∃k,en= .returned (.int .i64 k)/\Qzu B g L w R d lv s G #[.int .i64 (o1:Int),.int .i64 (o2:Int),.bool once] (.int .i64 k) w1):=by
  have hG1:=(HH.out.below HB.out).held hf HG.out (by decide) (by decide) (by decide);have hF1:=(Fr.of_below R HB.out).trans hf;rcases hv with ⟨k,s1,rfl,rfl,hg⟩ |⟨f,rfl,rfl,hg⟩
  ·have:=hrd.N7;exact ⟨k,rfl,hG1,R1,hF1,hz,.inl ⟨k,s1,rfl,hg,by omega,by omega,λv h=>Reads.chain Dn.out hrd h⟩⟩
  ·exact ⟨-1,rfl,hG1,R1,hF1,hz,.inr ⟨f,rfl,hg,Reads.Wp5 Dn.out hrd⟩⟩
 obtain ⟨k,rfl,hst⟩:=HST.out;replace HST:=Qa hst;clear hrd hf hz hv hst;go_wp2_with fail;go_step3;go_wp2_with fail;go_loopw [6] (λt6 wr=>Hid (Qzu B g L w R d lv s G #[.int .i64 (o1:Int),.int .i64 (o2:Int),.bool once] t6 wr)) (λ_ wr=>lam g L.length wr)
 case atStart=>exact HST
 case round=>
  obtain ⟨hGr,R2,hF,hZ,hst⟩:=hrel.out;rcases hst with ⟨p,s1,rfl,hGd,hle,hsl,hcont⟩ |⟨f,rfl,hGd,hrd⟩
  ·replace HG:=Qa hGr;have HF:=Qa hF;have HZ:=Qa hZ;have HS:=Qa hGd;have J2:=Qa hGd.lam;have Z9:=Qa hle;have HSL:=Qa hsl;have HC:=Qa hcont;clear hrel hGr hF hZ hGd hle hsl hcont;go_wp2_with fail;refine (Qbx HS.out).mono ?_;rintro en x1 ⟨rfl,hb⟩;replace HG:=Qa (HG.out.since hb);replace HS:=Qa (HS.out.below hb);replace HF:=Qa (HF.out.trans (Fr.of_below _ hb));clear hb;have z0:x1.cell? ⟨G,0,none⟩=some (.int .i64 (o1:Int)):=HG.out.at_ rfl;obtain ⟨A,hA⟩:=Qb s1.tok.place;rw [<-hA];have HA:=Qa hA;clear hA;obtain ⟨wo,rfl⟩:=Qb wr;go_wp2_with fail;go_loopw [6,8] (λt6 t8 wr=> ∃k:Nat,t6= .int .i64 p/\o1<=k/\k<=o2+1/\t8= .int .i64 (k:Int)/\Hid (Below x1.heap.size x1 wr)/\Hid (∀j,o1<=j->j<k->sees s1.tok (Xu.getD j [])=false)) (λ_ t8 _=>o2+1-(intOf t8).toNat)
   case atStart=>exact ⟨o1,rfl,by omega,by omega,rfl,Below.refl _ _,λj h1 h2=>by omega⟩
   case round=>
    obtain ⟨k,rfl,hk1,hk2,rfl,Ku,V9⟩:=hrel;have HGr:=Qa (HG.out.since Ku.out);have Sb:=Qa (HS.out.below Ku.out);have HFr:=Qa (HF.out.trans (Fr.of_below _ Ku.out));have z1:wr.cell? ⟨G,1,none⟩=some (.int .i64 (o2:Int)):=HGr.out.at_ rfl;clear z0;by_cases hlt:k<=o2
    ·have Qaf:(k:Int)<=(o2:Int):=(by omega);have c1:=Qvk Sb.out.tabs (op:=k) (by omega);obtain ⟨c,hc⟩:=Qb (Xu.getD k []);rw [<-hc]at c1;have HCC:=Qa hc;clear hc;go_wp2_with fail;cases hsc:s1.is c with
     |false=>
      have Ow:=Qa hsc;clear hsc;refine (Qbi c Sb.out Ow.out).mono ?_;rintro en x3 ⟨rfl,hb⟩;have HB3:=Qa (Z4 Ku.out hb);clear hb;go_wp2_with fail;go_roundw
      case rel=>exact ⟨k+1,rfl,by omega,by omega,by go_num,HB3,λj h1 h2=>by
       rcases V7 j k with g1 |g1
       ·exact V9.out j h1 g1
       ·rw [show j=k by omega,<-HCC.out];exact Ow.out⟩
      case measure=>simp [intOf];omega
     |true=>
      have Ow:=Qa hsc;have Rh:Hid (opAt lv s1.tok=some k):=by show opAt lv s1.tok=some k;rw [HAT.out];exact Qte _ _ _ hk1 (by omega) V9.out (by rw [<-HCC.out];exact hsc)
      have Yi:=Qa (Ve hsc);clear hsc;refine (Qbh c Sb.out Ow.out).mono ?_;rintro en x3 ⟨rfl,hg,hf⟩;have V5:=Qa (Sb.out.held hf HGr.out (by decide) (by decide) (by decide));have Sz:=Qa hg;have HF3:=Qa (HFr.out.trans hf);clear hg hf;go_wp2_with fail;refine (HIH.out _ _ _ _ Sz.out hd (by have:=Yi.out;have:=Z9.out;have:=HM.out;omega)).mono ?_;rintro en x4 ⟨v,hrd,R4,hf,hz,hv⟩;have Q0:=Qa hrd;have D6:=Qa (Sz.out.held hf V5.out (by decide) (by decide) (by decide));have Ez:=Qa (HF3.out.trans hf);have HZ4:Hid (R4.Z=R.Z):=hz.trans HZ.out;clear hrd hf hz;rcases hv with ⟨q,s2,rfl,rfl,hg⟩ |⟨f,rfl,rfl,hg⟩
      ·have Le:=Qa hg;have HSK:Hid (s2.l.length+s2.r.length+1<=s1.l.length+s1.r.length/\s2.r.length+1<=s1.r.length):=by have h1:=Q0.out.N7;have e:s1.next.l=s1.l:=rfl;rw [e]at h1;have h2:=Yi.out;exact ⟨by omega,by omega⟩
       clear hg;go_wp2_with fail;refine Qn ?_;go_wp2_with fail;have HNW:=Qa (Qex x4 [p,q] #[.int .i64 p,.int .i64 q] rfl (by simp) 2 rfl);have Jl:Hid (Below x4.heap.size x4 (x4.alloc (.cells #[.int .i64 p,.int .i64 q] 3))):=Qag;refine (Qey (B':=x4.heap.size) ⟨5,some ⟨x4.heap.size,0,none⟩,2,[p,q],(k:Int),⟨#[]⟩,(A:Int)⟩ A (Le.out.below Jl.out) HNW.out (by have:=HSK.out;have:=HSL.out;have:=K9.out;omega) (by simp) rfl).mono ?_;rintro en x5 ⟨R5,hf2,hz2,hv2⟩;have E8:=Qa ((Le.out.below Jl.out).held hf2 (D6.out.since Jl.out) (by decide) (by decide) (by decide));have Me:=Qa ((Ez.out.trans (Fr.of_below _ Jl.out)).trans hf2);have O8:Hid (R5.Z=R.Z):=hz2.trans HZ4.out;have z2:x5.cell? ⟨G,2,none⟩=some (.bool once):=E8.out.at_ rfl;clear hf2 hz2;rcases hv2 with ⟨k2,s3,Y2,rfl,hg⟩ |⟨f,Y2,rfl,hg⟩
       ·have M5:Hid (lay (En 5 [p,q] (k:Int) ⟨#[]⟩ s1.tok.place) s2= .ok ([k2],s3)):=(by rw [<-HA.out];exact Y2);have Fa:=Qa hg;have Qim:=Qa hg.lam;have Nn:=Qa (Qbq Y2);clear Y2 hg;go_wp2_with fail;refine Qn ?_;cases once with
        |true=>
         have Gj:Hid (lv=2):=(by have h:=HON.out.symm;show _;simp at h;exact h);go_wp2_with fail
         try rw [Exit.noGoto_ret]
         go_ret;exact ⟨_,HC.out _ (Reads.Qno Gj.out Rh.out Q0.out M5.out),R5,Me.out,O8.out,.inl ⟨k2,s3,rfl,rfl,Fa.out⟩⟩
        |false=>
         have Gj:Hid (lv≠2):=(by have h:=HON.out.symm;show _;simp at h;exact h);go_wp2_with fail;go_roundw
         case rel=>exact ⟨E8.out,R5,Me.out,O8.out,.inl ⟨k2,s3,rfl,Fa.out,by rw [Nn.out.2.1];have:=HSK.out;have:=Z9.out;omega,by rw [Nn.out.2.1];have:=Nn.out.1;have:=HSK.out;have:=HSL.out;omega,λv h=>HC.out _ (Reads.Qly Gj.out Rh.out Q0.out M5.out h)⟩⟩
         case measure=>show lam g L.length x5<lam g L.length _;rw [Qim.out,J2.out,Nn.out.2.1];have:=HSK.out;omega
       ·have M5:Hid (lay (En 5 [p,q] (k:Int) ⟨#[]⟩ s1.tok.place) s2= .error f):=(by rw [<-HA.out];exact Y2);have Fa:=Qa hg;have Qim:=Qa hg.lam;clear Y2 hg;go_wp2_with fail;refine Qn ?_;cases once with
        |true=>
         go_wp2_with fail
         try rw [Exit.noGoto_ret]
         go_ret;exact ⟨_,HC.out _ (Reads.Q2n Rh.out Q0.out M5.out),R5,Me.out,O8.out,.inr ⟨f,rfl,rfl,Fa.out⟩⟩
        |false=>
         go_wp2_with fail;go_roundw
         case rel=>exact ⟨E8.out,R5,Me.out,O8.out,.inr ⟨f,rfl,Fa.out,HC.out _ (Reads.Q2n Rh.out Q0.out M5.out)⟩⟩
         case measure=>show lam g L.length x5<lam g L.length _;rw [Qim.out,J2.out];have:=HSK.out;omega
      ·have Le:=Qa hg;clear hg;go_wp2_with fail;refine Qn ?_;go_wp2_with fail;have Jl:Hid (Below x4.heap.size x4 (x4.alloc (.cells #[.int .i64 p,.int .i64 (-1)] 3))):=Qag;refine (Mx _ _ _ _ _ (Le.out.below Jl.out)).mono ?_;rintro en x5 ⟨rfl,hb⟩;have E5:=Qa (Z4 Jl.out hb);have E8:=Qa (D6.out.since E5.out);have Gm:=Qa (Le.out.below E5.out);have Me:=Qa (Ez.out.trans (Fr.of_below _ E5.out));have Qim:=Qa Gm.out.lam;have z2:x5.cell? ⟨G,2,none⟩=some (.bool once):=E8.out.at_ rfl;clear hb;go_wp2_with fail;refine Qn ?_;cases once with
       |true=>
        go_wp2_with fail
        try rw [Exit.noGoto_ret]
        go_ret;exact ⟨_,HC.out _ (Reads.Q00 Rh.out Q0.out),R4,Me.out,HZ4.out,.inr ⟨f,rfl,rfl,Gm.out⟩⟩
       |false=>
        go_wp2_with fail;go_roundw
        case rel=>exact ⟨E8.out,R4,Me.out,HZ4.out,.inr ⟨f,rfl,Gm.out,HC.out _ (Reads.Q00 Rh.out Q0.out)⟩⟩
        case measure=>show lam g L.length x5<lam g L.length _;rw [Qim.out,J2.out];have:=Yi.out;omega
    ·have Qaf: ¬(k:Int)<=(o2:Int):=(by omega);have Rh:Hid (opAt lv s1.tok=none):=by show opAt lv s1.tok=none;rw [HAT.out];exact Qun _ _ (λj h1 h2=>V9.out j h1 (by omega))
     go_wp2_with fail
     try rw [Exit.noGoto_ret]
     go_ret;exact ⟨_,HC.out _ (Reads.Qa7 Rh.out),R2,HFr.out,HZ.out,.inl ⟨p,s1,rfl,rfl,Sb.out⟩⟩
  ·replace HG:=Qa hGr;have HF:=Qa hF;have HZ:=Qa hZ;have HS:=Qa hGd;have Q0:=Qa hrd;clear hrel hGr hF hZ hGd hrd;go_wp2_with fail;refine (Qki HS.out).mono ?_;rintro en x1 ⟨K,N,A,X,rfl,hb⟩;replace HG:=Qa (HG.out.since hb);replace HS:=Qa (HS.out.below hb);replace HF:=Qa (HF.out.trans (Fr.of_below _ hb));clear hb;have z0:x1.cell? ⟨G,0,none⟩=some (.int .i64 (o1:Int)):=HG.out.at_ rfl;obtain ⟨wo,rfl⟩:=Qb wr;go_wp2_with fail;go_loopw [6,8] (λt6 t8 wr=> ∃k:Nat,t6= .int .i64 (-1)/\o1<=k/\k<=o2+1/\t8= .int .i64 (k:Int)/\Hid (Below x1.heap.size x1 wr)) (λ_ t8 _=>o2+1-(intOf t8).toNat)
   case atStart=>exact ⟨o1,rfl,by omega,by omega,rfl,Below.refl _ _⟩
   case round=>
    obtain ⟨k,rfl,hk1,hk2,rfl,Ku⟩:=hrel;have HGr:=Qa (HG.out.since Ku.out);have Sb:=Qa (HS.out.below Ku.out);have HFr:=Qa (HF.out.trans (Fr.of_below _ Ku.out));have z1:wr.cell? ⟨G,1,none⟩=some (.int .i64 (o2:Int)):=HGr.out.at_ rfl;clear z0;by_cases hlt:k<=o2
    ·have Qaf:(k:Int)<=(o2:Int):=(by omega);have c1:=Qvk Sb.out.tabs (op:=k) (by omega);obtain ⟨c,hc⟩:=Qb (Xu.getD k []);rw [<-hc]at c1;clear hc;go_wp2_with fail;refine (Nz c Sb.out).mono ?_;rintro en x3 ⟨rfl,hb⟩;have HB3:=Qa (Z4 Ku.out hb);clear hb;go_wp2_with fail;go_roundw
     case rel=>exact ⟨k+1,rfl,by omega,by omega,by go_num,HB3⟩
     case measure=>simp [intOf];omega
    ·have Qaf: ¬(k:Int)<=(o2:Int):=(by omega);go_wp2_with fail
     try rw [Exit.noGoto_ret]
     go_ret;exact ⟨_,Q0.out,R2,HFr.out,HZ.out,.inr ⟨f,rfl,rfl,Sb.out⟩⟩
theorem Wak {M:Nat} (h:Qmf B g L 0 M):U3 B g L M:=by intro w R d s H hd hM;have HC:=Qa (h w R d s H hd hM);clear h H;go_enter func94,ntmps94;go_wp2_with fail;refine HC.out.mono ?_;rintro en w2 ⟨v,hrd,Yy⟩;obtain ⟨k9,rfl⟩:=Yy.val;have Vy:=Qa Yy;have Q0:=Qa hrd;clear Yy hrd;go_wp2_with fail;go_ret;exact ⟨_,Q0.out,Vy.out⟩
theorem Wbu {M:Nat} (h:Qk4 B g L M):U3 B g L M:=
 Wak (Qka (by decide) (Qka (by decide) (Qka (by decide) (Qka (by decide) (Qka (by decide) (Q98 h))))))
theorem Qmq (B g:Nat) (L:List Tk): ∀M,Qk4 B g L M/\U3 B g L M
 | 0=>⟨λw R d s H _ h=>by have:=H.some;omega,λw R d s H _ h=>by have:=H.some;omega⟩
 |M+1=>by obtain ⟨h1,h2⟩:=Qmq B g L M;have h3:=Wc6 h2 h1;exact ⟨h3,Wbu h3⟩
theorem Wk3 {w:World} {R:Bx} {d:Nat} {s:PS} (H:Good B g L w R d s) (hd:d<=200):
  Calls prog 94 #[.pointer (some ⟨g,0,none⟩)] w (Post B g L (.chain 0) w R d s):=(Qmq B g L s.r.length).2 w R d s H hd (Qh _)
end
end Go.Proofs.YtdncpkkhkbijfaaGreatDoor
