import Derived.Test.YtdncpkkhkbijfaaGreatDoorBa7
open Go.Proofs.Tryz
set_option linter.all false
set_option maxHeartbeats 0
set_option maxRecDepth 100000
namespace Go.Proofs.YtdncpkkhkbijfaaGreatDoor
section
open Go.RowKit
theorem Qa9 {t:List UInt8} (h:t≠[]):ne t=true:=by unfold ne;simpa using h
theorem Wa0 {x:Nd} (hA:Cw x≠[]) (hB:x.t≠[]) (hC:C9 x=[]):hd x=Cw x++[32]++x.t:=by rw [Q5y];unfold three;rw [hC];simp [List.filter,Qa9 hA,Qa9 hB,show ne []=false from rfl,Lib.join_cons,Lib.joinTail]
theorem Qje {x:Nd} (hB:x.t=[]) (hC:C9 x=[]):hd x=Cw x:=by
 rw [Q5y];unfold three;rw [hC,hB];by_cases hA:Cw x=[]
 ·rw [hA];simp [List.filter,show ne []=false from rfl,Lib.join_nil]
 ·simp [List.filter,Qa9 hA,show ne []=false from rfl,Lib.join_one]
theorem Wad {x:Nd} (hA:Cw x=[]) (hC:C9 x=[]):hd x=x.t:=by
 rw [Q5y];unfold three;rw [hC,hA];by_cases hB:x.t=[]
 ·rw [hB];simp [List.filter,show ne []=false from rfl,Lib.join_nil]
 ·simp [List.filter,Qa9 hB,show ne []=false from rfl,Lib.join_one]
theorem Q69 {x:Nd} (hA:Cw x=[]) (hB:x.t≠[]) (hC:C9 x≠[]):hd x=x.t++[32]++C9 x:=by rw [Q5y];unfold three;rw [hA];simp [List.filter,Qa9 hB,Qa9 hC,show ne []=false from rfl,Lib.join_cons,Lib.joinTail]
theorem Wmm {x:Nd} (hA:Cw x≠[]) (hB:x.t≠[]) (hC:C9 x≠[]):hd x=Cw x++[32]++x.t++[32]++C9 x:=by rw [Q5y];unfold three;simp [List.filter,Qa9 hA,Qa9 hB,Qa9 hC,Lib.join_cons,Lib.joinTail]
theorem Wrw {x:Nd} (h:ownB x=true):(named x.kind=true->x.t≠[])/\(named x.kind=false->x.t=[]):=by
 unfold ownB at h;simp only [Yo]at h;have h1:=h.1.2;constructor
 ·intro hn;rw [Qk hn]at h1;unfold Xa at h1;simp only [Yo,Wt]at h1;intro e;rw [e]at h1;exact absurd h1.1.1.1.1 (by simp)
 ·intro hn;rw [hn]at h1;simpa using h1
theorem Qi6 {x:Nd} (h:ownB x=true):Ej x.kind x.n=true:=by unfold ownB at h;simp only [Yo]at h;exact h.2
theorem Wco: ∀k:Fin 17,k.val≠0->Xu.getD k.val []≠[]:=by decide+kernel
theorem Wn0: ∀k:Fin 27,6<=k.val->k.val≠24->Quo.getD k.val []≠[]:=by decide+kernel
theorem Wow: ∀k:Fin 4,k.val≠0->Qhb.getD k.val []≠[]:=by decide+kernel
theorem Qp1 {x:Nd} (h:ownB x=true) (hk:x.kind=5):1<=x.n/\x.n<=16:=by have:=Qi6 h;unfold Ej at this;rw [hk]at this;simpa using this
theorem Wse {x:Nd} (h:ownB x=true) (hk:x.kind=24\/x.kind=25):1<=x.n/\x.n<=3:=by have:=Qi6 h;unfold Ej at this;rcases hk with hk |hk<;>(rw [hk]at this;simpa using this)
theorem Qoh {x:Nd} (h:ownB x=true) (h5:5<=x.kind) (h26:x.kind<=26) (h24:x.kind≠24):Cw x≠[]:=by
 unfold Cw;rw [Qd (by omega),Qd (by omega)];split
 ·rename_i hk;have:=Qp1 h hk;obtain ⟨k,hk⟩: ∃k:Nat,x.n=k:=⟨x.n.toNat,by omega⟩;rw [hk,Q6h (by omega)];exact Wco ⟨k,by omega⟩ (by show k≠0;omega)
 ·exact Wn0 ⟨x.kind.toNat,by omega⟩ (by show 6<=x.kind.toNat;omega) (by show x.kind.toNat≠24;omega)
theorem Qve {x:Nd} (h:ownB x=true) (hk:x.kind=24\/x.kind=25):C9 x=Ud x.n/\C9 x≠[]:=by
 have h1:=Wse h hk;have e:C9 x=Ud x.n:=by unfold C9;rw [Qk hk]
 refine ⟨e,?_⟩;rw [e];obtain ⟨k,hk⟩: ∃k:Nat,x.n=k:=⟨x.n.toNat,by omega⟩;rw [hk,Wdk (by omega)];exact Wow ⟨k,by omega⟩ (by show k≠0;omega)
theorem Qod {x:Nd} (h1:x.kind≠24) (h2:x.kind≠25):C9 x=[]:=by unfold C9;rw [Qd (by omega)]
theorem Qez {X:ByteArray} {b:List UInt8} (h:X.data.toList=b):Value.string X=txt b:=by rw [Q6g,h]
def rs (l:List Nd) (i j:Nat):List UInt8:=hd (nd l i)++((nd l i).kids.take j).flatMap (λk=>32::tx l k.toNat)
theorem Qhf (l:List Nd) (i j:Nat):Ep l i j=40::rs l i j:=by unfold Ep rs;simp
theorem Qzf (l:List Nd) (i:Nat):rs l i 0=hd (nd l i):=by unfold rs;simp
theorem Qge {l:List Nd} {i j q:Nat} (hj:j<(nd l i).kids.length) (hq:(nd l i).kids.getD j 0=(q:Int)):rs l i (j+1)=rs l i j++[32]++tx l q:=by have h:=Q8p hj hq;rw [Qhf,Qhf]at h;simpa using h
theorem Ws8 {l:List Nd} (hA:Ahead l) {i:Nat} (hi:i<l.length) (hk: ¬(nd l i).kind<=4):tx l i=[40]++rs l i (nd l i).kids.length++[41]:=by rw [Qvs hA hi hk,Qhf];rfl
theorem Wec {l:List Nd} (hA:Ahead l) {i j:Nat} (hi:i<l.length) (hk: ¬(nd l i).kind<=4) (hj:j<=(nd l i).kids.length):(rs l i j).length+2<=(tx l i).length:=by have:=Q8d hA hi hk hj;rw [Qhf]at this;simpa using this
theorem Qbr (T:ByteArray):T.size=T.data.toList.length:=(Qa3 T).symm
theorem Q85 (a:Option Addr) (c n:Nat) (l:List Nd) (hn:n=l.length) (hR:Rt l) (hll:n<=100000): ∀(N i:Nat),i<N->i<l.length-> ∀(w:World),Nodes w a l->
  Calls prog 10 #[.slice a n c,.int .i64 (i:Int)] w λe w'=>e= .returned (txt (tx l i))/\Below w.heap.size w w':=by
 intro N
 induction N with
 |zero=>intro i h;omega
 |succ N ih=>
  intro i hiN hil w hN;have Zn:=Qa hn;have HR:=Qa hR;have HA:Hid (Ahead l):=hR.1.2.1;have HN:=Qa hN;have IH:=Qa ih;have Xl:=Qa hil;have hin:(i:Int)<(n:Int):=by omega
  have HOWN:=Qa (Wi7 hR.2.1 hil);have HTS:Hid (∀j,j<l.length->(tx l j).length<=6400000):=λj hj=>by have h1:=Q88 hR.1 hR.2.1 (λj hj=>(hN.2 j hj).n1) hj;omega
  obtain ⟨lb,lo,ha,hlb,h5⟩:=hN.at_ hil;have H8:=Qa (hN.2 i hil);have hkind:=Wix hR.2.1 hil;obtain ⟨x,hx⟩:=Qb (nd l i);rw [<-hx]at h5 H8 HOWN hkind;have HX:=Qa hx;clear hx hn hR hN ih hil;subst ha;obtain ⟨c0,c1,c2,c3,c4⟩:=h5;rw [Q6g x.s]at c3;replace c3:w.cell? ⟨lb,lo+i*5+3,none⟩=some (txt x.t):=c3;unfold txt at c3;have HKR:=Qa H8.out.rows;have hkl:=H8.out.len;have hn1:=H8.out.n1;have hnl:=Wki HOWN.out;have HV:Hid (x.v= .agg #[.int .i64 x.kind,.slice x.ka x.kids.length x.kc,.int .i64 x.n,.string ⟨x.t.toArray⟩,.int .i64 x.at_]):=by show Value.agg #[_,_,_,Value.string x.s,_]=_;rw [Q6g x.s];rfl
  have hword: ∀w',3<=x.kind->Calls prog 28 #[x.v] w' λe w2=>e= .returned (txt (Cw x))/\Below w'.heap.size w' w2:=λw' h3=>Whl x w' h3 hkind.2 (Qp1 HOWN.out);rw [HV.out]at hword;have HT1:=Qa (Wrw HOWN.out);have HWL:=Qa (Wce x H8.out.n0 H8.out.n1);obtain ⟨K,hK⟩:=Qb x.kind;obtain ⟨ka,hka⟩:=Qb x.ka;obtain ⟨kc,hkc⟩:=Qb x.kc;obtain ⟨ks,hks⟩:=Qb x.kids;obtain ⟨m,hm⟩:=Qb ks.length;obtain ⟨nn,hnn⟩:=Qb x.n;obtain ⟨B,hB⟩:=Qb x.t;obtain ⟨at_,hat⟩:=Qb x.at_;rw [<-hK]at c0 hword hkind;rw [<-hka,<-hks,<-hkc,<-hm]at c1 hword;rw [<-hnn]at c2 hword hn1;rw [<-hB]at c3 hword hnl HT1;rw [<-hat]at c4 hword;rw [<-hks,<-hm]at hkl;rw [<-hka,<-hks,<-hm]at HKR;have Qev:=Qa hword;have HK:=Qa hK;have H9:Hid (ks=(nd l i).kids):=by show _=_;rw [hks,HX.out]
  have HM:=Qa hm;have HNN:=Qa hnn;have Yx:=Qa hB;clear hword hK hka hkc hks hm hnn hB hat HV;obtain ⟨w1,hw1⟩:=Qb (w.alloc (.cells #[.int .i64 K,.slice ka m kc,.int .i64 nn,.string ⟨B.toArray⟩,.int .i64 at_] 37));have HB1:Hid (Below w.heap.size w w1):=by rw [hw1];exact Qag
  have HH:Hid (Held w1 w.heap.size 37 #[.int .i64 K,.slice ka m kc,.int .i64 nn,.string ⟨B.toArray⟩,.int .i64 at_]):=by rw [hw1];exact Held.new w _ _
  have HXK:Hid ((nd l i).kind=K):=by show _=_;rw [<-HX.out,HK.out]
  by_cases h4:K<=4
  ·have Qo:Hid (tx l i=hd x):=by show _=_;rw [Qr0 HA.out Xl.out (by rw [HXK.out];exact h4),HX.out]
   rw [Qo.out];have R9:=Qa (Qod (x:=x) (by rw [<-HK.out];omega) (by rw [<-HK.out];omega));by_cases k1:K=1
   ·subst k1;have Ui:Hid (hd x=Lib.itoa nn):=by show _=_;rw [Qje (by rw [<-Yx.out];exact HT1.out.2 (by rw [<-HK.out];rfl)) R9.out];unfold Cw;rw [Qk HK.out.symm,<-HNN.out]
    have hn0:0<=nn:=by have:=Qi6 HOWN.out;unfold Ej at this;rw [Qk HK.out.symm,<-HNN.out]at this;simpa using this
    obtain ⟨u,rfl⟩: ∃u:Nat,nn=u:=⟨nn.toNat,by omega⟩;rw [Ui.out];go_enter func10,ntmps10;go_wp2_with fail;rw [<-hw1];refine (Wsb u w1 (by omega)).mono ?_;rintro e w2 ⟨rfl,hb2⟩;have HB2:Hid (Below w.heap.size w w2):=HB1.out.trans (hb2.mono HB1.out.size);clear hb2;go_wp2_with fail;go_ret;exact ⟨rfl,HB2.out⟩
   by_cases k2:K=2
   ·subst k2;have Ui:Hid (hd x=Lib.formatBool (nn==1)):=by show _=_;rw [Qje (by rw [<-Yx.out];exact HT1.out.2 (by rw [<-HK.out];rfl)) R9.out];unfold Cw;rw [Qd (by rw [<-HK.out];omega),Qk HK.out.symm,<-HNN.out]
    have hn0:nn=0\/nn=1:=by have:=Qi6 HOWN.out;unfold Ej at this;rw [Qd (by rw [<-HK.out];omega),Qk HK.out.symm,<-HNN.out]at this;simpa using this
    rw [Ui.out];rcases hn0 with rfl |rfl
    ·go_enter func10,ntmps10;go_wp2_with fail;go_ret;refine ⟨rfl,?_⟩
     first |exact HB1.out |(rw [<-hw1];exact HB1.out)
    ·go_enter func10,ntmps10;go_wp2_with fail;go_ret;refine ⟨rfl,?_⟩
     first |exact HB1.out |(rw [<-hw1];exact HB1.out)
   ·have hK3:3<=K:=(by omega);have Ui:Hid (hd x=Cw x++B):=by
     show _=_;rcases (show K=3\/K=4 by omega)with h |h
     ·have hb:B=[]:=HT1.out.2 (by rw [<-HK.out,h];rfl);rw [Qje (by rw [<-Yx.out];exact hb) R9.out,hb,Xe]
     ·have ha:Cw x=[]:=by unfold Cw;rw [<-HK.out,h];rfl
      rw [Wad ha R9.out,ha,Yx.out];rfl
    rw [Ui.out];have hwl:=HWL.out;obtain ⟨A,hA⟩:=Qb (Cw x);have hwd: ∀d os,Calls prog 28 #[.agg #[.int .i64 K,.slice ka m kc,.int .i64 nn,.string ⟨B.toArray⟩,.int .i64 at_]] (Sort.grow (redrawn w1 d) os) λe w''=>e= .returned (txt A)/\ ∃q:Regrown,w''=Sort.grow (redrawn w1 q.d) q.os:=λd os=>Calls.regrown_of (by rw [hA];exact Qev.out _ hK3);rw [<-hA]at hwl ⊢;clear hA;unfold txt at hwd;have e1:(K==1)=false:=(by simpa using k1);have e2:(K==2)=false:=(by simpa using k2);clear k1 k2;go_enter func10,ntmps10;go_wp2_with fail;rw [<-hw1];obtain ⟨g,hg⟩:=Qb w.heap.size;rw [<-hg]at HH ⊢;clear hw1 hg;have k0:=cell_regrown (HH.out.at_ (j:=0) rfl);have k1:=cell_regrown (HH.out.at_ (j:=1) rfl);have k2:=cell_regrown (HH.out.at_ (j:=2) rfl);have k3:=cell_regrown (HH.out.at_ (j:=3) rfl);have k4:=cell_regrown (HH.out.at_ (j:=4) rfl);refine wp_region_quiet_below (by kernel_rfl) (by kernel_rfl) ?_
    repeat (any_goals (first |go_big_quiet_step (exact hwd _ _) |quiet_step (exact hwd _ _)))
    refine wpQuiet_nil ?_;intro _ hw';obtain ⟨⟨dq,osq⟩,hw''⟩:=hw';obtain ⟨w2,hw2⟩:=Qb (Sort.grow (redrawn w1 dq) osq);have HB2:Hid (Below w.heap.size w w2):=(by rw [hw2];exact HB1.out.trans ((below_regrown w1 dq osq).mono HB1.out.size));rw [hw'',<-hw2];clear hw2 hw'' k0 k1 k2 k3 k4 hwd HH;go_wp2_with fail;go_ret;exact ⟨congrArg Ending.returned (Qez (by simp)),HB2.out⟩
  ·have h5:5<=K:=(by omega);have Z9:=Qa (λ(j:Nat) (hj:j<=(nd l i).kids.length)=>Wec HA.out (j:=j) Xl.out (by rw [HXK.out];exact h4) hj);have Qhr:=Qa (Ws8 HA.out Xl.out (by rw [HXK.out];exact h4));have HZ:=Qa (Qzf l i);have htl:=HTS.out i Xl.out;have e1:(K==1)=false:=(by simp;omega);have e2:(K==2)=false:=(by simp;omega);have hwl:=HWL.out;rcases (show (K≠24/\K≠25/\B=[])\/(K≠24/\K≠25/\B≠[])\/K=24\/K=25 by by_cases a:K=24<;>by_cases b:K=25<;>by_cases c:B=[]<;>simp [a,b,c])with ⟨g1,g2,g3⟩ |⟨g1,g2,g3⟩ |g1 |g1
   ·have HAN:=Qa (Qoh HOWN.out (by rw [<-HK.out];omega) (by rw [<-HK.out];omega) (by rw [<-HK.out];exact g1));have Ui:=Qa (Qje (x:=x) (by rw [<-Yx.out];exact g3) (Qod (by rw [<-HK.out];exact g1) (by rw [<-HK.out];exact g2)));have e24:(K==24)=false:=(by simpa using g1);have e25:(K==25)=false:=(by simpa using g2);clear g1 g2;subst g3;go_enter func10,ntmps10;go_wp2_with fail;rw [<-hw1];refine (Qev.out w1 (by omega)).mono ?_;rintro e w2 ⟨rfl,hb2⟩;have HB2:Hid (Below w.heap.size w w2):=HB1.out.trans (hb2.mono HB1.out.size);have Q7:=Qa (HH.out.since hb2);obtain ⟨g,hg⟩:=Qb w.heap.size;rw [<-hg]at Q7 ⊢;clear hb2 hw1 hg;have k0:=Q7.out.at_ (j:=0) rfl;have k1:=Q7.out.at_ (j:=1) rfl;have k2:=Q7.out.at_ (j:=2) rfl;have k3:=Q7.out.at_ (j:=3) rfl;obtain ⟨A,hA⟩:=Qb (Cw x);rw [<-hA]at HAN Ui hwl ⊢;clear hA;have hae:A.isEmpty=false:=(by rw [List.isEmpty_eq_false_iff];exact HAN.out);have Wp:(⟨A.toArray⟩:ByteArray).toList=A:=Qsa A;unfold txt;go_wp2_with fail;have HBn:=HB2;have HHn:=Q7;clear k0 k1 k2 k3;go_loopw [6,7] (λt6 t7 wr=> ∃(j:Nat) (T:ByteArray),j<=m/\t7= .int .i64 (j:Int)/\t6= .string T/\T.size<=6400000/\Hid (T.data.toList=rs l i j)/\Hid (Below w.heap.size w wr)/\Hid (Held wr g 37 _)) (λ_ t7 _=>m-(intOf t7).toNat)
    case atStart=>
     have hh:Hid (hd (nd l i)=hd x):=(by show _=_;rw [HX.out]);refine ⟨0,_,by omega,rfl,rfl,?_,?_,HBn,HHn⟩
     ·rw [Qbr];have h1:=Z9.out 0 (by omega);rw [HZ.out,hh.out,Ui.out]at h1
      try rw [<-Yx.out]at h1
      simp at h1 ⊢;omega
     ·show _=_;rw [HZ.out,hh.out,Ui.out]
      try rw [<-Yx.out]
      simp
    case round=>
     obtain ⟨j,T,hj,rfl,rfl,hT,HT,H7,HHj⟩:=hrel;have k1:=HHj.out.at_ (j:=1) rfl;by_cases hjm:j<m
     ·have Qgb:(j:Int)<(m:Int):=(by omega);have hjk:Hid (j<(nd l i).kids.length):=(by show j<_;rw [<-H9.out,<-HM.out];exact hjm);obtain ⟨q,hq,hqi,_⟩:=Qd7 HA.out Xl.out hjk.out;obtain ⟨kb,ko,rfl,hkb,hkc⟩:=(HKR.out.below H7.out) (by omega);have hc:=hkc j hjm;simp only at hc;rw [H9.out,hq]at hc;have Yi:=Qa (Qge hjk.out hq);have hqt:=HTS.out q (by have:=Xl.out;omega);clear hkc hq;go_wp2_with fail;refine (IH.out q (by omega) (by have:=Xl.out;omega) wr (HN.out.below H7.out)).mono ?_;rintro e w4 ⟨rfl,hb4⟩;have Jf:Hid (Below w.heap.size w w4):=H7.out.trans (hb4.mono H7.out.size);have X5:=Qa (HHj.out.since hb4);obtain ⟨Y,hY⟩:=Qb (tx l q);rw [<-hY]at Yi hqt ⊢;clear hb4 hY;unfold txt;go_wp2_with fail;go_roundw
      case rel=>
       refine ⟨j+1,_,by omega,by go_num,rfl,?_,?_,Jf,X5⟩
       ·rw [Qbr];have h1:=Z9.out (j+1) (by have:=hjk.out;omega);rw [Yi.out,<-HT.out]at h1;simp at h1 ⊢;omega
       ·show _=_;rw [Yi.out,<-HT.out];simp
      case measure=>simp [intOf];omega
     ·obtain ⟨ej⟩:Nonempty (j=m):=⟨by omega⟩;have HEJ:Hid (j=(nd l i).kids.length):=(by show _=_;rw [ej,HM.out,H9.out]);clear ej;go_wp2_with fail;go_ret;refine ⟨congrArg Ending.returned (Qez ?_),H7.out⟩;rw [Qhr.out,<-HEJ.out,<-HT.out];simp
   ·have HAN:=Qa (Qoh HOWN.out (by rw [<-HK.out];omega) (by rw [<-HK.out];omega) (by rw [<-HK.out];exact g1));have Ui:=Qa (Wa0 (x:=x) HAN.out (by rw [<-Yx.out];exact g3) (Qod (by rw [<-HK.out];exact g1) (by rw [<-HK.out];exact g2)));have e24:(K==24)=false:=(by simpa using g1);have e25:(K==25)=false:=(by simpa using g2);clear g1 g2;have hbe:B.isEmpty=false:=(by rw [List.isEmpty_eq_false_iff];exact g3);have htb:(⟨B.toArray⟩:ByteArray).toList=B:=Qsa B;go_enter func10,ntmps10;go_wp2_with fail;rw [<-hw1];refine (Qev.out w1 (by omega)).mono ?_;rintro e w2 ⟨rfl,hb2⟩;have HB2:Hid (Below w.heap.size w w2):=HB1.out.trans (hb2.mono HB1.out.size);have Q7:=Qa (HH.out.since hb2);obtain ⟨g,hg⟩:=Qb w.heap.size;rw [<-hg]at Q7 ⊢;clear hb2 hw1 hg;have k0:=Q7.out.at_ (j:=0) rfl;have k1:=Q7.out.at_ (j:=1) rfl;have k2:=Q7.out.at_ (j:=2) rfl;have k3:=Q7.out.at_ (j:=3) rfl;obtain ⟨A,hA⟩:=Qb (Cw x);rw [<-hA]at HAN Ui hwl ⊢;clear hA;have hae:A.isEmpty=false:=(by rw [List.isEmpty_eq_false_iff];exact HAN.out);have Wp:(⟨A.toArray⟩:ByteArray).toList=A:=Qsa A;unfold txt;go_wp2_with fail;have HBn:=HB2;have HHn:=Q7;clear k0 k1 k2 k3;go_loopw [6,7] (λt6 t7 wr=> ∃(j:Nat) (T:ByteArray),j<=m/\t7= .int .i64 (j:Int)/\t6= .string T/\T.size<=6400000/\Hid (T.data.toList=rs l i j)/\Hid (Below w.heap.size w wr)/\Hid (Held wr g 37 _)) (λ_ t7 _=>m-(intOf t7).toNat)
    case atStart=>
     have hh:Hid (hd (nd l i)=hd x):=(by show _=_;rw [HX.out]);refine ⟨0,_,by omega,rfl,rfl,?_,?_,HBn,HHn⟩
     ·rw [Qbr];have h1:=Z9.out 0 (by omega);rw [HZ.out,hh.out,Ui.out]at h1
      try rw [<-Yx.out]at h1
      simp at h1 ⊢;omega
     ·show _=_;rw [HZ.out,hh.out,Ui.out]
      try rw [<-Yx.out]
      simp
    case round=>
     obtain ⟨j,T,hj,rfl,rfl,hT,HT,H7,HHj⟩:=hrel;have k1:=HHj.out.at_ (j:=1) rfl;by_cases hjm:j<m
     ·have Qgb:(j:Int)<(m:Int):=(by omega);have hjk:Hid (j<(nd l i).kids.length):=(by show j<_;rw [<-H9.out,<-HM.out];exact hjm);obtain ⟨q,hq,hqi,_⟩:=Qd7 HA.out Xl.out hjk.out;obtain ⟨kb,ko,rfl,hkb,hkc⟩:=(HKR.out.below H7.out) (by omega);have hc:=hkc j hjm;simp only at hc;rw [H9.out,hq]at hc;have Yi:=Qa (Qge hjk.out hq);have hqt:=HTS.out q (by have:=Xl.out;omega);clear hkc hq;go_wp2_with fail;refine (IH.out q (by omega) (by have:=Xl.out;omega) wr (HN.out.below H7.out)).mono ?_;rintro e w4 ⟨rfl,hb4⟩;have Jf:Hid (Below w.heap.size w w4):=H7.out.trans (hb4.mono H7.out.size);have X5:=Qa (HHj.out.since hb4);obtain ⟨Y,hY⟩:=Qb (tx l q);rw [<-hY]at Yi hqt ⊢;clear hb4 hY;unfold txt;go_wp2_with fail;go_roundw
      case rel=>
       refine ⟨j+1,_,by omega,by go_num,rfl,?_,?_,Jf,X5⟩
       ·rw [Qbr];have h1:=Z9.out (j+1) (by have:=hjk.out;omega);rw [Yi.out,<-HT.out]at h1;simp at h1 ⊢;omega
       ·show _=_;rw [Yi.out,<-HT.out];simp
      case measure=>simp [intOf];omega
     ·obtain ⟨ej⟩:Nonempty (j=m):=⟨by omega⟩;have HEJ:Hid (j=(nd l i).kids.length):=(by show _=_;rw [ej,HM.out,H9.out]);clear ej;go_wp2_with fail;go_ret;refine ⟨congrArg Ending.returned (Qez ?_),H7.out⟩;rw [Qhr.out,<-HEJ.out,<-HT.out];simp
   ·subst g1;have HAN:Hid (Cw x=[]):=by show _=_;unfold Cw;rw [<-HK.out];rfl
    have R9:=Qa (Qve HOWN.out (.inl HK.out.symm));have hbn:B≠[]:=HT1.out.1 (by rw [<-HK.out];rfl);have Ui:=Qa (Q69 HAN.out (by rw [<-Yx.out];exact hbn) R9.out.2);have hbe:B.isEmpty=false:=(by rw [List.isEmpty_eq_false_iff];exact hbn);have htb:(⟨B.toArray⟩:ByteArray).toList=B:=Qsa B;go_enter func10,ntmps10;go_wp2_with fail;rw [<-hw1];refine (Qev.out w1 (by omega)).mono ?_;rintro e w2 ⟨rfl,hb2⟩;have HB2:Hid (Below w.heap.size w w2):=HB1.out.trans (hb2.mono HB1.out.size);have Q7:=Qa (HH.out.since hb2);obtain ⟨g,hg⟩:=Qb w.heap.size;rw [<-hg]at Q7 ⊢;clear hb2 hw1 hg;have k0:=Q7.out.at_ (j:=0) rfl;have k1:=Q7.out.at_ (j:=1) rfl;have k2:=Q7.out.at_ (j:=2) rfl;have k3:=Q7.out.at_ (j:=3) rfl;rw [HAN.out];unfold txt;go_wp2_with fail;refine (Qtg nn w2).mono ?_;rintro e w3 ⟨rfl,hb3⟩;have HB3:Hid (Below w.heap.size w w3):=HB2.out.trans (hb3.mono HB2.out.size);have Q9:=Qa (Q7.out.since hb3);have hkw:(Ud nn).length<=4:=(by have:=Whv x;rw [R9.out.1,<-HNN.out]at this;exact this);rw [R9.out.1,<-HNN.out]at Ui;obtain ⟨C,hC⟩:=Qb (Ud nn);rw [<-hC]at Ui hkw ⊢;clear hC hb3 k0 k1 k2 k3;have k1:=Q9.out.at_ (j:=1) rfl;unfold txt;go_wp2_with fail;have HBn:=HB3;have HHn:=Q9;clear k1;go_loopw [6,7] (λt6 t7 wr=> ∃(j:Nat) (T:ByteArray),j<=m/\t7= .int .i64 (j:Int)/\t6= .string T/\T.size<=6400000/\Hid (T.data.toList=rs l i j)/\Hid (Below w.heap.size w wr)/\Hid (Held wr g 37 _)) (λ_ t7 _=>m-(intOf t7).toNat)
    case atStart=>
     have hh:Hid (hd (nd l i)=hd x):=(by show _=_;rw [HX.out]);refine ⟨0,_,by omega,rfl,rfl,?_,?_,HBn,HHn⟩
     ·rw [Qbr];have h1:=Z9.out 0 (by omega);rw [HZ.out,hh.out,Ui.out]at h1
      try rw [<-Yx.out]at h1
      simp at h1 ⊢;omega
     ·show _=_;rw [HZ.out,hh.out,Ui.out]
      try rw [<-Yx.out]
      simp
    case round=>
     obtain ⟨j,T,hj,rfl,rfl,hT,HT,H7,HHj⟩:=hrel;have k1:=HHj.out.at_ (j:=1) rfl;by_cases hjm:j<m
     ·have Qgb:(j:Int)<(m:Int):=(by omega);have hjk:Hid (j<(nd l i).kids.length):=(by show j<_;rw [<-H9.out,<-HM.out];exact hjm);obtain ⟨q,hq,hqi,_⟩:=Qd7 HA.out Xl.out hjk.out;obtain ⟨kb,ko,rfl,hkb,hkc⟩:=(HKR.out.below H7.out) (by omega);have hc:=hkc j hjm;simp only at hc;rw [H9.out,hq]at hc;have Yi:=Qa (Qge hjk.out hq);have hqt:=HTS.out q (by have:=Xl.out;omega);clear hkc hq;go_wp2_with fail;refine (IH.out q (by omega) (by have:=Xl.out;omega) wr (HN.out.below H7.out)).mono ?_;rintro e w4 ⟨rfl,hb4⟩;have Jf:Hid (Below w.heap.size w w4):=H7.out.trans (hb4.mono H7.out.size);have X5:=Qa (HHj.out.since hb4);obtain ⟨Y,hY⟩:=Qb (tx l q);rw [<-hY]at Yi hqt ⊢;clear hb4 hY;unfold txt;go_wp2_with fail;go_roundw
      case rel=>
       refine ⟨j+1,_,by omega,by go_num,rfl,?_,?_,Jf,X5⟩
       ·rw [Qbr];have h1:=Z9.out (j+1) (by have:=hjk.out;omega);rw [Yi.out,<-HT.out]at h1;simp at h1 ⊢;omega
       ·show _=_;rw [Yi.out,<-HT.out];simp
      case measure=>simp [intOf];omega
     ·obtain ⟨ej⟩:Nonempty (j=m):=⟨by omega⟩;have HEJ:Hid (j=(nd l i).kids.length):=(by show _=_;rw [ej,HM.out,H9.out]);clear ej;go_wp2_with fail;go_ret;refine ⟨congrArg Ending.returned (Qez ?_),H7.out⟩;rw [Qhr.out,<-HEJ.out,<-HT.out];simp
   ·subst g1;have HAN:=Qa (Qoh HOWN.out (by rw [<-HK.out];omega) (by rw [<-HK.out];omega) (by rw [<-HK.out];omega));have R9:=Qa (Qve HOWN.out (.inr HK.out.symm));have hbn:B≠[]:=HT1.out.1 (by rw [<-HK.out];rfl);have Ui:=Qa (Wmm HAN.out (by rw [<-Yx.out];exact hbn) R9.out.2);have hbe:B.isEmpty=false:=(by rw [List.isEmpty_eq_false_iff];exact hbn);have htb:(⟨B.toArray⟩:ByteArray).toList=B:=Qsa B;go_enter func10,ntmps10;go_wp2_with fail;rw [<-hw1];refine (Qev.out w1 (by omega)).mono ?_;rintro e w2 ⟨rfl,hb2⟩;have HB2:Hid (Below w.heap.size w w2):=HB1.out.trans (hb2.mono HB1.out.size);have Q7:=Qa (HH.out.since hb2);obtain ⟨g,hg⟩:=Qb w.heap.size;rw [<-hg]at Q7 ⊢;clear hb2 hw1 hg;have k0:=Q7.out.at_ (j:=0) rfl;have k1:=Q7.out.at_ (j:=1) rfl;have k2:=Q7.out.at_ (j:=2) rfl;have k3:=Q7.out.at_ (j:=3) rfl;obtain ⟨A,hA⟩:=Qb (Cw x);rw [<-hA]at HAN Ui hwl ⊢;clear hA;have hae:A.isEmpty=false:=(by rw [List.isEmpty_eq_false_iff];exact HAN.out);have Wp:(⟨A.toArray⟩:ByteArray).toList=A:=Qsa A;unfold txt;go_wp2_with fail;refine (Qtg nn w2).mono ?_;rintro e w3 ⟨rfl,hb3⟩;have HB3:Hid (Below w.heap.size w w3):=HB2.out.trans (hb3.mono HB2.out.size);have Q9:=Qa (Q7.out.since hb3);have hkw:(Ud nn).length<=4:=(by have:=Whv x;rw [R9.out.1,<-HNN.out]at this;exact this);rw [R9.out.1,<-HNN.out]at Ui;obtain ⟨C,hC⟩:=Qb (Ud nn);rw [<-hC]at Ui hkw ⊢;clear hC hb3 k0 k1 k2 k3;have k1:=Q9.out.at_ (j:=1) rfl;unfold txt;go_wp2_with fail;have HBn:=HB3;have HHn:=Q9;clear k1;go_loopw [6,7] (λt6 t7 wr=> ∃(j:Nat) (T:ByteArray),j<=m/\t7= .int .i64 (j:Int)/\t6= .string T/\T.size<=6400000/\Hid (T.data.toList=rs l i j)/\Hid (Below w.heap.size w wr)/\Hid (Held wr g 37 _)) (λ_ t7 _=>m-(intOf t7).toNat)
    case atStart=>
     have hh:Hid (hd (nd l i)=hd x):=(by show _=_;rw [HX.out]);refine ⟨0,_,by omega,rfl,rfl,?_,?_,HBn,HHn⟩
     ·rw [Qbr];have h1:=Z9.out 0 (by omega);rw [HZ.out,hh.out,Ui.out]at h1
      try rw [<-Yx.out]at h1
      simp at h1 ⊢;omega
     ·show _=_;rw [HZ.out,hh.out,Ui.out]
      try rw [<-Yx.out]
      simp
    case round=>
     obtain ⟨j,T,hj,rfl,rfl,hT,HT,H7,HHj⟩:=hrel;have k1:=HHj.out.at_ (j:=1) rfl;by_cases hjm:j<m
     ·have Qgb:(j:Int)<(m:Int):=(by omega);have hjk:Hid (j<(nd l i).kids.length):=(by show j<_;rw [<-H9.out,<-HM.out];exact hjm);obtain ⟨q,hq,hqi,_⟩:=Qd7 HA.out Xl.out hjk.out;obtain ⟨kb,ko,rfl,hkb,hkc⟩:=(HKR.out.below H7.out) (by omega);have hc:=hkc j hjm;simp only at hc;rw [H9.out,hq]at hc;have Yi:=Qa (Qge hjk.out hq);have hqt:=HTS.out q (by have:=Xl.out;omega);clear hkc hq;go_wp2_with fail;refine (IH.out q (by omega) (by have:=Xl.out;omega) wr (HN.out.below H7.out)).mono ?_;rintro e w4 ⟨rfl,hb4⟩;have Jf:Hid (Below w.heap.size w w4):=H7.out.trans (hb4.mono H7.out.size);have X5:=Qa (HHj.out.since hb4);obtain ⟨Y,hY⟩:=Qb (tx l q);rw [<-hY]at Yi hqt ⊢;clear hb4 hY;unfold txt;go_wp2_with fail;go_roundw
      case rel=>
       refine ⟨j+1,_,by omega,by go_num,rfl,?_,?_,Jf,X5⟩
       ·rw [Qbr];have h1:=Z9.out (j+1) (by have:=hjk.out;omega);rw [Yi.out,<-HT.out]at h1;simp at h1 ⊢;omega
       ·show _=_;rw [Yi.out,<-HT.out];simp
      case measure=>simp [intOf];omega
     ·obtain ⟨ej⟩:Nonempty (j=m):=⟨by omega⟩;have HEJ:Hid (j=(nd l i).kids.length):=(by show _=_;rw [ej,HM.out,H9.out]);clear ej;go_wp2_with fail;go_ret;refine ⟨congrArg Ending.returned (Qez ?_),H7.out⟩;rw [Qhr.out,<-HEJ.out,<-HT.out];simp
theorem Qta (a:Option Addr) (c n:Nat) (l:List Nd) (w:World) (z:Int) (i:Nat) (hn:n=l.length) (hR:Rt l) (hN:Nodes w a l) (hll:n<=100000) (hi:i<l.length) (hz:z=(i:Int)):
  Calls prog 10 #[.slice a n c,.int .i64 z] w λe w'=>e= .returned (txt (tx l i))/\Below w.heap.size w w':=by
 subst hz;exact Q85 a c n l hn hR hll (i+1) i (by omega) hi w hN
end
def Sm (x y:Nd):Prop:=x.kind=y.kind/\x.n=y.n/\x.t=y.t/\x.kids=y.kids
def Al (a b:List Nd):Prop:=a.length=b.length/\ ∀j,j<a.length->Sm (nd a j) (nd b j)
theorem Sm.refl (x:Nd):Sm x x:=⟨rfl,rfl,rfl,rfl⟩
theorem Qxf {l:List Nd} {i:Nat} (h: ¬i<l.length):nd l i=Nd.zero:=by unfold nd;rw [Yc,Qbz (by omega)];rfl
theorem Al.all {a b:List Nd} (h:Al a b) (j:Nat):Sm (nd a j) (nd b j):=by
 by_cases hj:j<a.length
 ·exact h.2 j hj
 ·rw [Qxf hj,Qxf (by rw [<-h.1];exact hj)];exact Sm.refl _
theorem Al.symm {a b:List Nd} (h:Al a b):Al b a:=⟨h.1.symm,λj _=>by obtain ⟨h1,h2,h3,h4⟩:=h.all j;exact ⟨h1.symm,h2.symm,h3.symm,h4.symm⟩⟩
theorem Al.Jc {a b:List Nd} (h:Al a b): ∀i,i<=a.length->Jc a i=Jc b i
 | 0,_=>by simp [Proofs.YtdncpkkhkbijfaaGreatDoor.Jc]
 |i+1,hi=>by rw [Qf0 (by omega),Qf0 (by rw [<-h.1];omega),h.Jc i (by omega),(h.all i).2.2.2]
theorem Al.ahead {a b:List Nd} (h:Al a b) (hA:Ahead a):Ahead b:=by intro i hi k hk;rw [<-(h.all i).2.2.2]at hk;exact hA i (by rw [h.1];exact hi) k hk
theorem Al.fold {α:Type} {f:Nd->List α->α} (hf: ∀x y ts,Sm x y->f x ts=f y ts) {a b:List Nd} (h:Al a b): ∀g i,fold f a g i=fold f b g i
 | 0,i=>hf _ _ _ (h.all i)
 |g+1,i=>by simp only [Proofs.YtdncpkkhkbijfaaGreatDoor.fold];rw [hf _ _ _ (h.all i),(h.all i).2.2.2];congr 1;apply List.map_congr_left;intro k _;exact h.fold hf g k.toNat
theorem Al.hgt {a b:List Nd} (h:Al a b) (i:Nat):hgt a i=hgt b i:=h.fold (λ_ _ _ _=>rfl) i i
theorem Al.ist {a b:List Nd} (h:Al a b) (hT:Hw a):Hw b:=by obtain ⟨h0,hA,hN,hL⟩:=hT;rw [h.Jc _ (Qh _),h.1]at hN hL;rw [h.1]at h0;exact ⟨h0,h.ahead hA,hN,hL⟩
theorem Al.fit {a b:List Nd} (h:Al a b) (i:Nat) (hat:0<=(nd a i).at_↔0<=(nd b i).at_):J7 a (nd a i)=J7 b (nd b i):=by
 obtain ⟨h1,h2,h3,h4⟩:=h.all i;have hk:kk a (nd a i)=kk b (nd b i):=by unfold kk;rw [h4];apply List.map_congr_left;intro k _;exact (h.all k.toNat).1
 unfold J7 ownB;rw [hk,h1,h2,h3];congr 4;simpa using hat
theorem Al.rt {a b:List Nd} (h:Al a b) (hat: ∀i,0<=(nd a i).at_↔0<=(nd b i).at_) (hR:Rt a):Rt b:=by
 obtain ⟨hT,hF,hH⟩:=hR;refine ⟨h.ist hT,λi hi=> ?_,?_⟩
 ·rw [<-h.fit i (hat i)];exact hF i (by rw [h.1];exact hi)
 ·rw [<-h.1,<-h.hgt];exact hH
theorem Wgw (W:World) (S:ByteArray) (c:Nat):(convert 40 9 (.slice (some ⟨W.heap.size,0,none⟩) S.size c)).run prog (W.drew.alloc (.cells (bytesRow S c) 5 ((bytesRow S c).size,(bytesRow S c).size+1)))=
  .ok (.string S) (W.drew.alloc (.cells (bytesRow S c) 5 ((bytesRow S c).size,(bytesRow S c).size+1))):=by
 have h:=run_convert_bytes_back (P:=prog) (W.drew.alloc (.cells (bytesRow S c) 5 ((bytesRow S c).size,(bytesRow S c).size+1))) 40 9 5 ⟨W.heap.size,0,none⟩ c S.data.toList underlying40 underlying5 underlying9 ?_
 ·rw [Qa3]at h;exact h
 ·intro j hj;rw [Qa3]at hj;have he:(⟨W.heap.size,0,none⟩:Addr).add j=⟨W.heap.size,j,none⟩:=by
   simp only [Addr.add];split
   ·rename_i h0;rw [h0]
   ·rw [Bq]
  rw [he];refine (World.cell?_alloc_mark W.drew (bytesRow S c) 5 _ j).trans ?_;rw [bytesRow_at S c j hj];rfl
theorem Wnv (W:World) (S:ByteArray) (m:Nat) (hm:S.size=m): ∃(cap:Nat) (C:Array Value) (fr:Nat×Nat),
  (convert 9 40 (.string S)).run prog W= .ok (.slice (some ⟨W.heap.size,0,none⟩) m cap) (W.alloc (.cells C 5 fr)).drew/\
  (convert 40 9 (.slice (some ⟨W.heap.size,0,none⟩) m cap)).run prog (W.alloc (.cells C 5 fr)).drew= .ok (.string S) (W.alloc (.cells C 5 fr)).drew:=by
 subst hm;exact ⟨_,_,_,run_bytes_of_string (P:=prog) W 9 40 5 S underlying9 underlying40 underlying5,Wgw W S _⟩
end Go.Proofs.YtdncpkkhkbijfaaGreatDoor
