import Derived.Test.YtdncpkkhkbijfaaDoorTe16
open Go.Proofs.Tryd
set_option linter.all false
set_option maxHeartbeats 0
set_option maxRecDepth 100000
namespace Go.Proofs.YtdncpkkhkbijfaaDoor
section
open Go.RowKit
theorem Qa4 (a:St) (e:Nat): ∀b:List St,Y4 (b++[a]) e=Y4 b e++(tabs e++(a.txt e++[10]))
 | []=>by show Y4 [a] e=Y4 [] e++_;simp [Y4]
 |x::b=>by show Y4 (x::(b++[a])) e=_;rw [Y4,Y4,Qa4 a e b];simp only [Yg,List.cons_append]
theorem Qbw {b:List St} {e j:Nat} (hj:j<b.length):Y4 (b.take (j+1)) e=Y4 (b.take j) e++tabs e++(b.getD j .brk).txt e++[10]:=by rw [Iw (d:=St.brk) hj,Qa4];simp only [Yg]
theorem P7 (e:Nat): ∀(b:List St) (j:Nat),(Y4 (b.take j) e).length<=(Y4 b e).length
 | [],j=>by rw [List.take_nil];exact Yc _
 |x::b,0=>by rw [List.take_zero,Y4];exact Kr _
 |x::b,j+1=>by have:=P7 e b j;rw [List.take_succ_cons,Y4,Y4];simp only [Qd,Qf];omega
theorem Qil {Q:Ql} {i d:Nat} {ks:List Int} {b:List St} (h:Qg Q.P.l i 23 0 [] ks) (hlen:ks.length=b.length) (Vb: ∀j,j<ks.length-> ∃q:Nat,ks[j]? =some (q:Int)/\Xf Q q (d+1) ((b.getD j .brk).txt (d+1))):Xf Q i d (Ww b d):=by
 intro t w hE hl;obtain ⟨D,hD⟩:=Qb (d+1:Nat);rw [<-hD]at Vb;have Qe:Hid (Ww b d=([]++[])++[123,10]++Y4 b D++(tabs d++[125])):=by show _=_;rw [hD];unfold Ww;simp
 have HS:Hid (([]:List UInt8).length<=32):=by show _<=_;simp
 have Er:=Qa Vb;have hml:=(hE.ee.nodes.2 i h.hi).len;rw [h.ks]at hml;obtain ⟨m,hm⟩:=Qb ks.length;rw [<-hm]at hml;have HM:Hid (ks.length=m):=hm.symm;have Zn:Hid (b.length=m):=by rw [hm];exact hlen.symm
 have hd9:D<=140737488355328:=by rw [hD];have h1:=hl;rw [Qe.out]at h1;simp only [Qd,Qf,Qk,Qgq]at h1;omega
 have Qfs:=Qa (λw':World=>Qf7 d w' (by omega));have Qek:=Qa (λw':World=>Qf7 D w' hd9);obtain ⟨RB,Oz⟩:=Qb (⟨(tabs d).toArray⟩:ByteArray);rw [<-Oz]at Qfs;have Qss:RB.size+1<=140737488355328:=by rw [Oz,Wj,Qgq];omega
 have Qth: ¬(9223372036854775807<RB.size+1):=by omega
 have Qng:Hid (RB.data.toList=tabs d):=by show _=_;rw [Oz]
 have hDi:(d:Int)+1=(D:Int):=by omega
 have hDw:IntKind.i64.wrap (D:Int)=(D:Int):=Go.IntWalk.i64_in _ (by omega);clear Vb hlen hm Oz hD;obtain ⟨nb,no,ka,kc,at_,hN⟩:=Zx hE.ee h;have HE:=Qa hE;have HN:=Qa hN;have HL:=Qa hl;have hin:(i:Int)<(Q.P.n:Int):=by have:=hE.ee.len;have:=h.hi;omega
 clear hE hN hl h;have cL:=HE.out.lc.at_ (j:=0) rfl;rw [HN.out.base]at cL;obtain ⟨c0,c1,c2,c3,c4⟩:=HN.out.cells t w HE.out.ee;rw [HM.out]at c1;obtain ⟨SB,hsb⟩:=Qb (⟨([]:List UInt8).toArray⟩:ByteArray);rw [<-hsb]at c3;have Wq:Hid (SB.data.toList=[]):=by show _=_;rw [hsb]
 have hsbz:SB.size<=32:=by rw [hsb,Wj];exact HS.out
 clear hsb;go_enter func29,ntmps29;go_wp2_with fail;obtain ⟨w1,hw1⟩:=Qb (w.alloc (.cells #[.int .i64 23,.slice ka m kc,.int .i64 0,.string SB,.int .i64 at_] 25));obtain ⟨xn,hxn⟩:=Qb w.heap.size;have HB1:Hid (Below w.heap.size w w1):=by rw [hw1];exact Qn
 have Qs:Hid (Held w1 xn 25 #[.int .i64 23,.slice ka m kc,.int .i64 0,.string SB,.int .i64 at_]):=by rw [hw1,hxn];exact Held.new w _ _
 have Qm:Hid (xn≠Q.P.ob):=by have:=HE.out.ee.bd.lt;show _≠_;omega
 rw [<-hw1,<-hxn];have Qi:=Qa (HE.out.since HB1.out);have Y3:Hid (Qc Q.P.B Q.P.ob w w1):=.of HE.out.ee.bd.size HB1.out;clear hw1 hxn c0 c1 c2 c3 c4 cL;have cX:=Qi.out.xc.at_ (j:=0) rfl;have c0:=Qs.out.at_ (j:=0) rfl;have c3:=Qs.out.at_ (j:=3) rfl;have cH:w1.cell? ⟨0,23,none⟩=some (.string ⟨([]:List UInt8).toArray⟩):=Wv (Wm Qi.out.ee.tabs.heads Qi.out.ee.below) (Z0 23 (by decide));have hz1: ¬(9223372036854775807<0+SB.size):=by omega
 have hz2: ¬(9223372036854775807<SB.size):=by omega
 go_still_tail 8,(by kernel_rfl);change wpList _ _ _ _ _ w1.drew;obtain ⟨v1,hv1⟩:=Qb w1.drew;have HD1:Hid (Below w1.heap.size w1 v1):=by rw [hv1];exact Q5 w1 1 _
 rw [<-hv1];clear hv1 c0 c3 cX cH;go_wp2_with fail;refine (Xb _ ([]++[]) (by simp [Wq.out]) (Qi.out.since HD1.out).ee.bd (by have h1:=HL.out;rw [Qe.out]at h1;simp only [Qd,Qf,Qk]at h1 ⊢;omega)).mono ?_;rintro e w2 ⟨rfl,he2,hk2⟩;have Ws:Hid (Qc Q.P.B Q.P.ob w w2):=(Y3.out.trans (.of Qi.out.ee.bd.size HD1.out)).trans hk2;have Qh:=Qa (((Qc.of Qi.out.ee.bd.size HD1.out).trans hk2).held Qs.out Qm.out (by decide));have HE2:=Qa (Qi.out.keep ((Qc.of Qi.out.ee.bd.size HD1.out).trans hk2) he2);clear he2 hk2;have c0:=Qh.out.at_ (j:=0) rfl;have c1:=Qh.out.at_ (j:=1) rfl;have cX:=HE2.out.xc.at_ (j:=0) rfl;go_wp2_with fail;refine (Yb [123,10] HE2.out.ee.bd (by have h1:=HL.out;rw [Qe.out]at h1;simp only [Qd,Qf,Qk]at h1 ⊢;omega)).mono ?_;rintro e w3 ⟨rfl,Qy,hk3⟩;have Wn:Hid (Qc Q.P.B Q.P.ob w w3):=(Ws.out).trans hk3;have Qr:=Qa ((hk3).held Qh.out Qm.out (by decide));have Qj:=Qa (HE2.out.keep (hk3) Qy);clear Qy hk3 c0 c1 cX;obtain ⟨TB,Tx⟩:=Qb (tabs D);rw [<-Tx]at Qek;have Gj:=Qa Tx;clear Tx;go_wp2_with fail;go_loopw [11,52] (λ_ v wr=> ∃j:Nat,j<=m/\v= .int .i64 (j:Int)/\Hid (X0 Q (t++([]++[])++[123,10]++Y4 (b.take j) D) wr)/\Hid (Qc Q.P.B Q.P.ob w wr)/\Hid (Held wr xn 25 #[.int .i64 23,.slice ka m kc,.int .i64 0,.string SB,.int .i64 at_])) (λ_ v _=>m-(intOf v).toNat)
 case atStart=>exact ⟨0,by omega,rfl,(by have h9:=Qj.out;show X0 _ _ _;rw [List.take_zero,Y4,Js];exact h9),Wn,Qr⟩
 case round=>
  obtain ⟨j,hj,rfl,Yo,J4,Kv⟩:=hrel;obtain ⟨Vv,rfl⟩:=Qb wr;have cX:=Yo.out.xc.at_ (j:=0) rfl;by_cases hjm:j<m
  ·have Bp:(j:Int)<(m:Int):=(by omega);obtain ⟨kb,ko,hka,hkc⟩:=HN.out.kids (by rw [HM.out];omega);obtain ⟨q,hjq,hput⟩:=Er.out j (by rw [HM.out];exact hjm);have ck:=hkc _ Vv Yo.out.ee j _ hjq;rw [hka];have Vo:=Qa hka;have Xq:=Qa hput;have W9:=Qa (Qbw (b:=b) (e:=D) (j:=j) (by rw [Zn.out];exact hjm));rw [<-Gj.out]at W9;have Yw:=Qa (P7 D b (j+1));have Z7:=Qa (Yo.out.since (Q5 Vv 1 _));have Yq:Hid (Qc Q.P.B Q.P.ob Vv Vv.drew):=.of Yo.out.ee.bd.size (Q5 Vv 1 _);clear hkc hjq hput hka;go_wp2_with fail;go_region_with (first
    |(go_at_call 30;refine (Qek.out _).mono ?_;rintro e Z9 ⟨rfl,Ej⟩;have Zl:=Qa (Z7.out.since Ej);have Xn:Hid (Qc Q.P.B Q.P.ob Vv Z9):=Yq.out.trans (.of Z7.out.ee.bd.size Ej);have Qko:=Zl.out.xc.at_ (j:=0) rfl;clear Ej)
    |(go_at_call 15;refine (Yb TB Zl.out.ee.bd (by have h1:=HL.out;have h2:=Yw.out;rw [W9.out]at h2;rw [Qe.out]at h1;simp only [Qd,Qf,Qk]at h1 h2 ⊢;omega)).mono ?_;rintro e Ai ⟨rfl,J3,X5⟩;have Da:Hid (Qc Q.P.B Q.P.ob w Ai):=J4.out.trans (Xn.out.trans X5);have Bo:=Qa (Zl.out.keep X5 J3);have Ev:=Qa ((Xn.out.trans X5).held Kv.out Qm.out (by decide));clear J3 X5))
   all_goals
    have cP:=Bo.out.sc.at_ (j:=0) rfl;go_wp2_with fail;refine (Xq.out _ _ Bo.out (by have h1:=HL.out;have h2:=Yw.out;rw [W9.out]at h2;rw [Qe.out]at h1;simp only [Qd,Qf,Qk]at h1 h2 ⊢;omega)).mono ?_;rintro e w23 ⟨rfl,Qdv,Pn⟩;have Qnv:Hid (Qc Q.P.B Q.P.ob w w23):=(Da.out).trans Pn;have Qqz:=Qa ((Pn).held Ev.out Qm.out (by decide));have Tq:=Qa Qdv;clear Qdv Pn cP;have cX:=Tq.out.xc.at_ (j:=0) rfl;go_wp2_with fail;refine (Yb [10] Tq.out.ee.bd (by have h1:=HL.out;have h2:=Yw.out;rw [W9.out]at h2;rw [Qe.out]at h1;simp only [Qd,Qf,Qk]at h1 h2 ⊢;omega)).mono ?_;rintro e w24 ⟨rfl,Qbe,Mv⟩;have Qhf:Hid (Qc Q.P.B Q.P.ob w w24):=(Qnv.out).trans Mv;have Qo8:=Qa ((Mv).held Qqz.out Qm.out (by decide));have Qrg:=Qa (Tq.out.keep (Mv) Qbe);clear Qbe Mv cX;have Jr:Hid (X0 Q (t++([]++[])++[123,10]++Y4 (b.take (j+1)) D) w24):=by have h9:=Qrg.out;show X0 _ _ _;rw [W9.out];simp only [Yg]at h9 ⊢;exact h9
    go_wp2_with fail;go_roundw
    case rel=>exact ⟨j+1,by omega,by go_num,Jr,Qhf,(by have h9:=Qo8.out;rw [Vo.out]at h9;exact Qa h9)⟩
    case measure=>simp [intOf];omega
  ·have HJ:Hid (b.take j=b):=(by show _=_;rw [Ac (by rw [Zn.out];omega)]);rw [HJ.out]at Yo;have Z7:=Qa (Yo.out.since (Q5 Vv 1 _));have Yq:Hid (Qc Q.P.B Q.P.ob Vv Vv.drew):=.of Yo.out.ee.bd.size (Q5 Vv 1 _);go_wp2_with fail;go_region_with (first
    |(go_at_call 30;refine (Qfs.out _).mono ?_;rintro e Z9 ⟨rfl,Ej⟩;have Zl:=Qa (Z7.out.since Ej);have Xn:Hid (Qc Q.P.B Q.P.ob Vv Z9):=Yq.out.trans (.of Z7.out.ee.bd.size Ej);have Qko:=Zl.out.xc.at_ (j:=0) rfl;clear Ej)
    |(go_at_call 15;refine (Xb _ (tabs d++[125]) (by simp [Qng.out]) Zl.out.ee.bd (by have h1:=HL.out;rw [Qe.out]at h1;simp only [Qd,Qf,Qk]at h1 ⊢;omega)).mono ?_;rintro e Ai ⟨rfl,J3,X5⟩;have Da:Hid (Qc Q.P.B Q.P.ob w Ai):=J4.out.trans (Xn.out.trans X5);have Bo:=Qa (Zl.out.keep X5 J3);clear J3 X5))
   all_goals
    go_wp2_with fail;go_end0;refine ⟨rfl,?_,Da.out⟩;have h9:=Bo.out;rw [Qe.out];simp only [Yg]at h9 ⊢;exact h9
end
end Go.Proofs.YtdncpkkhkbijfaaDoor
