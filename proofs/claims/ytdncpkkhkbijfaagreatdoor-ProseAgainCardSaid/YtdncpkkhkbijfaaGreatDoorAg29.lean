import Derived.Test.YtdncpkkhkbijfaaGreatDoorAg28
import Derived.StillTail
open Go.Proofs.Tryz
set_option linter.all false
set_option maxHeartbeats 0
set_option maxRecDepth 100000
namespace Go.Proofs.YtdncpkkhkbijfaaGreatDoor
section
open Go.RowKit
theorem Waf {Q:Ql} {i d:Nat} {a b:Nat} {x y:Ex} {s:List UInt8} (h:Qv Q.P.l i 14 0 s [(a:Int),(b:Int)]) (hs:X0 s) (pa:Xg Q.P a x) (pb:Xg Q.P b y):Bc Q i d ((St.put s x y).txt d):=by
 intro t w hE hl;have Qo:Hid ((St.put s x y).txt d=([]++s)++[91]++x.txt++[93]++[32,61,32]++y.txt++[59]):=by show _=_;rw [St.txt];simp [Jj,Ae,X7,Ck,Kc,Ju,Jy,Ap,Bp,eqs]
 have HS:Hid ((s:List UInt8).length<=32):=hs.short;have Ha:=Qa pa;have Hb:=Qa pb;have Xj:0<([(a:Int),(b:Int)]:List Int).length:=by simp
 clear pa pb hs;obtain ⟨nb,no,ka,kc,at_,hN⟩:=K4 hE.ee h;obtain ⟨kb,ko,rfl,hkc⟩:=hN.kids Xj;have Z7:=Qa hkc;clear hkc;have HE:=Qa hE;have HN:=Qa hN;have HL:=Qa hl;have hin:(i:Int)<(Q.P.n:Int):=by have:=hE.ee.len;have:=h.hi;omega
 clear hE hN hl h;have cL:=HE.out.lc.at_ (j:=0) rfl;rw [HN.out.base]at cL;obtain ⟨c0,c1,c2,c3,c4⟩:=HN.out.cells t w HE.out.ee;have c1:w.cell? ⟨nb,no+i*5+1,none⟩=some (.slice (some ⟨kb,ko,none⟩) 2 kc):=c1;obtain ⟨SB,hsb⟩:=Qb (⟨(s:List UInt8).toArray⟩:ByteArray);rw [<-hsb]at c3;have Zj:Hid (SB.data.toList=s):=by show _=_;rw [hsb]
 have hsbz:SB.size<=32:=by rw [hsb,Ad];exact HS.out
 clear hsb;go_enter func46,ntmps46;go_wp2_with fail;obtain ⟨w1,hw1⟩:=Qb (w.alloc (.cells #[.int .i64 14,.slice (some ⟨kb,ko,none⟩) 2 kc,.int .i64 0,.string SB,.int .i64 at_] 37));obtain ⟨xn,hxn⟩:=Qb w.heap.size;have HB1:Hid (Below w.heap.size w w1):=by rw [hw1];exact Qag
 have Wo:Hid (Held w1 xn 37 #[.int .i64 14,.slice (some ⟨kb,ko,none⟩) 2 kc,.int .i64 0,.string SB,.int .i64 at_]):=by rw [hw1,hxn];exact Held.new w _ _
 have Q5:Hid (xn≠Q.P.ob):=by have:=HE.out.ee.bd.lt;show _≠_;omega
 rw [<-hw1,<-hxn];have Qu:=Qa (HE.out.since HB1.out);have Zh:Hid (Qi Q.P.B Q.P.ob w w1):=.of HE.out.ee.bd.size HB1.out;clear hw1 hxn c0 c1 c2 c3 c4 cL;have cX:=Qu.out.xc.at_ (j:=0) rfl;have c0:=Wo.out.at_ (j:=0) rfl;have c3:=Wo.out.at_ (j:=3) rfl;have cH:w1.cell? ⟨0,14,none⟩=some (.string ⟨([]:List UInt8).toArray⟩):=Zc (Y0 Qu.out.ee.tabs.heads Qu.out.ee.below) (Ac 14 (by decide));have hz1: ¬(9223372036854775807<0+SB.size):=by omega
 have hz2: ¬(9223372036854775807<SB.size):=by omega
 go_still_tail 8,(by kernel_rfl);change wpList _ _ _ _ _ w1.drew;obtain ⟨v1,hv1⟩:=Qb w1.drew;have HD1:Hid (Below w1.heap.size w1 v1):=by rw [hv1];exact Wq w1 1 _
 rw [<-hv1];clear hv1 c0 c3 cX cH;go_wp2_with fail;refine (Bn _ ([]++s) (by simp [Zj.out]) (Qu.out.since HD1.out).ee.bd (by have h1:=HL.out;rw [Qo.out]at h1;simp only [Qf,Qp,Q8]at h1 ⊢;omega)).mono ?_;rintro e w2 ⟨rfl,he2,hk2⟩;have Yq:Hid (Qi Q.P.B Q.P.ob w w2):=(Zh.out.trans (.of Qu.out.ee.bd.size HD1.out)).trans hk2;have Q7:=Qa (((Qi.of Qu.out.ee.bd.size HD1.out).trans hk2).held Wo.out Q5.out (by decide));have HE2:=Qa (Qu.out.keep ((Qi.of Qu.out.ee.bd.size HD1.out).trans hk2) he2);clear he2 hk2;have c0:=Q7.out.at_ (j:=0) rfl;have c1:=Q7.out.at_ (j:=1) rfl;have hcap:2<=kc:=HN.out.cap;have hks:=λw'=>Qu6 kb ko 1 kc hcap (by decide) w';have hka:=λw'=>Qwn kb ko 1 kc hcap (by decide) w';clear hcap;have cX:=HE2.out.xc.at_ (j:=0) rfl;go_wp2_with fail;refine (Zw [91] HE2.out.ee.bd (by have h1:=HL.out;rw [Qo.out]at h1;simp only [Qf,Qp,Q8]at h1 ⊢;omega)).mono ?_;rintro e w3 ⟨rfl,Ye,hk3⟩;have Yj:Hid (Qi Q.P.B Q.P.ob w w3):=(Yq.out).trans hk3;have Q9:=Qa ((hk3).held Q7.out Q5.out (by decide));have Qx:=Qa (HE2.out.keep (hk3) Ye);clear Ye hk3 c0 c1 cX;have ck:w3.cell? ⟨kb,ko,none⟩=some (.int .i64 (a:Int)):=Z7.out _ w3 Qx.out.ee 0 _ rfl;have cE:=Qx.out.ec.at_ (j:=0) rfl;go_wp2_with fail;go_still_tail 4,(by kernel_rfl);change wpList _ _ _ _ _ w3.drew;obtain ⟨v3,hv3⟩:=Qb w3.drew;have HD3:Hid (Below w3.heap.size w3 v3):=by rw [hv3];exact Wq w3 1 _
 rw [<-hv3];clear hv3 ck cE;go_wp2_with fail;refine (Ha.out.st (Qx.out.since HD3.out) (by have h1:=HL.out;rw [Qo.out]at h1;simp only [Qf,Qp,Q8]at h1 ⊢;omega)).mono ?_;rintro e w4 ⟨rfl,Yz,hk4⟩;have Zv:Hid (Qi Q.P.B Q.P.ob w w4):=(Yj.out.trans (.of Qx.out.ee.bd.size HD3.out)).trans hk4;have X5:=Qa (((Qi.of Qx.out.ee.bd.size HD3.out).trans hk4).held Q9.out Q5.out (by decide));have Ya:=Qa Yz;clear Yz hk4;have cX:=Ya.out.xc.at_ (j:=0) rfl;go_wp2_with fail;refine (Zw [93] Ya.out.ee.bd (by have h1:=HL.out;rw [Qo.out]at h1;simp only [Qf,Qp,Q8]at h1 ⊢;omega)).mono ?_;rintro e w5 ⟨rfl,Vv,hk5⟩;have A9:Hid (Qi Q.P.B Q.P.ob w w5):=(Zv.out).trans hk5;have Ch:=Qa ((hk5).held X5.out Q5.out (by decide));have Zz:=Qa (Ya.out.keep (hk5) Vv);clear Vv hk5 cX;have cX:=Zz.out.xc.at_ (j:=0) rfl;go_wp2_with fail;refine (Zw [32,61,32] Zz.out.ee.bd (by have h1:=HL.out;rw [Qo.out]at h1;simp only [Qf,Qp,Q8]at h1 ⊢;omega)).mono ?_;rintro e w6 ⟨rfl,Gh,V8⟩;have Nq:Hid (Qi Q.P.B Q.P.ob w w6):=(A9.out).trans V8;have HH6:=Qa ((V8).held Ch.out Q5.out (by decide));have Bo:=Qa (Zz.out.keep (V8) Gh);clear Gh V8 cX;have ck:w6.cell? ⟨kb,ko+1,none⟩=some (.int .i64 (b:Int)):=Z7.out _ w6 Bo.out.ee 1 _ rfl;have cE:=Bo.out.ec.at_ (j:=0) rfl;go_wp2_with fail;go_still_tail 4,(by kernel_rfl);change wpList _ _ _ _ _ w6.drew;obtain ⟨v6,hv6⟩:=Qb w6.drew;have HD6:Hid (Below w6.heap.size w6 v6):=by rw [hv6];exact Wq w6 1 _
 rw [<-hv6];clear hv6 ck cE;go_wp2_with fail;refine (Hb.out.st (Bo.out.since HD6.out) (by have h1:=HL.out;rw [Qo.out]at h1;simp only [Qf,Qp,Q8]at h1 ⊢;omega)).mono ?_;rintro e w7 ⟨rfl,Py,D7⟩;have HK7:Hid (Qi Q.P.B Q.P.ob w w7):=(Nq.out.trans (.of Bo.out.ee.bd.size HD6.out)).trans D7;have Li:=Qa (((Qi.of Bo.out.ee.bd.size HD6.out).trans D7).held HH6.out Q5.out (by decide));have Nb:=Qa Py;clear Py D7;have cX:=Nb.out.xc.at_ (j:=0) rfl;go_wp2_with fail;refine (Zw [59] Nb.out.ee.bd (by have h1:=HL.out;rw [Qo.out]at h1;simp only [Qf,Qp,Q8]at h1 ⊢;omega)).mono ?_;rintro e w8 ⟨rfl,he8,hk8⟩;have HK8:Hid (Qi Q.P.B Q.P.ob w w8):=(HK7.out).trans hk8;have HH8:=Qa ((hk8).held Li.out Q5.out (by decide));have HE8:=Qa (Nb.out.keep (hk8) he8);clear he8 hk8 cX;go_wp2_with fail;go_end0;refine ⟨rfl,?_,HK8.out⟩;have h9:=HE8.out;rw [Qo.out];simp only [Qy]at h9 ⊢;exact h9
theorem Wgv {Q:Ql} {i d:Nat} {a b:Nat} {x:Ex} {y:List St} (h:Qv Q.P.l i 16 0 [] [(a:Int),(b:Int)]) (pa:Xg Q.P a x) (pb:Bc Q b d (Bf y d)):Bc Q i d ((St.Kl x y).txt d):=by
 intro t w hE hl;have Qo:Hid ((St.Kl x y).txt d=([119,104,105,108,101,32]++[])++x.txt++[32]++Bf y d):=by show _=_;rw [St.txt];try unfold Bf;simp [Jj,Ae,X7,Ck,Kc,Ju,Jy,Ap,Bp,eqs]
 have HS:Hid (([]:List UInt8).length<=32):=by show _<=_;simp
 have Ha:=Qa pa;have Hb:=Qa pb;have Xj:0<([(a:Int),(b:Int)]:List Int).length:=by simp
 clear pa pb;obtain ⟨nb,no,ka,kc,at_,hN⟩:=K4 hE.ee h;obtain ⟨kb,ko,rfl,hkc⟩:=hN.kids Xj;have Z7:=Qa hkc;clear hkc;have HE:=Qa hE;have HN:=Qa hN;have HL:=Qa hl;have hin:(i:Int)<(Q.P.n:Int):=by have:=hE.ee.len;have:=h.hi;omega
 clear hE hN hl h;have cL:=HE.out.lc.at_ (j:=0) rfl;rw [HN.out.base]at cL;obtain ⟨c0,c1,c2,c3,c4⟩:=HN.out.cells t w HE.out.ee;have c1:w.cell? ⟨nb,no+i*5+1,none⟩=some (.slice (some ⟨kb,ko,none⟩) 2 kc):=c1;obtain ⟨SB,hsb⟩:=Qb (⟨([]:List UInt8).toArray⟩:ByteArray);rw [<-hsb]at c3;have Zj:Hid (SB.data.toList=[]):=by show _=_;rw [hsb]
 have hsbz:SB.size<=32:=by rw [hsb,Ad];exact HS.out
 clear hsb;go_enter func46,ntmps46;go_wp2_with fail;obtain ⟨w1,hw1⟩:=Qb (w.alloc (.cells #[.int .i64 16,.slice (some ⟨kb,ko,none⟩) 2 kc,.int .i64 0,.string SB,.int .i64 at_] 37));obtain ⟨xn,hxn⟩:=Qb w.heap.size;have HB1:Hid (Below w.heap.size w w1):=by rw [hw1];exact Qag
 have Wo:Hid (Held w1 xn 37 #[.int .i64 16,.slice (some ⟨kb,ko,none⟩) 2 kc,.int .i64 0,.string SB,.int .i64 at_]):=by rw [hw1,hxn];exact Held.new w _ _
 have Q5:Hid (xn≠Q.P.ob):=by have:=HE.out.ee.bd.lt;show _≠_;omega
 rw [<-hw1,<-hxn];have Qu:=Qa (HE.out.since HB1.out);have Zh:Hid (Qi Q.P.B Q.P.ob w w1):=.of HE.out.ee.bd.size HB1.out;clear hw1 hxn c0 c1 c2 c3 c4 cL;have cX:=Qu.out.xc.at_ (j:=0) rfl;have c0:=Wo.out.at_ (j:=0) rfl;have c3:=Wo.out.at_ (j:=3) rfl;have cH:w1.cell? ⟨0,16,none⟩=some (.string ⟨([119,104,105,108,101,32]:List UInt8).toArray⟩):=Zc (Y0 Qu.out.ee.tabs.heads Qu.out.ee.below) (Ac 16 (by decide));have hz1: ¬(9223372036854775807<6+SB.size):=by omega
 have hz2: ¬(9223372036854775807<SB.size):=by omega
 go_still_tail 8,(by kernel_rfl);change wpList _ _ _ _ _ w1.drew;obtain ⟨v1,hv1⟩:=Qb w1.drew;have HD1:Hid (Below w1.heap.size w1 v1):=by rw [hv1];exact Wq w1 1 _
 rw [<-hv1];clear hv1 c0 c3 cX cH;go_wp2_with fail;refine (Bn _ ([119,104,105,108,101,32]++[]) (by simp [Zj.out]) (Qu.out.since HD1.out).ee.bd (by have h1:=HL.out;rw [Qo.out]at h1;simp only [Qf,Qp,Q8]at h1 ⊢;omega)).mono ?_;rintro e w2 ⟨rfl,he2,hk2⟩;have Yq:Hid (Qi Q.P.B Q.P.ob w w2):=(Zh.out.trans (.of Qu.out.ee.bd.size HD1.out)).trans hk2;have Q7:=Qa (((Qi.of Qu.out.ee.bd.size HD1.out).trans hk2).held Wo.out Q5.out (by decide));have HE2:=Qa (Qu.out.keep ((Qi.of Qu.out.ee.bd.size HD1.out).trans hk2) he2);clear he2 hk2;have c0:=Q7.out.at_ (j:=0) rfl;have c1:=Q7.out.at_ (j:=1) rfl;have ck:w2.cell? ⟨kb,ko,none⟩=some (.int .i64 (a:Int)):=Z7.out _ w2 HE2.out.ee 0 _ rfl;have cE:=HE2.out.ec.at_ (j:=0) rfl;go_wp2_with fail;go_still_tail 4,(by kernel_rfl);change wpList _ _ _ _ _ w2.drew;obtain ⟨v2,hv2⟩:=Qb w2.drew;have HD2:Hid (Below w2.heap.size w2 v2):=by rw [hv2];exact Wq w2 1 _
 rw [<-hv2];clear hv2 c0 c1 ck cE;go_wp2_with fail;refine (Ha.out.st (HE2.out.since HD2.out) (by have h1:=HL.out;rw [Qo.out]at h1;simp only [Qf,Qp,Q8]at h1 ⊢;omega)).mono ?_;rintro e w3 ⟨rfl,Ye,hk3⟩;have Yj:Hid (Qi Q.P.B Q.P.ob w w3):=(Yq.out.trans (.of HE2.out.ee.bd.size HD2.out)).trans hk3;have Q9:=Qa (((Qi.of HE2.out.ee.bd.size HD2.out).trans hk3).held Q7.out Q5.out (by decide));have Qx:=Qa Ye;clear Ye hk3;have cX:=Qx.out.xc.at_ (j:=0) rfl;go_wp2_with fail;refine (Zw [32] Qx.out.ee.bd (by have h1:=HL.out;rw [Qo.out]at h1;simp only [Qf,Qp,Q8]at h1 ⊢;omega)).mono ?_;rintro e w4 ⟨rfl,Yz,hk4⟩;have Zv:Hid (Qi Q.P.B Q.P.ob w w4):=(Yj.out).trans hk4;have X5:=Qa ((hk4).held Q9.out Q5.out (by decide));have Ya:=Qa (Qx.out.keep (hk4) Yz);clear Yz hk4 cX;have ck:w4.cell? ⟨kb,ko+1,none⟩=some (.int .i64 (b:Int)):=Z7.out _ w4 Ya.out.ee 1 _ rfl;have cP:=Ya.out.sc.at_ (j:=0) rfl;go_wp2_with fail;go_still_tail 5,(by kernel_rfl);change wpList _ _ _ _ _ w4.drew;obtain ⟨v4,hv4⟩:=Qb w4.drew;have HD4:Hid (Below w4.heap.size w4 v4):=by rw [hv4];exact Wq w4 1 _
 rw [<-hv4];clear hv4 ck cP;go_wp2_with fail;refine (Hb.out _ _ (Ya.out.since HD4.out) (by have h1:=HL.out;rw [Qo.out]at h1;simp only [Qf,Qp,Q8]at h1 ⊢;omega)).mono ?_;rintro e w5 ⟨rfl,Vv,hk5⟩;have A9:Hid (Qi Q.P.B Q.P.ob w w5):=(Zv.out.trans (.of Ya.out.ee.bd.size HD4.out)).trans hk5;have Ch:=Qa (((Qi.of Ya.out.ee.bd.size HD4.out).trans hk5).held X5.out Q5.out (by decide));have Zz:=Qa Vv;clear Vv hk5;go_wp2_with fail;go_end0;refine ⟨rfl,?_,A9.out⟩;have h9:=Zz.out;rw [Qo.out];simp only [Qy]at h9 ⊢;exact h9
theorem Wkf {Q:Ql} {i d:Nat} {a b:Nat} {x:Ex} {y:List St} (h:Qv Q.P.l i 15 0 [] [(a:Int),(b:Int)]) (pa:Xg Q.P a x) (pb:Bc Q b d (Bf y d)):Bc Q i d ((St.if_ x y).txt d):=by
 intro t w hE hl;have Qo:Hid ((St.if_ x y).txt d=([105,102,32]++[])++x.txt++[32]++Bf y d):=by show _=_;rw [St.txt];try unfold Bf;simp [Jj,Ae,X7,Ck,Kc,Ju,Jy,Ap,Bp,eqs]
 have HS:Hid (([]:List UInt8).length<=32):=by show _<=_;simp
 have Ha:=Qa pa;have Hb:=Qa pb;have Xj:0<([(a:Int),(b:Int)]:List Int).length:=by simp
 clear pa pb;obtain ⟨nb,no,ka,kc,at_,hN⟩:=K4 hE.ee h;obtain ⟨kb,ko,rfl,hkc⟩:=hN.kids Xj;have Z7:=Qa hkc;clear hkc;have HE:=Qa hE;have HN:=Qa hN;have HL:=Qa hl;have hin:(i:Int)<(Q.P.n:Int):=by have:=hE.ee.len;have:=h.hi;omega
 clear hE hN hl h;have cL:=HE.out.lc.at_ (j:=0) rfl;rw [HN.out.base]at cL;obtain ⟨c0,c1,c2,c3,c4⟩:=HN.out.cells t w HE.out.ee;have c1:w.cell? ⟨nb,no+i*5+1,none⟩=some (.slice (some ⟨kb,ko,none⟩) 2 kc):=c1;obtain ⟨SB,hsb⟩:=Qb (⟨([]:List UInt8).toArray⟩:ByteArray);rw [<-hsb]at c3;have Zj:Hid (SB.data.toList=[]):=by show _=_;rw [hsb]
 have hsbz:SB.size<=32:=by rw [hsb,Ad];exact HS.out
 clear hsb;go_enter func46,ntmps46;go_wp2_with fail;obtain ⟨w1,hw1⟩:=Qb (w.alloc (.cells #[.int .i64 15,.slice (some ⟨kb,ko,none⟩) 2 kc,.int .i64 0,.string SB,.int .i64 at_] 37));obtain ⟨xn,hxn⟩:=Qb w.heap.size;have HB1:Hid (Below w.heap.size w w1):=by rw [hw1];exact Qag
 have Wo:Hid (Held w1 xn 37 #[.int .i64 15,.slice (some ⟨kb,ko,none⟩) 2 kc,.int .i64 0,.string SB,.int .i64 at_]):=by rw [hw1,hxn];exact Held.new w _ _
 have Q5:Hid (xn≠Q.P.ob):=by have:=HE.out.ee.bd.lt;show _≠_;omega
 rw [<-hw1,<-hxn];have Qu:=Qa (HE.out.since HB1.out);have Zh:Hid (Qi Q.P.B Q.P.ob w w1):=.of HE.out.ee.bd.size HB1.out;clear hw1 hxn c0 c1 c2 c3 c4 cL;have cX:=Qu.out.xc.at_ (j:=0) rfl;have c0:=Wo.out.at_ (j:=0) rfl;have c3:=Wo.out.at_ (j:=3) rfl;have cH:w1.cell? ⟨0,15,none⟩=some (.string ⟨([105,102,32]:List UInt8).toArray⟩):=Zc (Y0 Qu.out.ee.tabs.heads Qu.out.ee.below) (Ac 15 (by decide));have hz1: ¬(9223372036854775807<3+SB.size):=by omega
 have hz2: ¬(9223372036854775807<SB.size):=by omega
 go_still_tail 8,(by kernel_rfl);change wpList _ _ _ _ _ w1.drew;obtain ⟨v1,hv1⟩:=Qb w1.drew;have HD1:Hid (Below w1.heap.size w1 v1):=by rw [hv1];exact Wq w1 1 _
 rw [<-hv1];clear hv1 c0 c3 cX cH;go_wp2_with fail;refine (Bn _ ([105,102,32]++[]) (by simp [Zj.out]) (Qu.out.since HD1.out).ee.bd (by have h1:=HL.out;rw [Qo.out]at h1;simp only [Qf,Qp,Q8]at h1 ⊢;omega)).mono ?_;rintro e w2 ⟨rfl,he2,hk2⟩;have Yq:Hid (Qi Q.P.B Q.P.ob w w2):=(Zh.out.trans (.of Qu.out.ee.bd.size HD1.out)).trans hk2;have Q7:=Qa (((Qi.of Qu.out.ee.bd.size HD1.out).trans hk2).held Wo.out Q5.out (by decide));have HE2:=Qa (Qu.out.keep ((Qi.of Qu.out.ee.bd.size HD1.out).trans hk2) he2);clear he2 hk2;have c0:=Q7.out.at_ (j:=0) rfl;have c1:=Q7.out.at_ (j:=1) rfl;have ck:w2.cell? ⟨kb,ko,none⟩=some (.int .i64 (a:Int)):=Z7.out _ w2 HE2.out.ee 0 _ rfl;have cE:=HE2.out.ec.at_ (j:=0) rfl;go_wp2_with fail;go_still_tail 4,(by kernel_rfl);change wpList _ _ _ _ _ w2.drew;obtain ⟨v2,hv2⟩:=Qb w2.drew;have HD2:Hid (Below w2.heap.size w2 v2):=by rw [hv2];exact Wq w2 1 _
 rw [<-hv2];clear hv2 c0 c1 ck cE;go_wp2_with fail;refine (Ha.out.st (HE2.out.since HD2.out) (by have h1:=HL.out;rw [Qo.out]at h1;simp only [Qf,Qp,Q8]at h1 ⊢;omega)).mono ?_;rintro e w3 ⟨rfl,Ye,hk3⟩;have Yj:Hid (Qi Q.P.B Q.P.ob w w3):=(Yq.out.trans (.of HE2.out.ee.bd.size HD2.out)).trans hk3;have Q9:=Qa (((Qi.of HE2.out.ee.bd.size HD2.out).trans hk3).held Q7.out Q5.out (by decide));have Qx:=Qa Ye;clear Ye hk3;have cX:=Qx.out.xc.at_ (j:=0) rfl;go_wp2_with fail;refine (Zw [32] Qx.out.ee.bd (by have h1:=HL.out;rw [Qo.out]at h1;simp only [Qf,Qp,Q8]at h1 ⊢;omega)).mono ?_;rintro e w4 ⟨rfl,Yz,hk4⟩;have Zv:Hid (Qi Q.P.B Q.P.ob w w4):=(Yj.out).trans hk4;have X5:=Qa ((hk4).held Q9.out Q5.out (by decide));have Ya:=Qa (Qx.out.keep (hk4) Yz);clear Yz hk4 cX;have ck:w4.cell? ⟨kb,ko+1,none⟩=some (.int .i64 (b:Int)):=Z7.out _ w4 Ya.out.ee 1 _ rfl;have cP:=Ya.out.sc.at_ (j:=0) rfl;go_wp2_with fail;go_still_tail 5,(by kernel_rfl);change wpList _ _ _ _ _ w4.drew;obtain ⟨v4,hv4⟩:=Qb w4.drew;have HD4:Hid (Below w4.heap.size w4 v4):=by rw [hv4];exact Wq w4 1 _
 rw [<-hv4];clear hv4 ck cP;go_wp2_with fail;refine (Hb.out _ _ (Ya.out.since HD4.out) (by have h1:=HL.out;rw [Qo.out]at h1;simp only [Qf,Qp,Q8]at h1 ⊢;omega)).mono ?_;rintro e w5 ⟨rfl,Vv,hk5⟩;have A9:Hid (Qi Q.P.B Q.P.ob w w5):=(Zv.out.trans (.of Ya.out.ee.bd.size HD4.out)).trans hk5;have Ch:=Qa (((Qi.of Ya.out.ee.bd.size HD4.out).trans hk5).held X5.out Q5.out (by decide));have Zz:=Qa Vv;clear Vv hk5;go_wp2_with fail;go_end0;refine ⟨rfl,?_,A9.out⟩;have h9:=Zz.out;rw [Qo.out];simp only [Qy]at h9 ⊢;exact h9
theorem Wl6 {Q:Ql} {i d:Nat} {a b c:Nat} {x:Ex} {y z:List St} (h:Qv Q.P.l i 15 0 [] [(a:Int),(b:Int),(c:Int)]) (pa:Xg Q.P a x) (pb:Bc Q b d (Bf y d)) (pc:Bc Q c d (Bf z d)):Bc Q i d ((St.Cz x y z).txt d):=by
 intro t w hE hl;have Qo:Hid ((St.Cz x y z).txt d=([105,102,32]++[])++x.txt++[32]++Bf y d++[32,101,108,115,101,32]++Bf z d):=by show _=_;rw [St.txt];try unfold Bf;simp [Jj,Ae,X7,Ck,Kc,Ju,Jy,Ap,Bp,eqs]
 have HS:Hid (([]:List UInt8).length<=32):=by show _<=_;simp
 have Ha:=Qa pa;have Hb:=Qa pb;have Hc:=Qa pc;have Xj:0<([(a:Int),(b:Int),(c:Int)]:List Int).length:=by simp
 clear pa pb pc;obtain ⟨nb,no,ka,kc,at_,hN⟩:=K4 hE.ee h;obtain ⟨kb,ko,rfl,hkc⟩:=hN.kids Xj;have Z7:=Qa hkc;clear hkc;have HE:=Qa hE;have HN:=Qa hN;have HL:=Qa hl;have hin:(i:Int)<(Q.P.n:Int):=by have:=hE.ee.len;have:=h.hi;omega
 clear hE hN hl h;have cL:=HE.out.lc.at_ (j:=0) rfl;rw [HN.out.base]at cL;obtain ⟨c0,c1,c2,c3,c4⟩:=HN.out.cells t w HE.out.ee;have c1:w.cell? ⟨nb,no+i*5+1,none⟩=some (.slice (some ⟨kb,ko,none⟩) 3 kc):=c1;obtain ⟨SB,hsb⟩:=Qb (⟨([]:List UInt8).toArray⟩:ByteArray);rw [<-hsb]at c3;have Zj:Hid (SB.data.toList=[]):=by show _=_;rw [hsb]
 have hsbz:SB.size<=32:=by rw [hsb,Ad];exact HS.out
 clear hsb;go_enter func46,ntmps46;go_wp2_with fail;obtain ⟨w1,hw1⟩:=Qb (w.alloc (.cells #[.int .i64 15,.slice (some ⟨kb,ko,none⟩) 3 kc,.int .i64 0,.string SB,.int .i64 at_] 37));obtain ⟨xn,hxn⟩:=Qb w.heap.size;have HB1:Hid (Below w.heap.size w w1):=by rw [hw1];exact Qag
 have Wo:Hid (Held w1 xn 37 #[.int .i64 15,.slice (some ⟨kb,ko,none⟩) 3 kc,.int .i64 0,.string SB,.int .i64 at_]):=by rw [hw1,hxn];exact Held.new w _ _
 have Q5:Hid (xn≠Q.P.ob):=by have:=HE.out.ee.bd.lt;show _≠_;omega
 rw [<-hw1,<-hxn];have Qu:=Qa (HE.out.since HB1.out);have Zh:Hid (Qi Q.P.B Q.P.ob w w1):=.of HE.out.ee.bd.size HB1.out;clear hw1 hxn c0 c1 c2 c3 c4 cL;have cX:=Qu.out.xc.at_ (j:=0) rfl;have c0:=Wo.out.at_ (j:=0) rfl;have c3:=Wo.out.at_ (j:=3) rfl;have cH:w1.cell? ⟨0,15,none⟩=some (.string ⟨([105,102,32]:List UInt8).toArray⟩):=Zc (Y0 Qu.out.ee.tabs.heads Qu.out.ee.below) (Ac 15 (by decide));have hz1: ¬(9223372036854775807<3+SB.size):=by omega
 have hz2: ¬(9223372036854775807<SB.size):=by omega
 go_still_tail 8,(by kernel_rfl);change wpList _ _ _ _ _ w1.drew;obtain ⟨v1,hv1⟩:=Qb w1.drew;have HD1:Hid (Below w1.heap.size w1 v1):=by rw [hv1];exact Wq w1 1 _
 rw [<-hv1];clear hv1 c0 c3 cX cH;go_wp2_with fail;refine (Bn _ ([105,102,32]++[]) (by simp [Zj.out]) (Qu.out.since HD1.out).ee.bd (by have h1:=HL.out;rw [Qo.out]at h1;simp only [Qf,Qp,Q8]at h1 ⊢;omega)).mono ?_;rintro e w2 ⟨rfl,he2,hk2⟩;have Yq:Hid (Qi Q.P.B Q.P.ob w w2):=(Zh.out.trans (.of Qu.out.ee.bd.size HD1.out)).trans hk2;have Q7:=Qa (((Qi.of Qu.out.ee.bd.size HD1.out).trans hk2).held Wo.out Q5.out (by decide));have HE2:=Qa (Qu.out.keep ((Qi.of Qu.out.ee.bd.size HD1.out).trans hk2) he2);clear he2 hk2;have c0:=Q7.out.at_ (j:=0) rfl;have c1:=Q7.out.at_ (j:=1) rfl;have ck:w2.cell? ⟨kb,ko,none⟩=some (.int .i64 (a:Int)):=Z7.out _ w2 HE2.out.ee 0 _ rfl;have cE:=HE2.out.ec.at_ (j:=0) rfl;go_wp2_with fail;go_still_tail 4,(by kernel_rfl);change wpList _ _ _ _ _ w2.drew;obtain ⟨v2,hv2⟩:=Qb w2.drew;have HD2:Hid (Below w2.heap.size w2 v2):=by rw [hv2];exact Wq w2 1 _
 rw [<-hv2];clear hv2 c0 c1 ck cE;go_wp2_with fail;refine (Ha.out.st (HE2.out.since HD2.out) (by have h1:=HL.out;rw [Qo.out]at h1;simp only [Qf,Qp,Q8]at h1 ⊢;omega)).mono ?_;rintro e w3 ⟨rfl,Ye,hk3⟩;have Yj:Hid (Qi Q.P.B Q.P.ob w w3):=(Yq.out.trans (.of HE2.out.ee.bd.size HD2.out)).trans hk3;have Q9:=Qa (((Qi.of HE2.out.ee.bd.size HD2.out).trans hk3).held Q7.out Q5.out (by decide));have Qx:=Qa Ye;clear Ye hk3;have cX:=Qx.out.xc.at_ (j:=0) rfl;go_wp2_with fail;refine (Zw [32] Qx.out.ee.bd (by have h1:=HL.out;rw [Qo.out]at h1;simp only [Qf,Qp,Q8]at h1 ⊢;omega)).mono ?_;rintro e w4 ⟨rfl,Yz,hk4⟩;have Zv:Hid (Qi Q.P.B Q.P.ob w w4):=(Yj.out).trans hk4;have X5:=Qa ((hk4).held Q9.out Q5.out (by decide));have Ya:=Qa (Qx.out.keep (hk4) Yz);clear Yz hk4 cX;have ck:w4.cell? ⟨kb,ko+1,none⟩=some (.int .i64 (b:Int)):=Z7.out _ w4 Ya.out.ee 1 _ rfl;have cP:=Ya.out.sc.at_ (j:=0) rfl;go_wp2_with fail;go_still_tail 5,(by kernel_rfl);change wpList _ _ _ _ _ w4.drew;obtain ⟨v4,hv4⟩:=Qb w4.drew;have HD4:Hid (Below w4.heap.size w4 v4):=by rw [hv4];exact Wq w4 1 _
 rw [<-hv4];clear hv4 ck cP;go_wp2_with fail;refine (Hb.out _ _ (Ya.out.since HD4.out) (by have h1:=HL.out;rw [Qo.out]at h1;simp only [Qf,Qp,Q8]at h1 ⊢;omega)).mono ?_;rintro e w5 ⟨rfl,Vv,hk5⟩;have A9:Hid (Qi Q.P.B Q.P.ob w w5):=(Zv.out.trans (.of Ya.out.ee.bd.size HD4.out)).trans hk5;have Ch:=Qa (((Qi.of Ya.out.ee.bd.size HD4.out).trans hk5).held X5.out Q5.out (by decide));have Zz:=Qa Vv;clear Vv hk5;have cX:=Zz.out.xc.at_ (j:=0) rfl;go_wp2_with fail;refine (Zw [32,101,108,115,101,32] Zz.out.ee.bd (by have h1:=HL.out;rw [Qo.out]at h1;simp only [Qf,Qp,Q8]at h1 ⊢;omega)).mono ?_;rintro e w6 ⟨rfl,Gh,V8⟩;have Nq:Hid (Qi Q.P.B Q.P.ob w w6):=(A9.out).trans V8;have HH6:=Qa ((V8).held Ch.out Q5.out (by decide));have Bo:=Qa (Zz.out.keep (V8) Gh);clear Gh V8 cX;have ck:w6.cell? ⟨kb,ko+2,none⟩=some (.int .i64 (c:Int)):=Z7.out _ w6 Bo.out.ee 2 _ rfl;have cP:=Bo.out.sc.at_ (j:=0) rfl;go_wp2_with fail;go_still_tail 5,(by kernel_rfl);change wpList _ _ _ _ _ w6.drew;obtain ⟨v6,hv6⟩:=Qb w6.drew;have HD6:Hid (Below w6.heap.size w6 v6):=by rw [hv6];exact Wq w6 1 _
 rw [<-hv6];clear hv6 ck cP;go_wp2_with fail;refine (Hc.out _ _ (Bo.out.since HD6.out) (by have h1:=HL.out;rw [Qo.out]at h1;simp only [Qf,Qp,Q8]at h1 ⊢;omega)).mono ?_;rintro e w7 ⟨rfl,Py,D7⟩;have HK7:Hid (Qi Q.P.B Q.P.ob w w7):=(Nq.out.trans (.of Bo.out.ee.bd.size HD6.out)).trans D7;have Li:=Qa (((Qi.of Bo.out.ee.bd.size HD6.out).trans D7).held HH6.out Q5.out (by decide));have Nb:=Qa Py;clear Py D7;go_wp2_with fail;go_end0;refine ⟨rfl,?_,HK7.out⟩;have h9:=Nb.out;rw [Qo.out];simp only [Qy]at h9 ⊢;exact h9
theorem Wfa {Q:Ql} {i d:Nat} {a b c:Nat} {x y:Ex} {z:List St} {s:List UInt8} (h:Qv Q.P.l i 17 0 s [(a:Int),(b:Int),(c:Int)]) (hs:X0 s) (pa:Xg Q.P a x) (pb:Xg Q.P b y) (pc:Bc Q c d (Bf z d)):Bc Q i d ((St.for_ s x y z).txt d):=by
 intro t w hE hl;have Qo:Hid ((St.for_ s x y z).txt d=([102,111,114,32]++s)++[32,61,32]++x.txt++[44,32]++y.txt++[32]++Bf z d):=by show _=_;rw [St.txt];try unfold Bf;simp [Jj,Ae,X7,Ck,Kc,Ju,Jy,Ap,Bp,eqs]
 have HS:Hid ((s:List UInt8).length<=32):=hs.short;have Ha:=Qa pa;have Hb:=Qa pb;have Hc:=Qa pc;have Xj:0<([(a:Int),(b:Int),(c:Int)]:List Int).length:=by simp
 clear pa pb pc hs;obtain ⟨nb,no,ka,kc,at_,hN⟩:=K4 hE.ee h;obtain ⟨kb,ko,rfl,hkc⟩:=hN.kids Xj;have Z7:=Qa hkc;clear hkc;have HE:=Qa hE;have HN:=Qa hN;have HL:=Qa hl;have hin:(i:Int)<(Q.P.n:Int):=by have:=hE.ee.len;have:=h.hi;omega
 clear hE hN hl h;have cL:=HE.out.lc.at_ (j:=0) rfl;rw [HN.out.base]at cL;obtain ⟨c0,c1,c2,c3,c4⟩:=HN.out.cells t w HE.out.ee;have c1:w.cell? ⟨nb,no+i*5+1,none⟩=some (.slice (some ⟨kb,ko,none⟩) 3 kc):=c1;obtain ⟨SB,hsb⟩:=Qb (⟨(s:List UInt8).toArray⟩:ByteArray);rw [<-hsb]at c3;have Zj:Hid (SB.data.toList=s):=by show _=_;rw [hsb]
 have hsbz:SB.size<=32:=by rw [hsb,Ad];exact HS.out
 clear hsb;go_enter func46,ntmps46;go_wp2_with fail;obtain ⟨w1,hw1⟩:=Qb (w.alloc (.cells #[.int .i64 17,.slice (some ⟨kb,ko,none⟩) 3 kc,.int .i64 0,.string SB,.int .i64 at_] 37));obtain ⟨xn,hxn⟩:=Qb w.heap.size;have HB1:Hid (Below w.heap.size w w1):=by rw [hw1];exact Qag
 have Wo:Hid (Held w1 xn 37 #[.int .i64 17,.slice (some ⟨kb,ko,none⟩) 3 kc,.int .i64 0,.string SB,.int .i64 at_]):=by rw [hw1,hxn];exact Held.new w _ _
 have Q5:Hid (xn≠Q.P.ob):=by have:=HE.out.ee.bd.lt;show _≠_;omega
 rw [<-hw1,<-hxn];have Qu:=Qa (HE.out.since HB1.out);have Zh:Hid (Qi Q.P.B Q.P.ob w w1):=.of HE.out.ee.bd.size HB1.out;clear hw1 hxn c0 c1 c2 c3 c4 cL;have cX:=Qu.out.xc.at_ (j:=0) rfl;have c0:=Wo.out.at_ (j:=0) rfl;have c3:=Wo.out.at_ (j:=3) rfl;have cH:w1.cell? ⟨0,17,none⟩=some (.string ⟨([102,111,114,32]:List UInt8).toArray⟩):=Zc (Y0 Qu.out.ee.tabs.heads Qu.out.ee.below) (Ac 17 (by decide));have hz1: ¬(9223372036854775807<4+SB.size):=by omega
 have hz2: ¬(9223372036854775807<SB.size):=by omega
 go_still_tail 8,(by kernel_rfl);change wpList _ _ _ _ _ w1.drew;obtain ⟨v1,hv1⟩:=Qb w1.drew;have HD1:Hid (Below w1.heap.size w1 v1):=by rw [hv1];exact Wq w1 1 _
 rw [<-hv1];clear hv1 c0 c3 cX cH;go_wp2_with fail;refine (Bn _ ([102,111,114,32]++s) (by simp [Zj.out]) (Qu.out.since HD1.out).ee.bd (by have h1:=HL.out;rw [Qo.out]at h1;simp only [Qf,Qp,Q8]at h1 ⊢;omega)).mono ?_;rintro e w2 ⟨rfl,he2,hk2⟩;have Yq:Hid (Qi Q.P.B Q.P.ob w w2):=(Zh.out.trans (.of Qu.out.ee.bd.size HD1.out)).trans hk2;have Q7:=Qa (((Qi.of Qu.out.ee.bd.size HD1.out).trans hk2).held Wo.out Q5.out (by decide));have HE2:=Qa (Qu.out.keep ((Qi.of Qu.out.ee.bd.size HD1.out).trans hk2) he2);clear he2 hk2;have c0:=Q7.out.at_ (j:=0) rfl;have c1:=Q7.out.at_ (j:=1) rfl;have hcap:3<=kc:=HN.out.cap;have hks:=λw'=>Qu6 kb ko 2 kc hcap (by decide) w';have hka:=λw'=>Qwn kb ko 2 kc hcap (by decide) w';clear hcap;have cX:=HE2.out.xc.at_ (j:=0) rfl;go_wp2_with fail;refine (Zw [32,61,32] HE2.out.ee.bd (by have h1:=HL.out;rw [Qo.out]at h1;simp only [Qf,Qp,Q8]at h1 ⊢;omega)).mono ?_;rintro e w3 ⟨rfl,Ye,hk3⟩;have Yj:Hid (Qi Q.P.B Q.P.ob w w3):=(Yq.out).trans hk3;have Q9:=Qa ((hk3).held Q7.out Q5.out (by decide));have Qx:=Qa (HE2.out.keep (hk3) Ye);clear Ye hk3 c0 c1 cX;have ck:w3.cell? ⟨kb,ko,none⟩=some (.int .i64 (a:Int)):=Z7.out _ w3 Qx.out.ee 0 _ rfl;have cE:=Qx.out.ec.at_ (j:=0) rfl;go_wp2_with fail;go_still_tail 4,(by kernel_rfl);change wpList _ _ _ _ _ w3.drew;obtain ⟨v3,hv3⟩:=Qb w3.drew;have HD3:Hid (Below w3.heap.size w3 v3):=by rw [hv3];exact Wq w3 1 _
 rw [<-hv3];clear hv3 ck cE;go_wp2_with fail;refine (Ha.out.st (Qx.out.since HD3.out) (by have h1:=HL.out;rw [Qo.out]at h1;simp only [Qf,Qp,Q8]at h1 ⊢;omega)).mono ?_;rintro e w4 ⟨rfl,Yz,hk4⟩;have Zv:Hid (Qi Q.P.B Q.P.ob w w4):=(Yj.out.trans (.of Qx.out.ee.bd.size HD3.out)).trans hk4;have X5:=Qa (((Qi.of Qx.out.ee.bd.size HD3.out).trans hk4).held Q9.out Q5.out (by decide));have Ya:=Qa Yz;clear Yz hk4;have cX:=Ya.out.xc.at_ (j:=0) rfl;go_wp2_with fail;refine (Zw [44,32] Ya.out.ee.bd (by have h1:=HL.out;rw [Qo.out]at h1;simp only [Qf,Qp,Q8]at h1 ⊢;omega)).mono ?_;rintro e w5 ⟨rfl,Vv,hk5⟩;have A9:Hid (Qi Q.P.B Q.P.ob w w5):=(Zv.out).trans hk5;have Ch:=Qa ((hk5).held X5.out Q5.out (by decide));have Zz:=Qa (Ya.out.keep (hk5) Vv);clear Vv hk5 cX;have ck:w5.cell? ⟨kb,ko+1,none⟩=some (.int .i64 (b:Int)):=Z7.out _ w5 Zz.out.ee 1 _ rfl;have cE:=Zz.out.ec.at_ (j:=0) rfl;go_wp2_with fail;go_still_tail 4,(by kernel_rfl);change wpList _ _ _ _ _ w5.drew;obtain ⟨v5,hv5⟩:=Qb w5.drew;have HD5:Hid (Below w5.heap.size w5 v5):=by rw [hv5];exact Wq w5 1 _
 rw [<-hv5];clear hv5 ck cE;go_wp2_with fail;refine (Hb.out.st (Zz.out.since HD5.out) (by have h1:=HL.out;rw [Qo.out]at h1;simp only [Qf,Qp,Q8]at h1 ⊢;omega)).mono ?_;rintro e w6 ⟨rfl,Gh,V8⟩;have Nq:Hid (Qi Q.P.B Q.P.ob w w6):=(A9.out.trans (.of Zz.out.ee.bd.size HD5.out)).trans V8;have HH6:=Qa (((Qi.of Zz.out.ee.bd.size HD5.out).trans V8).held Ch.out Q5.out (by decide));have Bo:=Qa Gh;clear Gh V8;have cX:=Bo.out.xc.at_ (j:=0) rfl;go_wp2_with fail;refine (Zw [32] Bo.out.ee.bd (by have h1:=HL.out;rw [Qo.out]at h1;simp only [Qf,Qp,Q8]at h1 ⊢;omega)).mono ?_;rintro e w7 ⟨rfl,Py,D7⟩;have HK7:Hid (Qi Q.P.B Q.P.ob w w7):=(Nq.out).trans D7;have Li:=Qa ((D7).held HH6.out Q5.out (by decide));have Nb:=Qa (Bo.out.keep (D7) Py);clear Py D7 cX;have ck:w7.cell? ⟨kb,ko+2,none⟩=some (.int .i64 (c:Int)):=Z7.out _ w7 Nb.out.ee 2 _ rfl;have cP:=Nb.out.sc.at_ (j:=0) rfl;go_wp2_with fail;go_still_tail 5,(by kernel_rfl);change wpList _ _ _ _ _ w7.drew;obtain ⟨v7,hv7⟩:=Qb w7.drew;have HD7:Hid (Below w7.heap.size w7 v7):=by rw [hv7];exact Wq w7 1 _
 rw [<-hv7];clear hv7 ck cP;go_wp2_with fail;refine (Hc.out _ _ (Nb.out.since HD7.out) (by have h1:=HL.out;rw [Qo.out]at h1;simp only [Qf,Qp,Q8]at h1 ⊢;omega)).mono ?_;rintro e w8 ⟨rfl,he8,hk8⟩;have HK8:Hid (Qi Q.P.B Q.P.ob w w8):=(HK7.out.trans (.of Nb.out.ee.bd.size HD7.out)).trans hk8;have HH8:=Qa (((Qi.of Nb.out.ee.bd.size HD7.out).trans hk8).held Li.out Q5.out (by decide));have HE8:=Qa he8;clear he8 hk8;go_wp2_with fail;go_end0;refine ⟨rfl,?_,HK8.out⟩;have h9:=HE8.out;rw [Qo.out];simp only [Qy]at h9 ⊢;exact h9
theorem Q7w (a:St) (e:Nat): ∀b:List St,Vk (b++[a]) e=Vk b e++(tabs e++(a.txt e++[10]))
 | []=>by show Vk [a] e=Vk [] e++_;simp [Vk]
 |x::b=>by show Vk (x::(b++[a])) e=_;rw [Vk,Vk,Q7w a e b];simp only [Qy,V6]
theorem Wh0 {b:List St} {e j:Nat} (hj:j<b.length):Vk (b.take (j+1)) e=Vk (b.take j) e++tabs e++(b.getD j .brk).txt e++[10]:=by rw [Qos (d:=St.brk) hj,Q7w];simp only [Qy]
theorem Q1n (e:Nat): ∀(b:List St) (j:Nat),(Vk (b.take j) e).length<=(Vk b e).length
 | [],j=>by rw [List.take_nil];exact Qh _
 |x::b,0=>by rw [List.take_zero,Vk];exact Vh _
 |x::b,j+1=>by have:=Q1n e b j;rw [List.take_succ_cons,Vk,Vk];simp only [Qf,Qp];omega
theorem Wej {Q:Ql} {i d:Nat} {ks:List Int} {b:List St} (h:Qv Q.P.l i 23 0 [] ks) (hlen:ks.length=b.length) (Es: ∀j,j<ks.length-> ∃q:Nat,ks[j]? =some (q:Int)/\Bc Q q (d+1) ((b.getD j .brk).txt (d+1))):Bc Q i d (Bf b d):=by
 intro t w hE hl;obtain ⟨D,hD⟩:=Qb (d+1:Nat);rw [<-hD]at Es;have Qo:Hid (Bf b d=([]++[])++[123,10]++Vk b D++(tabs d++[125])):=by show _=_;rw [hD];unfold Bf;simp
 have HS:Hid (([]:List UInt8).length<=32):=by show _<=_;simp
 have Qdu:=Qa Es;have hml:=(hE.ee.nodes.2 i h.hi).len;rw [h.ks]at hml;obtain ⟨m,hm⟩:=Qb ks.length;rw [<-hm]at hml;have HM:Hid (ks.length=m):=hm.symm;have Aq:Hid (b.length=m):=by rw [hm];exact hlen.symm
 have hd9:D<=140737488355328:=by rw [hD];have h1:=hl;rw [Qo.out]at h1;simp only [Qf,Qp,Q8,Qy6]at h1;omega
 have Q78:=Qa (λw':World=>Q4t d w' (by omega));have Qxa:=Qa (λw':World=>Q4t D w' hd9);obtain ⟨RB,hRB⟩:=Qb (⟨(tabs d).toArray⟩:ByteArray);rw [<-hRB]at Q78;have Wrv:RB.size+1<=140737488355328:=by rw [hRB,Ad,Qy6];omega
 have Wso: ¬(9223372036854775807<RB.size+1):=by omega
 have Waq:Hid (RB.data.toList=tabs d):=by show _=_;rw [hRB]
 have hDi:(d:Int)+1=(D:Int):=by omega
 have hDw:IntKind.i64.wrap (D:Int)=(D:Int):=Go.IntWalk.i64_in _ (by omega);clear Es hlen hm hRB hD;obtain ⟨nb,no,ka,kc,at_,hN⟩:=K4 hE.ee h;have HE:=Qa hE;have HN:=Qa hN;have HL:=Qa hl;have hin:(i:Int)<(Q.P.n:Int):=by have:=hE.ee.len;have:=h.hi;omega
 clear hE hN hl h;have cL:=HE.out.lc.at_ (j:=0) rfl;rw [HN.out.base]at cL;obtain ⟨c0,c1,c2,c3,c4⟩:=HN.out.cells t w HE.out.ee;rw [HM.out]at c1;obtain ⟨SB,hsb⟩:=Qb (⟨([]:List UInt8).toArray⟩:ByteArray);rw [<-hsb]at c3;have Zj:Hid (SB.data.toList=[]):=by show _=_;rw [hsb]
 have hsbz:SB.size<=32:=by rw [hsb,Ad];exact HS.out
 clear hsb;go_enter func46,ntmps46;go_wp2_with fail;obtain ⟨w1,hw1⟩:=Qb (w.alloc (.cells #[.int .i64 23,.slice ka m kc,.int .i64 0,.string SB,.int .i64 at_] 37));obtain ⟨xn,hxn⟩:=Qb w.heap.size;have HB1:Hid (Below w.heap.size w w1):=by rw [hw1];exact Qag
 have Wo:Hid (Held w1 xn 37 #[.int .i64 23,.slice ka m kc,.int .i64 0,.string SB,.int .i64 at_]):=by rw [hw1,hxn];exact Held.new w _ _
 have Q5:Hid (xn≠Q.P.ob):=by have:=HE.out.ee.bd.lt;show _≠_;omega
 rw [<-hw1,<-hxn];have Qu:=Qa (HE.out.since HB1.out);have Zh:Hid (Qi Q.P.B Q.P.ob w w1):=.of HE.out.ee.bd.size HB1.out;clear hw1 hxn c0 c1 c2 c3 c4 cL;have cX:=Qu.out.xc.at_ (j:=0) rfl;have c0:=Wo.out.at_ (j:=0) rfl;have c3:=Wo.out.at_ (j:=3) rfl;have cH:w1.cell? ⟨0,23,none⟩=some (.string ⟨([]:List UInt8).toArray⟩):=Zc (Y0 Qu.out.ee.tabs.heads Qu.out.ee.below) (Ac 23 (by decide));have hz1: ¬(9223372036854775807<0+SB.size):=by omega
 have hz2: ¬(9223372036854775807<SB.size):=by omega
 go_still_tail 8,(by kernel_rfl);change wpList _ _ _ _ _ w1.drew;obtain ⟨v1,hv1⟩:=Qb w1.drew;have HD1:Hid (Below w1.heap.size w1 v1):=by rw [hv1];exact Wq w1 1 _
 rw [<-hv1];clear hv1 c0 c3 cX cH;go_wp2_with fail;refine (Bn _ ([]++[]) (by simp [Zj.out]) (Qu.out.since HD1.out).ee.bd (by have h1:=HL.out;rw [Qo.out]at h1;simp only [Qf,Qp,Q8]at h1 ⊢;omega)).mono ?_;rintro e w2 ⟨rfl,he2,hk2⟩;have Yq:Hid (Qi Q.P.B Q.P.ob w w2):=(Zh.out.trans (.of Qu.out.ee.bd.size HD1.out)).trans hk2;have Q7:=Qa (((Qi.of Qu.out.ee.bd.size HD1.out).trans hk2).held Wo.out Q5.out (by decide));have HE2:=Qa (Qu.out.keep ((Qi.of Qu.out.ee.bd.size HD1.out).trans hk2) he2);clear he2 hk2;have c0:=Q7.out.at_ (j:=0) rfl;have c1:=Q7.out.at_ (j:=1) rfl;have cX:=HE2.out.xc.at_ (j:=0) rfl;go_wp2_with fail;refine (Zw [123,10] HE2.out.ee.bd (by have h1:=HL.out;rw [Qo.out]at h1;simp only [Qf,Qp,Q8]at h1 ⊢;omega)).mono ?_;rintro e w3 ⟨rfl,Ye,hk3⟩;have Yj:Hid (Qi Q.P.B Q.P.ob w w3):=(Yq.out).trans hk3;have Q9:=Qa ((hk3).held Q7.out Q5.out (by decide));have Qx:=Qa (HE2.out.keep (hk3) Ye);clear Ye hk3 c0 c1 cX;obtain ⟨TB,hTB⟩:=Qb (tabs D);rw [<-hTB]at Qxa;have Fz:=Qa hTB;clear hTB;go_wp2_with fail;go_loopw [11,52] (λ_ v wr=> ∃j:Nat,j<=m/\v= .int .i64 (j:Int)/\Hid (D8 Q (t++([]++[])++[123,10]++Vk (b.take j) D) wr)/\Hid (Qi Q.P.B Q.P.ob w wr)/\Hid (Held wr xn 37 #[.int .i64 23,.slice ka m kc,.int .i64 0,.string SB,.int .i64 at_])) (λ_ v _=>m-(intOf v).toNat)
 case atStart=>exact ⟨0,by omega,rfl,(by have h9:=Qx.out;show D8 _ _ _;rw [List.take_zero,Vk,Xe];exact h9),Yj,Q9⟩
 case round=>
  obtain ⟨j,hj,rfl,Xb,Ll,Np⟩:=hrel;obtain ⟨Fg,rfl⟩:=Qb wr;have cX:=Xb.out.xc.at_ (j:=0) rfl;by_cases hjm:j<m
  ·have Qgb:(j:Int)<(m:Int):=(by omega);obtain ⟨kb,ko,hka,hkc⟩:=HN.out.kids (by rw [HM.out];omega);obtain ⟨q,hjq,hput⟩:=Qdu.out j (by rw [HM.out];exact hjm);have ck:=hkc _ Fg Xb.out.ee j _ hjq;rw [hka];have Ga:=Qa hka;have Df:=Qa hput;have Yi:=Qa (Wh0 (b:=b) (e:=D) (j:=j) (by rw [Aq.out];exact hjm));rw [<-Fz.out]at Yi;have Z9:=Qa (Q1n D b (j+1));have Ak:=Qa (Xb.out.since (Wq Fg 1 _));have Vx:Hid (Qi Q.P.B Q.P.ob Fg Fg.drew):=.of Xb.out.ee.bd.size (Wq Fg 1 _);clear hkc hjq hput hka;go_wp2_with fail;go_region_with (first
    |(go_at_call 47;refine (Qxa.out _).mono ?_;rintro e Kk ⟨rfl,Qdp⟩;have Jo:=Qa (Ak.out.since Qdp);have Ci:Hid (Qi Q.P.B Q.P.ob Fg Kk):=Vx.out.trans (.of Ak.out.ee.bd.size Qdp);have Q9l:=Jo.out.xc.at_ (j:=0) rfl;clear Qdp)
    |(go_at_call 18;refine (Zw TB Jo.out.ee.bd (by have h1:=HL.out;have h2:=Z9.out;rw [Yi.out]at h2;rw [Qo.out]at h1;simp only [Qf,Qp,Q8]at h1 h2 ⊢;omega)).mono ?_;rintro e Mq ⟨rfl,Lc,Dx⟩;have Qal:Hid (Qi Q.P.B Q.P.ob w Mq):=Ll.out.trans (Ci.out.trans Dx);have Tw:=Qa (Jo.out.keep Dx Lc);have Qem:=Qa ((Ci.out.trans Dx).held Np.out Q5.out (by decide));clear Lc Dx))
   all_goals
    have cP:=Tw.out.sc.at_ (j:=0) rfl;go_wp2_with fail;refine (Df.out _ _ Tw.out (by have h1:=HL.out;have h2:=Z9.out;rw [Yi.out]at h2;rw [Qo.out]at h1;simp only [Qf,Qp,Q8]at h1 h2 ⊢;omega)).mono ?_;rintro e w23 ⟨rfl,Qwx,Qrn⟩;have Q9y:Hid (Qi Q.P.B Q.P.ob w w23):=(Qal.out).trans Qrn;have Wpj:=Qa ((Qrn).held Qem.out Q5.out (by decide));have Qsb:=Qa Qwx;clear Qwx Qrn cP;have cX:=Qsb.out.xc.at_ (j:=0) rfl;go_wp2_with fail;refine (Zw [10] Qsb.out.ee.bd (by have h1:=HL.out;have h2:=Z9.out;rw [Yi.out]at h2;rw [Qo.out]at h1;simp only [Qf,Qp,Q8]at h1 h2 ⊢;omega)).mono ?_;rintro e w24 ⟨rfl,Q41,Qox⟩;have Whu:Hid (Qi Q.P.B Q.P.ob w w24):=(Q9y.out).trans Qox;have Wn9:=Qa ((Qox).held Wpj.out Q5.out (by decide));have Wnw:=Qa (Qsb.out.keep (Qox) Q41);clear Q41 Qox cX;have Iz:Hid (D8 Q (t++([]++[])++[123,10]++Vk (b.take (j+1)) D) w24):=by have h9:=Wnw.out;show D8 _ _ _;rw [Yi.out];simp only [Qy]at h9 ⊢;exact h9
    go_wp2_with fail;go_roundw
    case rel=>exact ⟨j+1,by omega,by go_num,Iz,Whu,(by have h9:=Wn9.out;rw [Ga.out]at h9;exact Qa h9)⟩
    case measure=>simp [intOf];omega
  ·have HJ:Hid (b.take j=b):=(by show _=_;rw [F6 (by rw [Aq.out];omega)]);rw [HJ.out]at Xb;have Ak:=Qa (Xb.out.since (Wq Fg 1 _));have Vx:Hid (Qi Q.P.B Q.P.ob Fg Fg.drew):=.of Xb.out.ee.bd.size (Wq Fg 1 _);go_wp2_with fail;go_region_with (first
    |(go_at_call 47;refine (Q78.out _).mono ?_;rintro e Kk ⟨rfl,Qdp⟩;have Jo:=Qa (Ak.out.since Qdp);have Ci:Hid (Qi Q.P.B Q.P.ob Fg Kk):=Vx.out.trans (.of Ak.out.ee.bd.size Qdp);have Q9l:=Jo.out.xc.at_ (j:=0) rfl;clear Qdp)
    |(go_at_call 18;refine (Bn _ (tabs d++[125]) (by simp [Waq.out]) Jo.out.ee.bd (by have h1:=HL.out;rw [Qo.out]at h1;simp only [Qf,Qp,Q8]at h1 ⊢;omega)).mono ?_;rintro e Mq ⟨rfl,Lc,Dx⟩;have Qal:Hid (Qi Q.P.B Q.P.ob w Mq):=Ll.out.trans (Ci.out.trans Dx);have Tw:=Qa (Jo.out.keep Dx Lc);clear Lc Dx))
   all_goals
    go_wp2_with fail;go_end0;refine ⟨rfl,?_,Qal.out⟩;have h9:=Tw.out;rw [Qo.out];simp only [Qy]at h9 ⊢;exact h9
theorem Wik {Q:Ql} (H:Wz Q.P.l): ∀N i,i<N->i<Q.P.l.length->(Jv (nd Q.P.l i).kind=true-> ∀a,XS Q.P.l (i:Int) a-> ∀d,Bc Q i d (a.txt d))/\((nd Q.P.l i).kind=23-> ∀b,XB Q.P.l (i:Int) b-> ∀d,Bc Q i d (Bf b d)):=by
 intro N
 induction N with
 |zero=>intro i h;omega
 |succ N ih=>
  intro i hiN hi;have Oh: ∀k∈(nd Q.P.l i).kids,Q6 (Yp Q.P.l k)=true-> ∀x,XE Q.P.l k x-> ∃q:Nat,k=(q:Int)/\Xg Q.P q x:=by intro k hk hkx x hX;have hk2:=H.kid hi hk;obtain ⟨q,rfl⟩: ∃q:Nat,k=q:=⟨k.toNat,by omega⟩;exact ⟨q,rfl,Q5t H (q+1) q (by omega) (by omega) hkx x hX⟩
  have Qjp: ∀k∈(nd Q.P.l i).kids,Yp Q.P.l k=23-> ∀b,XB Q.P.l k b-> ∃q:Nat,k=(q:Int)/\ ∀d,Bc Q q d (Bf b d):=by intro k hk hkx b hX;have hk2:=H.kid hi hk;obtain ⟨q,rfl⟩: ∃q:Nat,k=q:=⟨k.toNat,by omega⟩;exact ⟨q,rfl,(ih q (by omega) (by omega)).2 hkx b hX⟩
  have Q97: ∀k∈(nd Q.P.l i).kids,Jv (Yp Q.P.l k)=true-> ∀a,XS Q.P.l k a-> ∃q:Nat,k=(q:Int)/\ ∀d,Bc Q q d (a.txt d):=by intro k hk hkx a hX;have hk2:=H.kid hi hk;obtain ⟨q,rfl⟩: ∃q:Nat,k=q:=⟨k.toNat,by omega⟩;exact ⟨q,rfl,(ih q (by omega) (by omega)).1 hkx a hX⟩
  refine ⟨λhx e he d=> ?_,λhK b hb d=> ?_⟩
  ·have hin:=Sj hx;have hcases:(nd Q.P.l i).kind=12\/(nd Q.P.l i).kind=13\/(nd Q.P.l i).kind=14\/(nd Q.P.l i).kind=15\/(nd Q.P.l i).kind=16\/(nd Q.P.l i).kind=17\/(nd Q.P.l i).kind=18\/(nd Q.P.l i).kind=19\/(nd Q.P.l i).kind=20\/(nd Q.P.l i).kind=21\/(nd Q.P.l i).kind=22:=(by omega);rcases hcases with hK |hK |hK |hK |hK |hK |hK |hK |hK |hK |hK
   ·obtain ⟨s,a,x,hs,ha,hxa,hX,hE⟩:=H.k12 hi hK;rw [he.one hE];obtain ⟨q,rfl,hp⟩:=Oh a (by rw [ha.ks];simp) hxa x hX;exact Wgn ha hs hp
   ·obtain ⟨s,a,x,hs,ha,hxa,hX,hE⟩:=H.k13 hi hK;rw [he.one hE];obtain ⟨q,rfl,hp⟩:=Oh a (by rw [ha.ks];simp) hxa x hX;exact Q9j ha hs hp
   ·obtain ⟨s,a,b,x,y,hs,ha,hxa,hxb,hX,hY,hE⟩:=H.k14 hi hK;rw [he.one hE];obtain ⟨q,rfl,hp⟩:=Oh a (by rw [ha.ks];simp) hxa x hX;obtain ⟨r,rfl,hp'⟩:=Oh b (by rw [ha.ks];simp) hxb y hY;exact Waf ha hs hp hp'
   ·rcases H.k15 hi hK with ⟨a,b,x,y,ha,hxa,hxb,hX,hY,hE⟩ |⟨a,b,c,x,y,z,ha,hxa,hxb,hxc,hX,hY,hZ,hE⟩
    ·rw [he.one hE];obtain ⟨q,rfl,hp⟩:=Oh a (by rw [ha.ks];simp) hxa x hX;obtain ⟨r,rfl,hp'⟩:=Qjp b (by rw [ha.ks];simp) hxb y hY;exact Wkf ha hp (hp' d)
    ·rw [he.one hE];obtain ⟨q,rfl,hp⟩:=Oh a (by rw [ha.ks];simp) hxa x hX;obtain ⟨r,rfl,hp'⟩:=Qjp b (by rw [ha.ks];simp) hxb y hY;obtain ⟨u,rfl,hp''⟩:=Qjp c (by rw [ha.ks];simp) hxc z hZ;exact Wl6 ha hp (hp' d) (hp'' d)
   ·obtain ⟨a,b,x,y,ha,hxa,hxb,hX,hY,hE⟩:=H.k16 hi hK;rw [he.one hE];obtain ⟨q,rfl,hp⟩:=Oh a (by rw [ha.ks];simp) hxa x hX;obtain ⟨r,rfl,hp'⟩:=Qjp b (by rw [ha.ks];simp) hxb y hY;exact Wgv ha hp (hp' d)
   ·obtain ⟨s,a,b,c,x,y,z,hs,ha,hxa,hxb,hxc,hX,hY,hZ,hE⟩:=H.k17 hi hK;rw [he.one hE];obtain ⟨q,rfl,hp⟩:=Oh a (by rw [ha.ks];simp) hxa x hX;obtain ⟨r,rfl,hp'⟩:=Oh b (by rw [ha.ks];simp) hxb y hY;obtain ⟨u,rfl,hp''⟩:=Qjp c (by rw [ha.ks];simp) hxc z hZ;exact Wfa ha hs hp hp' (hp'' d)
   ·obtain ⟨ha,hE⟩:=H.k18 hi hK;rw [he.one hE];exact Wbv ha
   ·obtain ⟨ha,hE⟩:=H.k19 hi hK;rw [he.one hE];exact Wqt ha
   ·obtain ⟨a,x,ha,hxa,hX,hE⟩:=H.k20 hi hK;rw [he.one hE];obtain ⟨q,rfl,hp⟩:=Oh a (by rw [ha.ks];simp) hxa x hX;exact Wl5 ha hp
   ·obtain ⟨a,x,ha,hxa,hX,hE⟩:=H.k21 hi hK;rw [he.one hE];obtain ⟨q,rfl,hp⟩:=Oh a (by rw [ha.ks];simp) hxa x hX;exact Wgo ha hp
   ·obtain ⟨a,s,xs,ha,hxa,hX,hE⟩:=H.k22 hi hK;rw [he.one hE];obtain ⟨q,rfl,hp⟩:=Oh a (by rw [ha.ks];simp) (by rw [hxa];rfl) _ hX;exact Wek ha hp
  ·obtain ⟨ks,c,ha,hkx,hX,hE⟩:=H.k23 hi hK;rw [hb.one hE];refine Wej ha (Qc6 hX) λj hj=> ?_;have hm:=Qhi hj;obtain ⟨q,hq,hp⟩:=Q97 (ks.getD j 0) (by rw [ha.ks];exact hm) (hkx _ hm) _ (Qlt (d:=St.brk) hX j hj);exact ⟨q,by rw [Qmd hj,hq],hp (d+1)⟩
end
section
def stand (t:Oper):Oper:={t with op:=.move (.const undef),dst:=none,guard:=none}
def Bg (ops:Array Oper) (n:Nat):Array Oper:=ops.modify n stand
theorem Qs8 {ops:Array Oper} {n i:Nat} (h:i≠n):(Bg ops n)[i]? =ops[i]?:=by unfold Bg;rw [Array.getElem?_modify,Qd (Ne.symm h)]
theorem Qsw {ops:Array Oper} {n:Nat} {t:Oper} (h:ops[n]? =some t):(Bg ops n)[n]? =some (stand t):=by unfold Bg;rw [Array.getElem?_modify,Qk rfl,h];rfl
theorem Qug {md:Region.Mode} {ops:Array Oper} {n:Nat} {listed:Array Bool} {j:Nat}:j∈Region.ready md (Bg ops n) listed↔j∈Region.ready md ops listed:=by
 rw [mem_ready,mem_ready];refine and_congr Iff.rfl ?_;by_cases hj:j=n
 ·subst hj;cases ho:ops[j]? with
  |none=>
   have:(Bg ops j)[j]? =none:=(by unfold Bg;rw [Array.getElem?_modify,Qk rfl,ho];rfl);rw [this]
  |some t=>
   rw [Qsw ho];exact ⟨λ⟨o,h1,h2⟩=>⟨t,rfl,by injection h1 with h1;subst h1;exact h2⟩,λ⟨o,h1,h2⟩=>⟨stand t,rfl,by injection h1 with h1;subst h1;exact h2⟩⟩
 ·rw [Qs8 hj]
def Qnt (ops:Array Oper) (n:Nat):Bool:=
 decide (n+1=ops.size)&&ops.all (λo=>o.guard.isNone)&&(List.range ops.size).all (λj=>match ops[j]? with |some o=>o.after.all (λe=>decide (e.on<j)) |none=>true)
  &&Region.sinkB .any ops n&&Region.chainB .any ops n&&Region.lexB .any (Bg ops n)
structure Qoz (ops:Array Oper) (n:Nat):Prop where
 size:n+1=ops.size
 free: ∀(j:Nat) (o:Oper),ops[j]? =some o->o.guard=none
 back: ∀(j:Nat) (o:Oper),ops[j]? =some o-> ∀e∈o.after,e.on<j
 sink:Region.sinkB .any ops n=true
 chain:Region.chainB .any ops n=true
 lex:Region.lexB .any (Bg ops n)=true
theorem Wg5 {ops:Array Oper} {n:Nat} (h:Qnt ops n=true):Qoz ops n:=by
 unfold Qnt at h;simp only [Yo,Wt]at h;obtain ⟨⟨⟨⟨⟨h1,h2⟩,h3⟩,h4⟩,h5⟩,h6⟩:=h;refine ⟨h1,λj o ho=> ?_,λj o ho e he=> ?_,h4,h5,h6⟩
 ·have:=Array.all_eq_true_iff_forall_mem.1 h2 o (Array.mem_of_getElem? ho);exact Option.isNone_iff_eq_none.1 this
 ·have hj:j<ops.size:=(Array.getElem?_eq_some_iff.1 ho).1;have:=List.all_eq_true.1 h3 j (List.mem_range.2 hj);simp only [ho]at this;have:=Array.all_eq_true_iff_forall_mem.1 this e he;simpa using this
theorem Qh5 {o:Oper} (h:o.guard=none) (f:Nat->Option Bool):Region.wanted o f=true:=by unfold Region.wanted;rw [h]
section
variable {P:Program}{ops:Array Oper}{n:Nat}{C:World→Prop}
theorem Q7n (H:Qoz ops n) {listed:Array Bool} (hz:listed.size=ops.size): ∀(N m:Nat),m<N->m<ops.size->listed.getD m true=false->Region.ready .any ops listed≠[]:=by
 intro N
 induction N with
 |zero=>intro m h;omega
 |succ N ih=>
  intro m hm hlt hun h0;obtain ⟨o,ho⟩: ∃o,ops[m]? =some o:=⟨ops[m],Array.getElem?_eq_getElem hlt⟩;by_cases hall: ∀e∈o.after,Region.binds .any e=true->listed.getD e.on false=true
  ·have:m∈Region.ready .any ops listed:=mem_ready.2 ⟨hun,o,ho,hall⟩;rw [h0]at this;cases this
  ·simp only [Classical.not_forall]at hall;obtain ⟨e,he,hb,hl⟩:=hall;have hlt':=H.back m o ho e he;exact ih e.on (by omega) (by omega) (getD_in (by omega) (by simpa using hl)) h0
theorem Wjr {Q':Exit->Act->World->Prop} (H:Qoz ops n) {t:Oper} (ht:ops[n]? =some t): ∀(fuel:Nat) (listed:Array Bool) (a:Act) (w:World),C w->HeadInv .any ops n listed->listed.getD n true=false->
  wpAnyQ P .any (Bg ops n) C (λa'=> ∀w',C w'->wpList P ops Q' [t] a' w') fuel listed a->wpAny P .any ops Q' fuel listed a w:=by
 intro fuel;have hns:n<ops.size:=by have:=H.size;omega
 induction fuel with
 |zero=>
  intro listed a w hC inv hun h;exfalso;refine Q7n H inv.size (n+1) n (by omega) hns hun ?_;have h0:=h.1;refine List.eq_nil_iff_forall_not_mem.2 λj hj=> ?_;have:=Qug (n:=n).2 hj;rw [h0]at this;cases this
 |succ fuel ih=>
  intro listed a w hC inv hun h;refine ⟨λh0=>absurd h0 (Q7n H inv.size (n+1) n (by omega) hns hun),λi hi=> ?_⟩;have hq:=h.2 i (Qug.2 hi);by_cases hin:i=n
  ·subst hin;have hall: ∀j,j<i->listed.getD j true=true:=λj hj=>by
    cases hc:listed.getD j true with
    |true=>rfl
    |false=>exact absurd hi (tail_waits H.sink H.chain hns inv _ j rfl hj hc i (Qh _))
   have hnone:Region.ready .any ops (listed.setIfInBounds i true)=[]:=by
    refine List.eq_nil_iff_forall_not_mem.2 λj hj=> ?_;obtain ⟨hj1,o,ho,_⟩:=mem_ready.1 hj;have hjs:j<ops.size:=(Array.getElem?_eq_some_iff.1 ho).1;by_cases hji:i=j
    ·subst hji;have hsz:i<listed.size:=(by rw [inv.size];exact hns);simp [hsz]at hj1
    ·rw [getD_set_ne true hji]at hj1;rw [hall j (by have:=H.size;omega)]at hj1;cases hj1
   have hnone':Region.ready .any (Bg ops i) (listed.setIfInBounds i true)=[]:=
    List.eq_nil_iff_forall_not_mem.2 λj hj=>by have:=Qug.1 hj;rw [hnone]at this;cases this
   have hK:wpAnyQ P .any (Bg ops i) C (λa'=> ∀w',C w'->wpList P ops Q' [t] a' w') fuel (listed.setIfInBounds i true) a:=by unfold qOp at hq;simp only [Qsw ht]at hq;rw [Qk (Qh5 (o:=stand t) rfl _)]at hq;obtain ⟨v,_,h2⟩:=hq;exact h2
   have hQx:wpList P ops Q' [t] a w:=by
    cases fuel with
    |zero=>exact hK.2 w hC
    |succ f=>exact hK.1 hnone' w hC
   have hop:wpOp P ops Q' i (λa' w'=>Q' .normal a' w') a w:=by unfold wpOp;simp only [ht];exact hQx
   refine wpOp_mono (λa' w' h'=> ?_) hop;cases fuel with
   |zero=>exact ⟨hnone,h'⟩
   |succ f=>exact ⟨λ_=>h',λj hj=>by rw [hnone]at hj;cases hj⟩
  ·have hlt:i<n:=by obtain ⟨_,o,ho,_⟩:=mem_ready.1 hi;have hjs:i<ops.size:=(Array.getElem?_eq_some_iff.1 ho).1;have:=H.size;omega
   obtain ⟨o,ho⟩: ∃o,ops[i]? =some o:=⟨ops[i],Array.getElem?_eq_getElem (by omega)⟩;have hq':qOp P ops C i (wpAnyQ P .any (Bg ops n) C (λa'=> ∀w',C w'->wpList P ops Q' [t] a' w') fuel (listed.setIfInBounds i true)) a:=by unfold qOp at hq ⊢;rw [Qs8 hin]at hq;simp only [ho]at hq ⊢;rw [Qk (Qh5 (H.free i o ho) _)]at hq ⊢;exact hq
   exact wpOp_of_qOp hC (λa' w' hC' hK=>ih (listed.setIfInBounds i true) a' w' hC' (inv.set hi hlt) (by rw [getD_set_ne true hin];exact hun) hK) hq'
theorem Q5j {Q:Act->Prop} (H:Qoz ops n) (s:Oper) (hs:s.op= .move (.const undef)) (hd:s.dst=none) (hg:s.guard=none): ∀(l:List Oper) (a:Act),(∀o∈l,o.guard=none)->wpQuiet P ops C Q l a->wpQuiet P (Bg ops n) C Q (l++[s]) a
 | [],a,_,h=>by
  show wpQuiet P (Bg ops n) C Q [s] a;unfold wpQuiet;rw [Qk (Qh5 hg _)];refine ⟨undef,λw hw=> ?_,?_⟩
  ·unfold Oper.quietAt;rw [BigFrame.run_move (.const undef) hs];exact ⟨rfl,rfl⟩
  ·rw [hd];exact h
 |o::l,a,hl,h=>by have hgo:=hl o (by simp);unfold wpQuiet at h;rw [Qk (Qh5 hgo _)]at h;show wpQuiet P (Bg ops n) C Q (o::(l++[s])) a;unfold wpQuiet;rw [Qk (Qh5 hgo _)];exact Oper.quiet_mono (λa' h'=>Q5j H s hs hd hg l a' (λo' ho'=>hl o' (Iy _ ho')) h') h
theorem Wbj {id:Nat} {Q:Exit->Act->World->Prop} {a:Act} {w:World} {l:List Oper} (n:Nat) (hm:P.follows .mixedOrders=true) (hB:Qnt l.toArray n=true) (hC:C {w with drawn:=w.drawn+1})
  (h:wpQuiet P l.toArray C (λa'=> ∀w',C w'->wpList P l.toArray Q (l.drop n) a' w') (l.take n) a):(Code.region id l.toArray true).wp P Q a w:=by
 have H:=Wg5 hB;have hsz:n+1=l.length:=by have:=H.size;simpa using this
 obtain ⟨t,ht⟩: ∃t,l[n]? =some t:=⟨l[n],Y3 (by omega)⟩;have Wp:l.toArray[n]? =some t:=by simpa using ht
 have hdrop:l.drop n=[t]:=by
  rw [List.drop_eq_getElem_cons (by omega),Qla (by omega)];rw [Y3 (by omega)]at ht;injection ht with ht
  rw [ht]
 rw [hdrop]at h;have h1:=Q5j (P:=P) H (stand t) rfl rfl rfl (l.take n) a (λo ho=>by
  obtain ⟨j,hj⟩:=List.getElem?_of_mem ho;have hjl:j<n:=by have:=(List.getElem?_eq_some_iff.1 hj).1;rw [F9]at this;omega
  rw [List.getElem?_take_of_lt hjl]at hj;exact H.free j o (by simpa using hj)) h;have hls:l.take n++[stand t]=(Bg l.toArray n).toList:=by
  refine List.ext_getElem? λj=> ?_;rw [Array.getElem?_toList (xs:=Bg l.toArray n)];by_cases hj:j=n
  ·subst hj;rw [Qsw Wp,Ht (by rw [F9];omega)];simp [F9,Nat.min_eq_left (show j<=l.length by omega)]
  ·rw [Qs8 hj];by_cases hlt:j<n
   ·rw [Qg1 (by rw [F9];omega),List.getElem?_take_of_lt hlt];simp
   ·rw [Qbz (by rw [Qf,F9];simp;omega)];rw [eq_comm,Array.getElem?_eq_none_iff];simp;omega
 rw [hls]at h1;have hlex:=H.lex;simp only [Region.lexB,Yo]at hlex;have h2:=wpAnyQ_lex (C:=C) (md:=.any) hlex.1 (Bg l.toArray n).toList 0 (Array.replicate (Bg l.toArray n).size false) a (by simp) (by simpa using hlex.2) h1;have hsize:(Bg l.toArray n).size=l.toArray.size:=by unfold Bg;simp
 rw [hsize]at h2;refine wp_region_any hm ?_;have inv0:HeadInv .any l.toArray n (Array.replicate l.toArray.size false):=
  ⟨by simp,λj oj _ hl=>(by rw [getD_replicate_false]at hl;cases hl),λk _ hk=>getD_in (by simpa using hk) (getD_replicate_false _ _)⟩;have hlen:(Bg l.toArray n).toList.length=l.toArray.size:=by rw [Au,hsize]
 rw [hlen]at h2;exact Wjr H Wp _ _ a _ hC inv0 (getD_in (by simp;omega) (getD_replicate_false _ _)) h2
end
theorem Wk2 {P:Program} {id:Nat} {Q:Exit->Act->World->Prop} {a:Act} {w:World} {l:List Oper} (n:Nat) (hm:P.follows .mixedOrders=true) (hB:Qnt l.toArray n=true)
  (h:wpQuiet P l.toArray (λw'=> ∃p:Regrown,w'=Sort.grow (redrawn w p.d) p.os) (λa'=> ∀w',(∃p:Regrown,w'=Sort.grow (redrawn w p.d) p.os)->wpList P l.toArray Q (l.drop n) a' w') (l.take n) a):(Code.region id l.toArray true).wp P Q a w:=
 Wbj (C:=λw'=> ∃p:Regrown,w'=Sort.grow (redrawn w p.d) p.os) n hm hB ⟨⟨w.drawn+1,#[]⟩,by rw [Sort.grow_empty];rfl⟩ h
end
section
open Go.RowKit
theorem Qw0 {w0 w:World} {a:Option Addr} {l:List Nd} {n c ob:Nat} {t:List UInt8} (hN:Nodes w0 a l) (hn:n=l.length) (hf:n<=1000000000) (hc:n<=c) (hT:Wz l) (hP:Ir w0) (hb:Below w0.heap.size w0 w) (hB:Bd w0.heap.size ob t w):
  Calls prog 45 #[.slice a n c,.pointer (some ⟨ob,0,none⟩)] w λe w'=> ∃lb xb bb pb,e= .returned (.func (.func 80) #[] #[.pointer (some ⟨lb,0,none⟩),.pointer (some ⟨xb,0,none⟩),.pointer (some ⟨bb,0,none⟩),.pointer (some ⟨pb,0,none⟩)])/\Zt ⟨w0,a,l,n,c,ob,lb,xb,bb,pb⟩ t w'/\Below w.heap.size w w':=by
 have HBD:=Qa hB;have Wk9:Hid (∀(w':World) (lb xb bb pb:Nat),Below w.heap.size w w'->w.heap.size<=lb->w.heap.size<=xb->w.heap.size<=bb->w.heap.size<=pb->Held w' lb 22 #[.slice a n c]->Held w' xb 39 #[.pointer (some ⟨ob,0,none⟩)]->Held w' bb 43 #[.func (.func 79) #[] #[.pointer (some ⟨lb,0,none⟩),.pointer (some ⟨pb,0,none⟩),.pointer (some ⟨xb,0,none⟩)]]->Held w' pb 82 #[.func (.func 80) #[] #[.pointer (some ⟨lb,0,none⟩),.pointer (some ⟨xb,0,none⟩),.pointer (some ⟨bb,0,none⟩),.pointer (some ⟨pb,0,none⟩)]]->Zt ⟨w0,a,l,n,c,ob,lb,xb,bb,pb⟩ t w'):=by intro w' lb xb bb pb hbw h1 h2 h3 h4 k1 k2 k3 k4;have hlt:=hB.lt;exact ⟨hN,hn,hf,hc,hT,hP,hb.trans (hbw.mono hB.size),hB.below hbw,k1,k2,k3,k4,by show lb≠ob;omega,by show xb≠ob;omega,by show bb≠ob;omega,by show pb≠ob;omega⟩
 clear hN hn hf hc hT hP hb hB;go_enter func45,ntmps45;rw [Qz 2,Qz 3];go_wp2_with fail;obtain ⟨w3,hw3⟩:=Qb (((w.alloc (.cells #[.slice a n c] 22)).alloc (.cells #[.pointer (some ⟨ob,0,none⟩)] 39)).alloc (.cells #[.nilFunc] 82));obtain ⟨lb,hlb⟩:=Qb w.heap.size;obtain ⟨xb,hxb⟩:=Qb (w.heap.size+1);obtain ⟨pb,hpb⟩:=Qb (w.heap.size+1+1);obtain ⟨bb,hbb⟩:=Qb w3.heap.size;have Vm:Hid (Held w3 lb 22 #[.slice a n c]):=by rw [hw3,hlb];exact ((Held.new w _ _).alloc _).alloc _
 have HX3:Hid (Held w3 xb 39 #[.pointer (some ⟨ob,0,none⟩)]):=by
  have h:=(Held.new (w.alloc (.cells #[.slice a n c] 22)) 39 #[.pointer (some ⟨ob,0,none⟩)]).alloc (.cells #[.nilFunc] 82);have e:(w.alloc (.cells #[.slice a n c] 22)).heap.size=xb:=by rw [hxb];simp
  rw [e]at h;rw [hw3];exact h
 have HP3:Hid (Held w3 pb 82 #[.nilFunc]):=by
  have h:=Held.new ((w.alloc (.cells #[.slice a n c] 22)).alloc (.cells #[.pointer (some ⟨ob,0,none⟩)] 39)) 82 #[.nilFunc];have e:((w.alloc (.cells #[.slice a n c] 22)).alloc (.cells #[.pointer (some ⟨ob,0,none⟩)] 39)).heap.size=pb:=by rw [hpb];simp
  rw [e]at h;rw [hw3];exact h
 have HB3:Hid (Below w.heap.size w w3):=by rw [hw3];exact (Qag.alloc (by simp) _).alloc (by simp;omega) _
 have HS:Hid (w.heap.size<=lb/\w.heap.size<=xb/\w.heap.size<=pb/\w.heap.size<=bb/\lb≠pb/\xb≠pb/\bb≠pb):=by have h1:=HP3.out.lt;have h2:=HB3.out.size;refine ⟨by omega,by omega,by omega,by omega,by omega,by omega,by omega⟩
 rw [<-hw3,<-hpb,<-hxb,<-hlb];obtain ⟨w4,hw4⟩:=Qb (w3.alloc (.cells #[.func (.func 79) #[] #[.pointer (some ⟨lb,0,none⟩),.pointer (some ⟨pb,0,none⟩),.pointer (some ⟨xb,0,none⟩)]] 43));have Jf:Hid (Held w4 bb 43 #[.func (.func 79) #[] #[.pointer (some ⟨lb,0,none⟩),.pointer (some ⟨pb,0,none⟩),.pointer (some ⟨xb,0,none⟩)]]):=by rw [hw4,hbb];exact Held.new w3 _ _
 have Qkk:Hid (Below w3.heap.size w3 w4):=by rw [hw4];exact Qag
 have Ji:=Qa (Vm.out.since Qkk.out);have HX4:=Qa (HX3.out.since Qkk.out);have HP4:=Qa (HP3.out.since Qkk.out);have Rf:Hid (Below w.heap.size w w4):=HB3.out.trans (Qkk.out.mono HB3.out.size);clear hw3 hlb hxb hpb;refine Qn ?_;go_wp2_with fail;rw [<-hw4,<-hbb];clear hw4 hbb;have cr:=HP4.out.at_ (j:=0) (v:=.nilFunc) rfl;have fr:=HP4.out.frozen 0;refine Qn ?_;go_wp2_with fail;go_ret;refine ⟨lb,xb,bb,pb,rfl,?_,?_⟩
 ·refine Wk9.out _ lb xb bb pb ?_ HS.out.1 HS.out.2.1 HS.out.2.2.2.1 HS.out.2.2.1 ?_ ?_ ?_ ?_
  ·exact Rf.out.setCell (p:=⟨pb,0,none⟩) HS.out.2.2.1 _
  ·exact Ji.out.off (g':=pb) HS.out.2.2.2.2.1 0 _
  ·exact HX4.out.off (g':=pb) HS.out.2.2.2.2.2.1 0 _
  ·exact Jf.out.off (g':=pb) HS.out.2.2.2.2.2.2 0 _
  ·exact HP4.out.set 0 _
 ·exact Rf.out.setCell (p:=⟨pb,0,none⟩) HS.out.2.2.1 _
theorem Wac {w0 w:World} {a:Option Addr} {l:List Nd} {n c ob:Nat} {t:List UInt8} (hN:Nodes w0 a l) (hn:n=l.length) (hf:n<=1000000000) (hc:n<=c) (hT:Wz l) (hP:Ir w0) (hb:Below w0.heap.size w0 w) (hB:Bd w0.heap.size ob t w):
  Calls prog 17 #[.slice a n c,.pointer (some ⟨ob,0,none⟩)] w λe w'=> ∃Ho Ih G6 Gw lb xb sb eb,e= .returned (.func (.func 46) #[] #[.pointer (some ⟨lb,0,none⟩),.pointer (some ⟨xb,0,none⟩),.pointer (some ⟨sb,0,none⟩),.pointer (some ⟨eb,0,none⟩)])/\D8 ⟨⟨w0,a,l,n,c,ob,Ho,Ih,G6,Gw⟩,lb,xb,sb,eb⟩ t w'/\Below w.heap.size w w':=by
 have HBD:=Qa hB;have HEX:=Qa (λ(w':World) (hbw:Below w.heap.size w w')=>Qw0 (c:=c) hN hn hf hc hT hP (hb.trans (hbw.mono hB.size)) (hB.below hbw));clear hN hn hf hc hT hP hb hB;go_enter func17,ntmps17;rw [Qz 2,Qz 3];go_wp2_with fail;obtain ⟨w2,hw2⟩:=Qb ((w.alloc (.cells #[.slice a n c] 22)).alloc (.cells #[.pointer (some ⟨ob,0,none⟩)] 39));obtain ⟨lb,hlb⟩:=Qb w.heap.size;obtain ⟨xb,hxb⟩:=Qb (w.heap.size+1);have HL2:Hid (Held w2 lb 22 #[.slice a n c]):=by rw [hw2,hlb];exact (Held.new w _ _).alloc _
 have HX2:Hid (Held w2 xb 39 #[.pointer (some ⟨ob,0,none⟩)]):=by
  have h:=Held.new (w.alloc (.cells #[.slice a n c] 22)) 39 #[.pointer (some ⟨ob,0,none⟩)];have e:(w.alloc (.cells #[.slice a n c] 22)).heap.size=xb:=by rw [hxb];simp
  rw [e]at h;rw [hw2];exact h
 have HB2:Hid (Below w.heap.size w w2):=by rw [hw2];exact Qag.alloc (by simp) _
 have HS2:Hid (w.heap.size<=lb/\w.heap.size<=xb):=⟨by omega,by omega⟩;rw [<-hw2,<-hxb,<-hlb];clear hw2 hlb hxb;refine (HEX.out w2 HB2.out).mono ?_;rintro e w4 ⟨Ho,Ih,G6,Gw,rfl,Yz,hb4⟩;have Ya:=Qa Yz;have Qkk:=Qa hb4;have Rf:Hid (Below w.heap.size w w4):=HB2.out.trans (hb4.mono HB2.out.size);have Ji:=Qa (HL2.out.since hb4);have HX4:=Qa (HX2.out.since hb4);clear Yz hb4;go_wp2_with fail;obtain ⟨eb,heb⟩:=Qb w4.heap.size;obtain ⟨w5,K8⟩:=Qb (w4.alloc (.cells #[.func (.func 80) #[] #[.pointer (some ⟨Ho,0,none⟩),.pointer (some ⟨Ih,0,none⟩),.pointer (some ⟨G6,0,none⟩),.pointer (some ⟨Gw,0,none⟩)]] 82));have HC5:Hid (Held w5 eb 82 #[.func (.func 80) #[] #[.pointer (some ⟨Ho,0,none⟩),.pointer (some ⟨Ih,0,none⟩),.pointer (some ⟨G6,0,none⟩),.pointer (some ⟨Gw,0,none⟩)]]):=by rw [K8,heb];exact Held.new w4 _ _
 have Qt4:Hid (Below w4.heap.size w4 w5):=by rw [K8];exact Qag
 have Gm:Hid (w4.heap.size<=eb):=by show _<=_;omega
 rw [<-K8,<-heb];clear K8 heb;refine Qn ?_;go_wp2_with fail;obtain ⟨sb,hsb⟩:=Qb w5.heap.size;obtain ⟨w6,Gz⟩:=Qb (w5.alloc (.cells #[.nilFunc] 43));have Sl:Hid (Held w6 sb 43 #[.nilFunc]):=by rw [Gz,hsb];exact Held.new w5 _ _
 have Q79:Hid (Below w5.heap.size w5 w6):=by rw [Gz];exact Qag
 have Q73:Hid (Below w4.heap.size w4 w6):=Qt4.out.trans (Q79.out.mono Qt4.out.size);have Qkt:Hid (Below w.heap.size w w6):=Rf.out.trans (Q73.out.mono Rf.out.size);have Hz:Hid (w4.heap.size<=sb/\lb≠sb/\xb≠sb/\eb≠sb/\w.heap.size<=sb/\lb≠ob/\xb≠ob/\sb≠ob/\eb≠ob):=by have h1:=Qt4.out.size;have h2:=Ji.out.lt;have h3:=HX4.out.lt;have h4:=HC5.out.lt;have h5:=HBD.out.lt;have h6:=HS2.out;have h7:=Rf.out.size;have h8:=Gm.out;refine ⟨?_,?_,?_,?_,?_,?_,?_,?_,?_⟩<;>omega
 rw [<-Gz,<-hsb];clear Gz hsb;have cr:=Sl.out.at_ (j:=0) (v:=.nilFunc) rfl;have fr:=Sl.out.frozen 0;refine Qn ?_;go_wp2_with fail;go_ret;have hset:=(Q73.out.setCell (p:=⟨sb,0,none⟩) Hz.out.1 (.func (.func 46) #[] #[.pointer (some ⟨lb,0,none⟩),.pointer (some ⟨xb,0,none⟩),.pointer (some ⟨sb,0,none⟩),.pointer (some ⟨eb,0,none⟩)]));refine ⟨Ho,Ih,G6,Gw,lb,xb,sb,eb,rfl,?_,?_⟩
 ·refine ⟨Ya.out.since hset,?_,?_,?_,?_,Hz.out.2.2.2.2.2.1,Hz.out.2.2.2.2.2.2.1,Hz.out.2.2.2.2.2.2.2.1,Hz.out.2.2.2.2.2.2.2.2⟩
  ·exact Ji.out.since hset
  ·exact HX4.out.since hset
  ·exact Sl.out.set 0 _
  ·exact ((HC5.out.since Q79.out).off (g':=sb) Hz.out.2.2.2.1 0 _)
 ·exact Qkt.out.setCell (p:=⟨sb,0,none⟩) Hz.out.2.2.2.2.1 _
end
end Go.Proofs.YtdncpkkhkbijfaaGreatDoor
