import Derived.Test.YtdncpkkhkbijfaaDoorTe13
open Go.Proofs.Tryd
set_option linter.all false
set_option maxHeartbeats 0
set_option maxRecDepth 100000
namespace Go.Proofs.YtdncpkkhkbijfaaDoor
section
open Go.RowKit
theorem Qja {P:Pl} {i:Nat} {s:List UInt8} {ks:List Int} {xs:List Ex} {e:Ex} (h:Qg P.l i 9 0 s ks) (hs:s.length<=32) (he:e.txt=[108,101,110]++(s++[40])++Q8 true xs++[41]) (hlen:ks.length=xs.length) (h8:ks.length<=8) (Vb: ∀j,j<ks.length-> ∃q:Nat,ks[j]? =some (q:Int)/\Yr P q (xs.getD j .nil)):Yr P i e:=by
 intro t w hE hl;have Qe:Hid (e.txt=[108,101,110]++(s++[40])++Q8 true xs++[41]):=he;have Er:=Qa Vb;obtain ⟨m,hm⟩:=Qb ks.length;have HM:Hid (ks.length=m):=hm.symm;have Dw:Hid (xs.length=m):=by rw [hm];exact hlen.symm
 have Ow:m<=8:=by omega
 clear Vb he hlen h8 hm;obtain ⟨nb,no,ka,kc,at_,hN⟩:=Zx hE h;have HE:=Qa hE;have HN:=Qa hN;have HL:=Qa hl;have hin:(i:Int)<(P.n:Int):=by have:=hE.len;have:=h.hi;omega
 clear hE hN hl h;have cL:=HE.out.lc.at_ (j:=0) rfl;rw [HN.out.base]at cL;obtain ⟨c0,c1,c2,c3,c4⟩:=HN.out.cells t w HE.out;rw [HM.out]at c1;obtain ⟨SB,hsb⟩:=Qb (⟨(s:List UInt8).toArray⟩:ByteArray);rw [<-hsb]at c3;have Wq:Hid (SB.data.toList=s):=by show _=_;rw [hsb]
 have hsbz:SB.size<=32:=by rw [hsb,Wj];exact hs
 clear hsb;have Zf:Hid (∀w',Below w.heap.size w w'->Calls prog 11 #[.agg #[.int .i64 9,.slice ka m kc,.int .i64 0,.string SB,.int .i64 at_]] w' λe w''=>e= .returned (.int .i64 ((7:Nat):Int))/\Below w'.heap.size w' w''):=by intro w' hb;have h1:=Vq 9 0 ka m kc SB at_ w' ⟨HE.out.tabs.tabs.below (HE.out.since hb).below,Wm HE.out.tabs.heads (HE.out.since hb).below,Wm HE.out.tabs.strs (HE.out.since hb).below⟩;rw [show Yf 9 0=7 from rfl]at h1;exact h1
 go_enter func35,ntmps35;go_wp2_with fail;obtain ⟨w1,hw1⟩:=Qb (w.alloc (.cells #[.int .i64 9,.slice ka m kc,.int .i64 0,.string SB,.int .i64 at_] 25));obtain ⟨xn,hxn⟩:=Qb w.heap.size;have HB1:Hid (Below w.heap.size w w1):=by rw [hw1];exact Qn
 have Qs:Hid (Held w1 xn 25 #[.int .i64 9,.slice ka m kc,.int .i64 0,.string SB,.int .i64 at_]):=by rw [hw1,hxn];exact Held.new w _ _
 have Qm:Hid (xn≠P.ob):=by have:=HE.out.bd.lt;show _≠_;omega
 rw [<-hw1,<-hxn];clear hw1 hxn c0 c1 c2 c3 c4 cL;refine (Zf.out w1 HB1.out).mono ?_;rintro e w2 ⟨rfl,hb2⟩;have HE2:=Qa ((HE.out.since HB1.out).since hb2);have Ws:Hid (Qc P.B P.ob w w2):=(Qc.of HE.out.bd.size HB1.out).trans (.of (HE.out.since HB1.out).bd.size hb2);have Qh:=Qa (Qs.out.since hb2);clear hb2;have c0:=Qh.out.at_ (j:=0) rfl;have cX:=HE2.out.xc.at_ (j:=0) rfl;have cH:w2.cell? ⟨0,9,none⟩=some (.string ⟨([108,101,110]:List UInt8).toArray⟩):=Wv (Wm HE2.out.tabs.heads HE2.out.below) (Z0 9 (by decide));go_wp2_with fail;go_still_tail 5,(by kernel_rfl);change wpList _ _ _ _ _ w2.drew;obtain ⟨v2,hv2⟩:=Qb w2.drew;have HD2:Hid (Below w2.heap.size w2 v2):=by rw [hv2];exact Q5 w2 1 _
 rw [<-hv2];clear hv2 c0 cX cH;go_wp2_with fail;refine (Yb [108,101,110] (HE2.out.since HD2.out).bd (by have h1:=HL.out;rw [Qe.out]at h1;simp only [Qd,Qf,Qk]at h1 ⊢;omega)).mono ?_;rintro e w3 ⟨rfl,Qy,hk3⟩;have Wn:Hid (Qc P.B P.ob w w3):=(Ws.out.trans (.of HE2.out.bd.size HD2.out)).trans hk3;have Qr:=Qa (((Qc.of HE2.out.bd.size HD2.out).trans hk3).held Qh.out Qm.out (by decide));have Qj:=Qa (HE2.out.keep ((Qc.of HE2.out.bd.size HD2.out).trans hk3) Qy);clear Qy hk3;have c0:=Qr.out.at_ (j:=0) rfl;have cX:=Qj.out.xc.at_ (j:=0) rfl;have c3:=Qr.out.at_ (j:=3) rfl;go_wp2_with fail;refine (Xb _ (s++[40]) (by simp [Wq.out]) Qj.out.bd (by have h1:=HL.out;rw [Qe.out]at h1;simp only [Qd,Qf,Qk]at h1 ⊢;omega)).mono ?_;rintro e w4 ⟨rfl,Wi,hk4⟩;have Yd:Hid (Qc P.B P.ob w w4):=(Wn.out).trans hk4;have Yz:=Qa ((hk4).held Qr.out Qm.out (by decide));have Qw:=Qa (Qj.out.keep (hk4) Wi);clear Wi hk4 c0 c3 cX;have c1:=Yz.out.at_ (j:=1) rfl;go_wp2_with fail;go_loopw [9,10,108] (λ_ _ v wr=> ∃j:Nat,j<=m/\v= .int .i64 (j:Int)/\Hid (Ya P (t++[108,101,110]++(s++[40])++Q8 true (xs.take j)) wr)/\Hid (Qc P.B P.ob w wr)/\Hid (Held wr xn 25 #[.int .i64 9,.slice ka m kc,.int .i64 0,.string SB,.int .i64 at_])) (λ_ _ v _=>m-(intOf v).toNat)
 case atStart=>exact ⟨0,by omega,rfl,(by have h9:=Qw.out;show Ya _ _ _;rw [List.take_zero,Q8,Js];exact h9),Yd,Yz⟩
 case round=>
  obtain ⟨j,hj,rfl,Yo,J4,Kv⟩:=hrel;obtain ⟨Vv,rfl⟩:=Qb wr;by_cases hjm:j<m
  ·have Bp:(j:Int)<(m:Int):=(by omega);obtain ⟨kb,ko,hka,hkc⟩:=HN.out.kids (by rw [HM.out];omega);obtain ⟨q,hjq,hput⟩:=Er.out j (by rw [HM.out];exact hjm);have ck:=hkc _ Vv Yo.out j _ hjq;rw [hka];have Xq:=Qa hput;have W9:=Qa (Om (xs:=xs) (j:=j) (by rw [Dw.out];exact hjm));have Yw:=Qa (Iu true xs (j+1));have Vo:=Qa hka;clear hkc hjq hput hka;by_cases hj0:j=0
   ·have Mf: ¬(0:Int)<(j:Int):=(by omega);have Xz:Hid (Zd true j=[]):=(by show _=_;rw [hj0];rfl);clear hj0;have cP:=Yo.out.pc.at_ (j:=0) rfl;go_wp2_with fail;refine (Xq.out _ _ Yo.out (by have h1:=HL.out;have h2:=Yw.out;rw [W9.out,Xz.out]at h2;rw [Qe.out]at h1;simp only [Qd,Qf,Qk]at h1 h2 ⊢;omega)).mono ?_;rintro e Z9 ⟨rfl,Zw,Yn⟩;have Xn:Hid (Qc P.B P.ob w Z9):=(J4.out).trans Yn;have J2:=Qa ((Yn).held Kv.out Qm.out (by decide));have Zl:=Qa Zw;clear Zw Yn ck cP;have Jr:Hid (Ya P (t++[108,101,110]++(s++[40])++Q8 true (xs.take (j+1))) Z9):=by have h9:=Zl.out;show Ya _ _ _;rw [W9.out,Xz.out];simp only [Yg,Ba,Js]at h9 ⊢;exact h9
    go_wp2_with fail;go_roundw
    case rel=>exact ⟨j+1,by omega,by go_num,Jr,Xn,(by have h9:=J2.out;rw [Vo.out]at h9;exact Qa h9)⟩
    case measure=>simp [intOf];omega
   ·have Mf:(0:Int)<(j:Int):=(by omega);have Xz:Hid (Zd true j=[44,32]):=(by show _=_;unfold Zd;rw [Q6 (by omega)]);clear hj0;have cX:=Yo.out.xc.at_ (j:=0) rfl;go_wp2_with fail;refine (Xb _ [44,32] rfl Yo.out.bd (by have h1:=HL.out;have h2:=Yw.out;rw [W9.out,Xz.out]at h2;rw [Qe.out]at h1;simp only [Qd,Qf,Qk]at h1 h2 ⊢;omega)).mono ?_;rintro e Z9 ⟨rfl,Zw,Yn⟩;have Xn:Hid (Qc P.B P.ob w Z9):=(J4.out).trans Yn;have J2:=Qa ((Yn).held Kv.out Qm.out (by decide));have Zl:=Qa (Yo.out.keep (Yn) Zw);clear Zw Yn cX ck;have cP:=Zl.out.pc.at_ (j:=0) rfl;go_wp2_with fail;refine (Xq.out _ _ Zl.out (by have h1:=HL.out;have h2:=Yw.out;rw [W9.out,Xz.out]at h2;rw [Qe.out]at h1;simp only [Qd,Qf,Qk]at h1 h2 ⊢;omega)).mono ?_;rintro e Ai ⟨rfl,J3,X5⟩;have Da:Hid (Qc P.B P.ob w Ai):=(Xn.out).trans X5;have Ev:=Qa ((X5).held J2.out Qm.out (by decide));have Bo:=Qa J3;clear J3 X5 cP;have Jr:Hid (Ya P (t++[108,101,110]++(s++[40])++Q8 true (xs.take (j+1))) Ai):=by have h9:=Bo.out;show Ya _ _ _;rw [W9.out,Xz.out];simp only [Yg,Ba,Js]at h9 ⊢;exact h9
    go_wp2_with fail;go_roundw
    case rel=>exact ⟨j+1,by omega,by go_num,Jr,Da,(by have h9:=Ev.out;rw [Vo.out]at h9;exact Qa h9)⟩
    case measure=>simp [intOf];omega
  ·have HJ:Hid (xs.take j=xs):=(by show _=_;rw [Ac (by rw [Dw.out];omega)]);rw [HJ.out]at Yo;have cX:=Yo.out.xc.at_ (j:=0) rfl;go_wp2_with fail;refine (Yb [41] Yo.out.bd (by have h1:=HL.out;rw [Qe.out]at h1;simp only [Qd,Qf,Qk]at h1 ⊢;omega)).mono ?_;rintro e Z9 ⟨rfl,Zw,Yn⟩;have Xn:Hid (Qc P.B P.ob w Z9):=(J4.out).trans Yn;have J2:=Qa ((Yn).held Kv.out Qm.out (by decide));have Zl:=Qa (Yo.out.keep (Yn) Zw);clear Zw Yn cX;go_wp2_with fail;go_end0;refine ⟨rfl,?_,Xn.out⟩;have h9:=Zl.out;rw [Qe.out];simp only [Yg]at h9 ⊢;exact h9
theorem Qho {P:Pl} {i:Nat} {s:List UInt8} {ks:List Int} {xs:List Ex} {e:Ex} (h:Qg P.l i 10 0 s ks) (hs:s.length<=32) (he:e.txt=[110,101,119]++(s++[40])++Q8 true xs++[41]) (hlen:ks.length=xs.length) (h8:ks.length<=8) (Vb: ∀j,j<ks.length-> ∃q:Nat,ks[j]? =some (q:Int)/\Yr P q (xs.getD j .nil)):Yr P i e:=by
 intro t w hE hl;have Qe:Hid (e.txt=[110,101,119]++(s++[40])++Q8 true xs++[41]):=he;have Er:=Qa Vb;obtain ⟨m,hm⟩:=Qb ks.length;have HM:Hid (ks.length=m):=hm.symm;have Dw:Hid (xs.length=m):=by rw [hm];exact hlen.symm
 have Ow:m<=8:=by omega
 clear Vb he hlen h8 hm;obtain ⟨nb,no,ka,kc,at_,hN⟩:=Zx hE h;have HE:=Qa hE;have HN:=Qa hN;have HL:=Qa hl;have hin:(i:Int)<(P.n:Int):=by have:=hE.len;have:=h.hi;omega
 clear hE hN hl h;have cL:=HE.out.lc.at_ (j:=0) rfl;rw [HN.out.base]at cL;obtain ⟨c0,c1,c2,c3,c4⟩:=HN.out.cells t w HE.out;rw [HM.out]at c1;obtain ⟨SB,hsb⟩:=Qb (⟨(s:List UInt8).toArray⟩:ByteArray);rw [<-hsb]at c3;have Wq:Hid (SB.data.toList=s):=by show _=_;rw [hsb]
 have hsbz:SB.size<=32:=by rw [hsb,Wj];exact hs
 clear hsb;have Zf:Hid (∀w',Below w.heap.size w w'->Calls prog 11 #[.agg #[.int .i64 10,.slice ka m kc,.int .i64 0,.string SB,.int .i64 at_]] w' λe w''=>e= .returned (.int .i64 ((7:Nat):Int))/\Below w'.heap.size w' w''):=by intro w' hb;have h1:=Vq 10 0 ka m kc SB at_ w' ⟨HE.out.tabs.tabs.below (HE.out.since hb).below,Wm HE.out.tabs.heads (HE.out.since hb).below,Wm HE.out.tabs.strs (HE.out.since hb).below⟩;rw [show Yf 10 0=7 from rfl]at h1;exact h1
 go_enter func35,ntmps35;go_wp2_with fail;obtain ⟨w1,hw1⟩:=Qb (w.alloc (.cells #[.int .i64 10,.slice ka m kc,.int .i64 0,.string SB,.int .i64 at_] 25));obtain ⟨xn,hxn⟩:=Qb w.heap.size;have HB1:Hid (Below w.heap.size w w1):=by rw [hw1];exact Qn
 have Qs:Hid (Held w1 xn 25 #[.int .i64 10,.slice ka m kc,.int .i64 0,.string SB,.int .i64 at_]):=by rw [hw1,hxn];exact Held.new w _ _
 have Qm:Hid (xn≠P.ob):=by have:=HE.out.bd.lt;show _≠_;omega
 rw [<-hw1,<-hxn];clear hw1 hxn c0 c1 c2 c3 c4 cL;refine (Zf.out w1 HB1.out).mono ?_;rintro e w2 ⟨rfl,hb2⟩;have HE2:=Qa ((HE.out.since HB1.out).since hb2);have Ws:Hid (Qc P.B P.ob w w2):=(Qc.of HE.out.bd.size HB1.out).trans (.of (HE.out.since HB1.out).bd.size hb2);have Qh:=Qa (Qs.out.since hb2);clear hb2;have c0:=Qh.out.at_ (j:=0) rfl;have cX:=HE2.out.xc.at_ (j:=0) rfl;have cH:w2.cell? ⟨0,10,none⟩=some (.string ⟨([110,101,119]:List UInt8).toArray⟩):=Wv (Wm HE2.out.tabs.heads HE2.out.below) (Z0 10 (by decide));go_wp2_with fail;go_still_tail 5,(by kernel_rfl);change wpList _ _ _ _ _ w2.drew;obtain ⟨v2,hv2⟩:=Qb w2.drew;have HD2:Hid (Below w2.heap.size w2 v2):=by rw [hv2];exact Q5 w2 1 _
 rw [<-hv2];clear hv2 c0 cX cH;go_wp2_with fail;refine (Yb [110,101,119] (HE2.out.since HD2.out).bd (by have h1:=HL.out;rw [Qe.out]at h1;simp only [Qd,Qf,Qk]at h1 ⊢;omega)).mono ?_;rintro e w3 ⟨rfl,Qy,hk3⟩;have Wn:Hid (Qc P.B P.ob w w3):=(Ws.out.trans (.of HE2.out.bd.size HD2.out)).trans hk3;have Qr:=Qa (((Qc.of HE2.out.bd.size HD2.out).trans hk3).held Qh.out Qm.out (by decide));have Qj:=Qa (HE2.out.keep ((Qc.of HE2.out.bd.size HD2.out).trans hk3) Qy);clear Qy hk3;have c0:=Qr.out.at_ (j:=0) rfl;have cX:=Qj.out.xc.at_ (j:=0) rfl;have c3:=Qr.out.at_ (j:=3) rfl;go_wp2_with fail;refine (Xb _ (s++[40]) (by simp [Wq.out]) Qj.out.bd (by have h1:=HL.out;rw [Qe.out]at h1;simp only [Qd,Qf,Qk]at h1 ⊢;omega)).mono ?_;rintro e w4 ⟨rfl,Wi,hk4⟩;have Yd:Hid (Qc P.B P.ob w w4):=(Wn.out).trans hk4;have Yz:=Qa ((hk4).held Qr.out Qm.out (by decide));have Qw:=Qa (Qj.out.keep (hk4) Wi);clear Wi hk4 c0 c3 cX;have c1:=Yz.out.at_ (j:=1) rfl;go_wp2_with fail;go_loopw [9,10,108] (λ_ _ v wr=> ∃j:Nat,j<=m/\v= .int .i64 (j:Int)/\Hid (Ya P (t++[110,101,119]++(s++[40])++Q8 true (xs.take j)) wr)/\Hid (Qc P.B P.ob w wr)/\Hid (Held wr xn 25 #[.int .i64 10,.slice ka m kc,.int .i64 0,.string SB,.int .i64 at_])) (λ_ _ v _=>m-(intOf v).toNat)
 case atStart=>exact ⟨0,by omega,rfl,(by have h9:=Qw.out;show Ya _ _ _;rw [List.take_zero,Q8,Js];exact h9),Yd,Yz⟩
 case round=>
  obtain ⟨j,hj,rfl,Yo,J4,Kv⟩:=hrel;obtain ⟨Vv,rfl⟩:=Qb wr;by_cases hjm:j<m
  ·have Bp:(j:Int)<(m:Int):=(by omega);obtain ⟨kb,ko,hka,hkc⟩:=HN.out.kids (by rw [HM.out];omega);obtain ⟨q,hjq,hput⟩:=Er.out j (by rw [HM.out];exact hjm);have ck:=hkc _ Vv Yo.out j _ hjq;rw [hka];have Xq:=Qa hput;have W9:=Qa (Om (xs:=xs) (j:=j) (by rw [Dw.out];exact hjm));have Yw:=Qa (Iu true xs (j+1));have Vo:=Qa hka;clear hkc hjq hput hka;by_cases hj0:j=0
   ·have Mf: ¬(0:Int)<(j:Int):=(by omega);have Xz:Hid (Zd true j=[]):=(by show _=_;rw [hj0];rfl);clear hj0;have cP:=Yo.out.pc.at_ (j:=0) rfl;go_wp2_with fail;refine (Xq.out _ _ Yo.out (by have h1:=HL.out;have h2:=Yw.out;rw [W9.out,Xz.out]at h2;rw [Qe.out]at h1;simp only [Qd,Qf,Qk]at h1 h2 ⊢;omega)).mono ?_;rintro e Z9 ⟨rfl,Zw,Yn⟩;have Xn:Hid (Qc P.B P.ob w Z9):=(J4.out).trans Yn;have J2:=Qa ((Yn).held Kv.out Qm.out (by decide));have Zl:=Qa Zw;clear Zw Yn ck cP;have Jr:Hid (Ya P (t++[110,101,119]++(s++[40])++Q8 true (xs.take (j+1))) Z9):=by have h9:=Zl.out;show Ya _ _ _;rw [W9.out,Xz.out];simp only [Yg,Ba,Js]at h9 ⊢;exact h9
    go_wp2_with fail;go_roundw
    case rel=>exact ⟨j+1,by omega,by go_num,Jr,Xn,(by have h9:=J2.out;rw [Vo.out]at h9;exact Qa h9)⟩
    case measure=>simp [intOf];omega
   ·have Mf:(0:Int)<(j:Int):=(by omega);have Xz:Hid (Zd true j=[44,32]):=(by show _=_;unfold Zd;rw [Q6 (by omega)]);clear hj0;have cX:=Yo.out.xc.at_ (j:=0) rfl;go_wp2_with fail;refine (Xb _ [44,32] rfl Yo.out.bd (by have h1:=HL.out;have h2:=Yw.out;rw [W9.out,Xz.out]at h2;rw [Qe.out]at h1;simp only [Qd,Qf,Qk]at h1 h2 ⊢;omega)).mono ?_;rintro e Z9 ⟨rfl,Zw,Yn⟩;have Xn:Hid (Qc P.B P.ob w Z9):=(J4.out).trans Yn;have J2:=Qa ((Yn).held Kv.out Qm.out (by decide));have Zl:=Qa (Yo.out.keep (Yn) Zw);clear Zw Yn cX ck;have cP:=Zl.out.pc.at_ (j:=0) rfl;go_wp2_with fail;refine (Xq.out _ _ Zl.out (by have h1:=HL.out;have h2:=Yw.out;rw [W9.out,Xz.out]at h2;rw [Qe.out]at h1;simp only [Qd,Qf,Qk]at h1 h2 ⊢;omega)).mono ?_;rintro e Ai ⟨rfl,J3,X5⟩;have Da:Hid (Qc P.B P.ob w Ai):=(Xn.out).trans X5;have Ev:=Qa ((X5).held J2.out Qm.out (by decide));have Bo:=Qa J3;clear J3 X5 cP;have Jr:Hid (Ya P (t++[110,101,119]++(s++[40])++Q8 true (xs.take (j+1))) Ai):=by have h9:=Bo.out;show Ya _ _ _;rw [W9.out,Xz.out];simp only [Yg,Ba,Js]at h9 ⊢;exact h9
    go_wp2_with fail;go_roundw
    case rel=>exact ⟨j+1,by omega,by go_num,Jr,Da,(by have h9:=Ev.out;rw [Vo.out]at h9;exact Qa h9)⟩
    case measure=>simp [intOf];omega
  ·have HJ:Hid (xs.take j=xs):=(by show _=_;rw [Ac (by rw [Dw.out];omega)]);rw [HJ.out]at Yo;have cX:=Yo.out.xc.at_ (j:=0) rfl;go_wp2_with fail;refine (Yb [41] Yo.out.bd (by have h1:=HL.out;rw [Qe.out]at h1;simp only [Qd,Qf,Qk]at h1 ⊢;omega)).mono ?_;rintro e Z9 ⟨rfl,Zw,Yn⟩;have Xn:Hid (Qc P.B P.ob w Z9):=(J4.out).trans Yn;have J2:=Qa ((Yn).held Kv.out Qm.out (by decide));have Zl:=Qa (Yo.out.keep (Yn) Zw);clear Zw Yn cX;go_wp2_with fail;go_end0;refine ⟨rfl,?_,Xn.out⟩;have h9:=Zl.out;rw [Qe.out];simp only [Yg]at h9 ⊢;exact h9
theorem Qit {P:Pl} {i:Nat} {s:List UInt8} {ks:List Int} {xs:List Ex} {e:Ex} (h:Qg P.l i 11 0 s ks) (hs:s.length<=32) (he:e.txt=[]++(s++[40])++Q8 true xs++[41]) (hlen:ks.length=xs.length) (h8:ks.length<=8) (Vb: ∀j,j<ks.length-> ∃q:Nat,ks[j]? =some (q:Int)/\Yr P q (xs.getD j .nil)):Yr P i e:=by
 intro t w hE hl;have Qe:Hid (e.txt=[]++(s++[40])++Q8 true xs++[41]):=he;have Er:=Qa Vb;obtain ⟨m,hm⟩:=Qb ks.length;have HM:Hid (ks.length=m):=hm.symm;have Dw:Hid (xs.length=m):=by rw [hm];exact hlen.symm
 have Ow:m<=8:=by omega
 clear Vb he hlen h8 hm;obtain ⟨nb,no,ka,kc,at_,hN⟩:=Zx hE h;have HE:=Qa hE;have HN:=Qa hN;have HL:=Qa hl;have hin:(i:Int)<(P.n:Int):=by have:=hE.len;have:=h.hi;omega
 clear hE hN hl h;have cL:=HE.out.lc.at_ (j:=0) rfl;rw [HN.out.base]at cL;obtain ⟨c0,c1,c2,c3,c4⟩:=HN.out.cells t w HE.out;rw [HM.out]at c1;obtain ⟨SB,hsb⟩:=Qb (⟨(s:List UInt8).toArray⟩:ByteArray);rw [<-hsb]at c3;have Wq:Hid (SB.data.toList=s):=by show _=_;rw [hsb]
 have hsbz:SB.size<=32:=by rw [hsb,Wj];exact hs
 clear hsb;have Zf:Hid (∀w',Below w.heap.size w w'->Calls prog 11 #[.agg #[.int .i64 11,.slice ka m kc,.int .i64 0,.string SB,.int .i64 at_]] w' λe w''=>e= .returned (.int .i64 ((7:Nat):Int))/\Below w'.heap.size w' w''):=by intro w' hb;have h1:=Vq 11 0 ka m kc SB at_ w' ⟨HE.out.tabs.tabs.below (HE.out.since hb).below,Wm HE.out.tabs.heads (HE.out.since hb).below,Wm HE.out.tabs.strs (HE.out.since hb).below⟩;rw [show Yf 11 0=7 from rfl]at h1;exact h1
 go_enter func35,ntmps35;go_wp2_with fail;obtain ⟨w1,hw1⟩:=Qb (w.alloc (.cells #[.int .i64 11,.slice ka m kc,.int .i64 0,.string SB,.int .i64 at_] 25));obtain ⟨xn,hxn⟩:=Qb w.heap.size;have HB1:Hid (Below w.heap.size w w1):=by rw [hw1];exact Qn
 have Qs:Hid (Held w1 xn 25 #[.int .i64 11,.slice ka m kc,.int .i64 0,.string SB,.int .i64 at_]):=by rw [hw1,hxn];exact Held.new w _ _
 have Qm:Hid (xn≠P.ob):=by have:=HE.out.bd.lt;show _≠_;omega
 rw [<-hw1,<-hxn];clear hw1 hxn c0 c1 c2 c3 c4 cL;refine (Zf.out w1 HB1.out).mono ?_;rintro e w2 ⟨rfl,hb2⟩;have HE2:=Qa ((HE.out.since HB1.out).since hb2);have Ws:Hid (Qc P.B P.ob w w2):=(Qc.of HE.out.bd.size HB1.out).trans (.of (HE.out.since HB1.out).bd.size hb2);have Qh:=Qa (Qs.out.since hb2);clear hb2;have c0:=Qh.out.at_ (j:=0) rfl;have cX:=HE2.out.xc.at_ (j:=0) rfl;have cH:w2.cell? ⟨0,11,none⟩=some (.string ⟨([]:List UInt8).toArray⟩):=Wv (Wm HE2.out.tabs.heads HE2.out.below) (Z0 11 (by decide));go_wp2_with fail;go_still_tail 5,(by kernel_rfl);change wpList _ _ _ _ _ w2.drew;obtain ⟨v2,hv2⟩:=Qb w2.drew;have HD2:Hid (Below w2.heap.size w2 v2):=by rw [hv2];exact Q5 w2 1 _
 rw [<-hv2];clear hv2 c0 cX cH;go_wp2_with fail;refine (Yb [] (HE2.out.since HD2.out).bd (by have h1:=HL.out;rw [Qe.out]at h1;simp only [Qd,Qf,Qk]at h1 ⊢;omega)).mono ?_;rintro e w3 ⟨rfl,Qy,hk3⟩;have Wn:Hid (Qc P.B P.ob w w3):=(Ws.out.trans (.of HE2.out.bd.size HD2.out)).trans hk3;have Qr:=Qa (((Qc.of HE2.out.bd.size HD2.out).trans hk3).held Qh.out Qm.out (by decide));have Qj:=Qa (HE2.out.keep ((Qc.of HE2.out.bd.size HD2.out).trans hk3) Qy);clear Qy hk3;have c0:=Qr.out.at_ (j:=0) rfl;have cX:=Qj.out.xc.at_ (j:=0) rfl;have c3:=Qr.out.at_ (j:=3) rfl;go_wp2_with fail;refine (Xb _ (s++[40]) (by simp [Wq.out]) Qj.out.bd (by have h1:=HL.out;rw [Qe.out]at h1;simp only [Qd,Qf,Qk]at h1 ⊢;omega)).mono ?_;rintro e w4 ⟨rfl,Wi,hk4⟩;have Yd:Hid (Qc P.B P.ob w w4):=(Wn.out).trans hk4;have Yz:=Qa ((hk4).held Qr.out Qm.out (by decide));have Qw:=Qa (Qj.out.keep (hk4) Wi);clear Wi hk4 c0 c3 cX;have c1:=Yz.out.at_ (j:=1) rfl;go_wp2_with fail;go_loopw [9,10,108] (λ_ _ v wr=> ∃j:Nat,j<=m/\v= .int .i64 (j:Int)/\Hid (Ya P (t++[]++(s++[40])++Q8 true (xs.take j)) wr)/\Hid (Qc P.B P.ob w wr)/\Hid (Held wr xn 25 #[.int .i64 11,.slice ka m kc,.int .i64 0,.string SB,.int .i64 at_])) (λ_ _ v _=>m-(intOf v).toNat)
 case atStart=>exact ⟨0,by omega,rfl,(by have h9:=Qw.out;show Ya _ _ _;rw [List.take_zero,Q8,Js];exact h9),Yd,Yz⟩
 case round=>
  obtain ⟨j,hj,rfl,Yo,J4,Kv⟩:=hrel;obtain ⟨Vv,rfl⟩:=Qb wr;by_cases hjm:j<m
  ·have Bp:(j:Int)<(m:Int):=(by omega);obtain ⟨kb,ko,hka,hkc⟩:=HN.out.kids (by rw [HM.out];omega);obtain ⟨q,hjq,hput⟩:=Er.out j (by rw [HM.out];exact hjm);have ck:=hkc _ Vv Yo.out j _ hjq;rw [hka];have Xq:=Qa hput;have W9:=Qa (Om (xs:=xs) (j:=j) (by rw [Dw.out];exact hjm));have Yw:=Qa (Iu true xs (j+1));have Vo:=Qa hka;clear hkc hjq hput hka;by_cases hj0:j=0
   ·have Mf: ¬(0:Int)<(j:Int):=(by omega);have Xz:Hid (Zd true j=[]):=(by show _=_;rw [hj0];rfl);clear hj0;have cP:=Yo.out.pc.at_ (j:=0) rfl;go_wp2_with fail;refine (Xq.out _ _ Yo.out (by have h1:=HL.out;have h2:=Yw.out;rw [W9.out,Xz.out]at h2;rw [Qe.out]at h1;simp only [Qd,Qf,Qk]at h1 h2 ⊢;omega)).mono ?_;rintro e Z9 ⟨rfl,Zw,Yn⟩;have Xn:Hid (Qc P.B P.ob w Z9):=(J4.out).trans Yn;have J2:=Qa ((Yn).held Kv.out Qm.out (by decide));have Zl:=Qa Zw;clear Zw Yn ck cP;have Jr:Hid (Ya P (t++[]++(s++[40])++Q8 true (xs.take (j+1))) Z9):=by have h9:=Zl.out;show Ya _ _ _;rw [W9.out,Xz.out];simp only [Yg,Ba,Js]at h9 ⊢;exact h9
    go_wp2_with fail;go_roundw
    case rel=>exact ⟨j+1,by omega,by go_num,Jr,Xn,(by have h9:=J2.out;rw [Vo.out]at h9;exact Qa h9)⟩
    case measure=>simp [intOf];omega
   ·have Mf:(0:Int)<(j:Int):=(by omega);have Xz:Hid (Zd true j=[44,32]):=(by show _=_;unfold Zd;rw [Q6 (by omega)]);clear hj0;have cX:=Yo.out.xc.at_ (j:=0) rfl;go_wp2_with fail;refine (Xb _ [44,32] rfl Yo.out.bd (by have h1:=HL.out;have h2:=Yw.out;rw [W9.out,Xz.out]at h2;rw [Qe.out]at h1;simp only [Qd,Qf,Qk]at h1 h2 ⊢;omega)).mono ?_;rintro e Z9 ⟨rfl,Zw,Yn⟩;have Xn:Hid (Qc P.B P.ob w Z9):=(J4.out).trans Yn;have J2:=Qa ((Yn).held Kv.out Qm.out (by decide));have Zl:=Qa (Yo.out.keep (Yn) Zw);clear Zw Yn cX ck;have cP:=Zl.out.pc.at_ (j:=0) rfl;go_wp2_with fail;refine (Xq.out _ _ Zl.out (by have h1:=HL.out;have h2:=Yw.out;rw [W9.out,Xz.out]at h2;rw [Qe.out]at h1;simp only [Qd,Qf,Qk]at h1 h2 ⊢;omega)).mono ?_;rintro e Ai ⟨rfl,J3,X5⟩;have Da:Hid (Qc P.B P.ob w Ai):=(Xn.out).trans X5;have Ev:=Qa ((X5).held J2.out Qm.out (by decide));have Bo:=Qa J3;clear J3 X5 cP;have Jr:Hid (Ya P (t++[]++(s++[40])++Q8 true (xs.take (j+1))) Ai):=by have h9:=Bo.out;show Ya _ _ _;rw [W9.out,Xz.out];simp only [Yg,Ba,Js]at h9 ⊢;exact h9
    go_wp2_with fail;go_roundw
    case rel=>exact ⟨j+1,by omega,by go_num,Jr,Da,(by have h9:=Ev.out;rw [Vo.out]at h9;exact Qa h9)⟩
    case measure=>simp [intOf];omega
  ·have HJ:Hid (xs.take j=xs):=(by show _=_;rw [Ac (by rw [Dw.out];omega)]);rw [HJ.out]at Yo;have cX:=Yo.out.xc.at_ (j:=0) rfl;go_wp2_with fail;refine (Yb [41] Yo.out.bd (by have h1:=HL.out;rw [Qe.out]at h1;simp only [Qd,Qf,Qk]at h1 ⊢;omega)).mono ?_;rintro e Z9 ⟨rfl,Zw,Yn⟩;have Xn:Hid (Qc P.B P.ob w Z9):=(J4.out).trans Yn;have J2:=Qa ((Yn).held Kv.out Qm.out (by decide));have Zl:=Qa (Yo.out.keep (Yn) Zw);clear Zw Yn cX;go_wp2_with fail;go_end0;refine ⟨rfl,?_,Xn.out⟩;have h9:=Zl.out;rw [Qe.out];simp only [Yg]at h9 ⊢;exact h9
theorem Qeh {l:List Nd} (H:Qo l) {i:Nat} (hi:i<l.length) (hk:(nd l i).kids=[]):Rt [nd l i]:=by
 obtain ⟨x,hx⟩:=Qb (nd l i);have hf:=H.fit hi;rw [<-hx]at hf hk ⊢;have hn:nd [x] 0=x:=rfl;have hA:Ahead [x]:=λj hj k hk'=>by
  have hj0:j=0:=by simp at hj;exact hj
  subst hj0;rw [hn,hk]at hk';exact absurd hk' List.not_mem_nil
 have hall:Zt [x] [x].length=[]:=by show ([x].take 1).flatMap (λx=>x.kids)=[];simp [hk]
 refine ⟨⟨by simp,hA,by rw [hall];exact List.nodup_nil,by rw [hall];rfl⟩,?_,?_⟩
 ·intro j hj;have hj0:j=0:=by simp at hj;exact hj
  subst hj0;rw [hn];have e1:kk [x] x=[]:=by unfold kk;rw [hk];rfl
  have e2:kk l x=[]:=by unfold kk;rw [hk];rfl
  unfold Xc;rw [hf.1,e1,<-e2,hf.2];rfl
 ·show hgt [x] 0<=200;rw [Td hA (by simp),hn,hk,Z4];decide
theorem Qi5 {l:List Nd} (H:Qo l) {i:Nat} (hi:i<l.length) (hk:(nd l i).kids=[]) (h4:(nd l i).kind<=4):tx [nd l i] 0=hd (nd l i):=by have h:=Qeh H hi hk;rw [Sv h.1.2.1 (by simp) (by exact h4)];rfl
theorem M7 {x:Nd} {w:List UInt8} (h1:Xk x=w) (h2:w≠[]) (h3:x.t=[]) (h4:Xj x=[]):hd x=w:=by
 unfold hd;rw [h1,h3,h4];cases w with
 |nil=>exact absurd rfl h2
 |cons c cs=>simp [Lib.join]
theorem Qh1 {x:Nd} (h1:Xk x=[]) (h3:x.t≠[]) (h4:Xj x=[]):hd x=x.t:=by
 unfold hd;rw [h1,h4];cases h:x.t with
 |nil=>exact absurd h h3
 |cons c cs=>simp [Lib.join]
theorem Qln {l:List Nd} {i m:Nat} (h:Qg l i 1 (m:Int) [] []):hd (nd l i)=(Ex.num m).txt:=by rw [Ex.txt];refine M7 (by unfold Xk;rw [Wy h.k,h.n]) ?_ h.t (by unfold Xj;rw [h.k,Q6 (by decide)]);rw [Qnm];obtain ⟨c,cs,hc⟩:=Qne m;rw [hc];exact List.cons_ne_nil _ _
theorem Qm2 {l:List Nd} {i:Nat} {b:Bool} (h:Qg l i 2 (if b then 1 else 0) [] []):hd (nd l i)=(Ex.bool b).txt:=by
 rw [Ex.txt];cases b with
 |true=>exact M7 (by unfold Xk;rw [Q6 (by rw [h.k];decide),Wy h.k,h.n];rfl) (by decide) h.t (by unfold Xj;rw [h.k,Q6 (by decide)])
 |false=>exact M7 (by unfold Xk;rw [Q6 (by rw [h.k];decide),Wy h.k,h.n];rfl) (by decide) h.t (by unfold Xj;rw [h.k,Q6 (by decide)])
theorem Qlv {l:List Nd} {i:Nat} (h:Qg l i 3 0 [] []):hd (nd l i)=Ex.nil.txt:=by rw [Ex.txt];exact M7 (by unfold Xk;rw [h.k];rfl) (by decide) h.t (by unfold Xj;rw [h.k,Q6 (by decide)])
theorem Qid {l:List Nd} {i:Nat} {s:List UInt8} (h:Qg l i 4 0 s []) (hs:Y6 s):hd (nd l i)=(Ex.var s).txt:=by
 rw [Ex.txt];have hne:(nd l i).t≠[]:=by obtain ⟨c,cs,e,_⟩:=hs.word.first;rw [h.t,e];exact List.cons_ne_nil _ _
 exact (Qh1 (by unfold Xk;rw [h.k];rfl) hne (by unfold Xj;rw [h.k,Q6 (by decide)])).trans h.t
theorem Oc {P:Pl} {t:List UInt8} {w:World} (hE:Ya P t w) {i:Nat} (hi:i<P.l.length) (hk:(nd P.l i).kids=[]) (h4:(nd P.l i).kind<=4) {nb no:Nat} (ha:P.a=some ⟨nb,no,none⟩) (c:Nat):
  Calls prog 36 #[.slice (some ⟨nb,no+i*5,none⟩) 1 c] w λe w'=>e= .returned (.string ⟨(hd (nd P.l i)).toArray⟩)/\Below w.heap.size w w':=by
 obtain ⟨b,o,hba,hlt,hc⟩:=hE.nodes.at_ hi;rw [ha]at hba;injection hba with hba
 injection hba with e1 e2
 subst e1 e2;have hN:Nodes w (some ⟨nb,no+i*5,none⟩) [nd P.l i]:=by
  refine ⟨λ_=>⟨nb,no+i*5,rfl,Uc hlt hE.below.size,λj hj=> ?_⟩,λj hj=> ?_⟩
  ·have hj0:j=0:=(by simp at hj;exact hj);subst hj0;rw [Nat.zero_mul,Nat.add_zero];exact hc.below hE.below hlt
  ·have hj0:j=0:=(by simp at hj;exact hj);subst hj0;exact (hE.nodes.2 i hi).below hE.below
 refine (Qrv (some ⟨nb,no+i*5,none⟩) c 1 [nd P.l i] w rfl (hE.tabs.tabs.below hE.below) hN (by decide)).mono ?_;rintro e w' ⟨hb,h⟩;refine ⟨?_,hb⟩;rcases h with ⟨_,he⟩ |⟨hno,_⟩
 ·rw [he];show Ending.returned (txt (tx [nd P.l i] 0))=_;rw [Qi5 hE.tree hi hk h4];rfl
 ·exact absurd (Qeh hE.tree hi hk) hno
theorem Iy (b o n c i:Nat) (h:i+1<=c) (w:World):
  (Instr.slice 22 (.slice (some ⟨b,o,none⟩) n c) (some (.int .i64 (i:Int))) (some (.int .i64 ((i:Int)+1))) none).run prog w= .ok (.slice (some ⟨b,o+i*5,none⟩) 1 (c-i)) w:=by
 rw [run_slice_lh (P:=prog) w 22 _ n c (by kernel_rfl) .i64 .i64 (i:Int) ((i:Int)+1) (by omega) (by omega) (by omega)];have e1:((i:Int)+1).toNat=i+1:=by omega
 have he:prog.elem 22=25:=by kernel_rfl
 have hs:Sem.run prog (Go.sizeOf (prog.elem 22)) w=Result.ok 5 w:=by rw [he];exact Tryd.sizeOf25 w
 rw [hs];show Result.ok (sliced _ _ _ _ _) w=_;unfold sliced;rw [e1,Jo,Q6 (by omega),Nat.add_sub_cancel_left];simp only [Option.map,Addr.add];by_cases h0:i*5=0
 ·rw [Wy h0,h0];rfl
 ·rw [Q6 h0]
theorem Ns (b o n c i:Nat) (h:i+1<=c) (w:World):
  (Instr.sliceAt 22 (.slice (some ⟨b,o,none⟩) n c) (some (.int .i64 (i:Int))) (some (.int .i64 ((i:Int)+1))) none).run prog w= .ok (.slice (some ⟨b,o+i*5,none⟩) 1 (c-i)) w:=by
 rw [run_sliceAt_slice (P:=prog) w 22 _ _ _ _ (by kernel_rfl)];exact Iy b o n c i h w
end
end Go.Proofs.YtdncpkkhkbijfaaDoor
