import Derived.Test.YtdncpkkhkbijfaaDoorTe17
import Derived.Test.YtdncpkkhkbijfaaDoorTe25
open Go.Proofs.Tryd
set_option linter.all false
set_option maxHeartbeats 0
set_option maxRecDepth 100000
namespace Go.Proofs.YtdncpkkhkbijfaaDoor
section
open Go.RowKit
theorem Qha (a:Option Addr) (c n:Nat) (l:List Nd) (hn:n=l.length) (H:Qo l) (i:Nat) (hi:i<l.length) (d:Nat) (hat:Qg l i 18 0 [] []) (w:World) (hN:Nodes w a l):RS a c n (i:Int) (.brk) d w:=by
 unfold RS;obtain ⟨lb,lo,ka,kc,at_,R⟩:=Zm hN hat;obtain rfl:=R.base;have hin:(i:Int)<(n:Int):=by omega
 have HN:=Qa hN;have c0:=R.c0;have c1:w.cell? ⟨lb,lo+i*5+1,none⟩=some (.slice ka 0 kc):=R.c1;have c2:=R.c2;have c3:=R.c3;have c4:=R.c4;obtain ⟨w1,hw1⟩:=Qb (w.alloc (.cells #[.int .i64 18,.slice ka 0 kc,.int .i64 0,.string ⟨#[]⟩,.int .i64 at_] 25));have Qp:Hid (Below w.heap.size w w1):=by rw [hw1];exact Qn
 have HH:Hid (Held w1 w.heap.size 25 #[.int .i64 18,.slice ka 0 kc,.int .i64 0,.string ⟨#[]⟩,.int .i64 at_]):=by rw [hw1];exact Held.new w _ _
 clear hN H R hat hn;go_enter func43,ntmps43;go_wp2_with fail;go_ret;exact ⟨rfl,by rw [<-hw1];exact Qp.out⟩
theorem Qhv (a:Option Addr) (c n:Nat) (l:List Nd) (hn:n=l.length) (H:Qo l) (i:Nat) (hi:i<l.length) (d:Nat) (hat:Qg l i 19 0 [] []) (w:World) (hN:Nodes w a l):RS a c n (i:Int) (.cont) d w:=by
 unfold RS;obtain ⟨lb,lo,ka,kc,at_,R⟩:=Zm hN hat;obtain rfl:=R.base;have hin:(i:Int)<(n:Int):=by omega
 have HN:=Qa hN;have c0:=R.c0;have c1:w.cell? ⟨lb,lo+i*5+1,none⟩=some (.slice ka 0 kc):=R.c1;have c2:=R.c2;have c3:=R.c3;have c4:=R.c4;obtain ⟨w1,hw1⟩:=Qb (w.alloc (.cells #[.int .i64 19,.slice ka 0 kc,.int .i64 0,.string ⟨#[]⟩,.int .i64 at_] 25));have Qp:Hid (Below w.heap.size w w1):=by rw [hw1];exact Qn
 have HH:Hid (Held w1 w.heap.size 25 #[.int .i64 19,.slice ka 0 kc,.int .i64 0,.string ⟨#[]⟩,.int .i64 at_]):=by rw [hw1];exact Held.new w _ _
 clear hN H R hat hn;go_enter func43,ntmps43;go_wp2_with fail;go_ret;exact ⟨rfl,by rw [<-hw1];exact Qp.out⟩
theorem Qn9 (a:Option Addr) (c n:Nat) (l:List Nd) (hn:n=l.length) (H:Qo l) (i:Nat) (hi:i<l.length) (d:Nat) (k:Int) (x:Ex) (hat:Qg l i 20 0 [] [k]) (hzx:x.txt.length<=48000) (hx: ∀w',Nodes w' a l->RE a c n k x w') (w:World) (hN:Nodes w a l):RS a c n (i:Int) (.ret x) d w:=by
 unfold RS;obtain ⟨lb,lo,ka,kc,at_,R⟩:=Zm hN hat;obtain rfl:=R.base;have hin:(i:Int)<(n:Int):=by omega
 have HN:=Qa hN;have c0:=R.c0;have c1:w.cell? ⟨lb,lo+i*5+1,none⟩=some (.slice ka 1 kc):=R.c1;have c2:=R.c2;have c3:=R.c3;have c4:=R.c4;have Zq:=Qa hx;clear hx;obtain ⟨kb,ko,rfl,hkb,hkc⟩:=R.rows (show 0<1 by decide);have ex:w.cell? ⟨kb,ko,none⟩=some (.int .i64 k):=hkc 0 (by simp);clear hkc;obtain ⟨w1,hw1⟩:=Qb (w.alloc (.cells #[.int .i64 20,.slice (some ⟨kb,ko,none⟩) 1 kc,.int .i64 0,.string ⟨#[]⟩,.int .i64 at_] 25));have Qp:Hid (Below w.heap.size w w1):=by rw [hw1];exact Qn
 have HH:Hid (Held w1 w.heap.size 25 #[.int .i64 20,.slice (some ⟨kb,ko,none⟩) 1 kc,.int .i64 0,.string ⟨#[]⟩,.int .i64 at_]):=by rw [hw1];exact Held.new w _ _
 have e2:=(Qp.out.cell (p:=_) hkb).trans ex;rw [hw1]at e2;obtain ⟨Bx,hBx⟩:=Qb (⟨(x.txt).toArray⟩:ByteArray);have Zo:Hid (Bx.data.toList=x.txt):=by show _=_;rw [hBx]
 have hbx:Bx.size<=10000000:=by rw [hBx,Wj];exact Xw hzx (by decide)
 have Ah:Hid (Calls prog 10 #[.slice (some ⟨lb,lo,none⟩) n c,.int .i64 k] w1 λe w'=>e= .returned (.string Bx)/\Below w1.heap.size w1 w'):=by rw [hBx];exact Zq.out _ (HN.out.below Qp.out)
 have Dh: ¬(9223372036854775807<7+Bx.size):=by omega
 have Dx: ¬(9223372036854775807<7+Bx.size+1):=by omega
 rw [hw1]at Ah;clear hBx ex;clear hN H R hat hn;go_enter func43,ntmps43;go_wp2_with fail;refine Ah.out.mono ?_;rw [<-hw1];rintro e w2 ⟨rfl,hb2⟩;have HB2:Hid (Below w.heap.size w w2):=Qp.out.trans (hb2.mono Qp.out.size);clear hb2;go_wp2_with fail;go_ret;refine ⟨Z8 ?_,HB2.out⟩;simp [Zo.out,St.txt,Vy]
theorem Qo4 (a:Option Addr) (c n:Nat) (l:List Nd) (hn:n=l.length) (H:Qo l) (i:Nat) (hi:i<l.length) (d:Nat) (k:Int) (x:Ex) (hat:Qg l i 21 0 [] [k]) (hzx:x.txt.length<=48000) (hx: ∀w',Nodes w' a l->RE a c n k x w') (w:World) (hN:Nodes w a l):RS a c n (i:Int) (.print x) d w:=by
 unfold RS;obtain ⟨lb,lo,ka,kc,at_,R⟩:=Zm hN hat;obtain rfl:=R.base;have hin:(i:Int)<(n:Int):=by omega
 have HN:=Qa hN;have c0:=R.c0;have c1:w.cell? ⟨lb,lo+i*5+1,none⟩=some (.slice ka 1 kc):=R.c1;have c2:=R.c2;have c3:=R.c3;have c4:=R.c4;have Zq:=Qa hx;clear hx;obtain ⟨kb,ko,rfl,hkb,hkc⟩:=R.rows (show 0<1 by decide);have ex:w.cell? ⟨kb,ko,none⟩=some (.int .i64 k):=hkc 0 (by simp);clear hkc;obtain ⟨w1,hw1⟩:=Qb (w.alloc (.cells #[.int .i64 21,.slice (some ⟨kb,ko,none⟩) 1 kc,.int .i64 0,.string ⟨#[]⟩,.int .i64 at_] 25));have Qp:Hid (Below w.heap.size w w1):=by rw [hw1];exact Qn
 have HH:Hid (Held w1 w.heap.size 25 #[.int .i64 21,.slice (some ⟨kb,ko,none⟩) 1 kc,.int .i64 0,.string ⟨#[]⟩,.int .i64 at_]):=by rw [hw1];exact Held.new w _ _
 have e2:=(Qp.out.cell (p:=_) hkb).trans ex;rw [hw1]at e2;obtain ⟨Bx,hBx⟩:=Qb (⟨(x.txt).toArray⟩:ByteArray);have Zo:Hid (Bx.data.toList=x.txt):=by show _=_;rw [hBx]
 have hbx:Bx.size<=10000000:=by rw [hBx,Wj];exact Xw hzx (by decide)
 have Ah:Hid (Calls prog 10 #[.slice (some ⟨lb,lo,none⟩) n c,.int .i64 k] w1 λe w'=>e= .returned (.string Bx)/\Below w1.heap.size w1 w'):=by rw [hBx];exact Zq.out _ (HN.out.below Qp.out)
 have Dh: ¬(9223372036854775807<6+Bx.size):=by omega
 have Dx: ¬(9223372036854775807<6+Bx.size+1):=by omega
 rw [hw1]at Ah;clear hBx ex;clear hN H R hat hn;go_enter func43,ntmps43;go_wp2_with fail;refine Ah.out.mono ?_;rw [<-hw1];rintro e w2 ⟨rfl,hb2⟩;have HB2:Hid (Below w.heap.size w w2):=Qp.out.trans (hb2.mono Qp.out.size);clear hb2;go_wp2_with fail;go_ret;refine ⟨Z8 ?_,HB2.out⟩;simp [Zo.out,St.txt,Je]
theorem Qnk (a:Option Addr) (c n:Nat) (l:List Nd) (hn:n=l.length) (H:Qo l) (i:Nat) (hi:i<l.length) (d:Nat) (k:Int) (x:Ex) (s:List UInt8) (xs:List Ex) (hxe:x= .call s xs) (hat:Qg l i 22 0 [] [k]) (hzx:x.txt.length<=48000) (hx: ∀w',Nodes w' a l->RE a c n k x w') (w:World) (hN:Nodes w a l):RS a c n (i:Int) (.do_ s xs) d w:=by
 unfold RS;obtain ⟨lb,lo,ka,kc,at_,R⟩:=Zm hN hat;obtain rfl:=R.base;have hin:(i:Int)<(n:Int):=by omega
 have HN:=Qa hN;have c0:=R.c0;have c1:w.cell? ⟨lb,lo+i*5+1,none⟩=some (.slice ka 1 kc):=R.c1;have c2:=R.c2;have c3:=R.c3;have c4:=R.c4;have Zq:=Qa hx;clear hx;obtain ⟨kb,ko,rfl,hkb,hkc⟩:=R.rows (show 0<1 by decide);have ex:w.cell? ⟨kb,ko,none⟩=some (.int .i64 k):=hkc 0 (by simp);clear hkc;obtain ⟨w1,hw1⟩:=Qb (w.alloc (.cells #[.int .i64 22,.slice (some ⟨kb,ko,none⟩) 1 kc,.int .i64 0,.string ⟨#[]⟩,.int .i64 at_] 25));have Qp:Hid (Below w.heap.size w w1):=by rw [hw1];exact Qn
 have HH:Hid (Held w1 w.heap.size 25 #[.int .i64 22,.slice (some ⟨kb,ko,none⟩) 1 kc,.int .i64 0,.string ⟨#[]⟩,.int .i64 at_]):=by rw [hw1];exact Held.new w _ _
 have e2:=(Qp.out.cell (p:=_) hkb).trans ex;rw [hw1]at e2;obtain ⟨Bx,hBx⟩:=Qb (⟨(x.txt).toArray⟩:ByteArray);have Zo:Hid (Bx.data.toList=x.txt):=by show _=_;rw [hBx]
 have hbx:Bx.size<=10000000:=by rw [hBx,Wj];exact Xw hzx (by decide)
 have Ah:Hid (Calls prog 10 #[.slice (some ⟨lb,lo,none⟩) n c,.int .i64 k] w1 λe w'=>e= .returned (.string Bx)/\Below w1.heap.size w1 w'):=by rw [hBx];exact Zq.out _ (HN.out.below Qp.out)
 have Dh: ¬(9223372036854775807<Bx.size+1):=by omega
 rw [hw1]at Ah;have Rj:=Qa hxe;clear hBx ex hxe;clear hN H R hat hn;go_enter func43,ntmps43;go_wp2_with fail;refine Ah.out.mono ?_;rw [<-hw1];rintro e w2 ⟨rfl,hb2⟩;have HB2:Hid (Below w.heap.size w w2):=Qp.out.trans (hb2.mono Qp.out.size);clear hb2;go_wp2_with fail;go_ret;refine ⟨Z8 ?_,HB2.out⟩;have h1:=Zo.out;rw [Rj.out]at h1;simp [h1,St.txt]
theorem Qrc (a:Option Addr) (c n:Nat) (l:List Nd) (hn:n=l.length) (H:Qo l) (i:Nat) (hi:i<l.length) (d m:Nat) (ks:List Int) (b:List St) (hm:m=ks.length) (hb:b.length=m) (hml:m<=1000) (hd:d<=5000) (hat:Qg l i 23 0 [] ks) (hz:(Ww b d).length<=10000000)
  (h: ∀w',Nodes w' a l-> ∀j,j<m->RS a c n (ks.getD j 0) (b.getD j .brk) (d+1) w') (w:World) (hN:Nodes w a l):RB a c n (i:Int) b d w:=by
 unfold RB;obtain ⟨lb,lo,ka,kc,at_,R⟩:=Zm hN hat;obtain rfl:=R.base;have hin:(i:Int)<(n:Int):=by omega
 have HN:=Qa hN;have HI:=Qa h;have HM:=Qa hm;have Zn:=Qa hb;have HZ:=Qa hz;have Sk:=Qa R.lt;have Iz:Hid (w.cell? ⟨lb,lo+i*5+1,none⟩=some (.slice ka m kc)):=by have h1:=R.c1;rw [<-hm]at h1;exact h1
 have HRW:Hid (Wo .i64 w ka m (λj=>ks.getD j 0)):=by have h1:=R.rows;rw [<-hm]at h1;exact h1
 obtain ⟨D,hD⟩:=Qb (d+1);have hDw:IntKind.i64.wrap ((d:Int)+1)=(D:Int):=by rw [hD,Go.IntWalk.i64_in _ (by omega)];omega
 have hD5:D<=5001:=by omega
 have Qe:Hid (Ww b d=123::10::Y4 b D++(tabs d++[125])):=by show _=_;rw [hD];rfl
 rw [<-hD]at HI;have Yw:Hid (∀j,(Y4 (b.take j) D).length+3+d<=10000000):=λj=>by have h1:=P7 D b j;have h2:=hz;rw [Qe.out]at h2;simp only [Qd,Qf,Qk,Cc]at h2;omega
 clear hN h hm hb hz R H hat hn hD;go_enter func24,ntmps24;go_wp2_with fail;go_loopw [7,8] (λt7 t8 wr=> ∃(j:Nat) (T:ByteArray),j<=m/\t8= .int .i64 (j:Int)/\t7= .string T/\T.size<=10000000/\Hid (T.data.toList=123::10::Y4 (b.take j) D)/\Hid (Below w.heap.size w wr)) (λ_ t8 _=>m-(intOf t8).toNat)
 case atStart=>exact ⟨0,_,by omega,rfl,rfl,by decide,by show _=_;rw [List.take_zero];rfl,Below.refl _ _⟩
 case round=>
  obtain ⟨j,T,hj,rfl,rfl,hz,HT,HB⟩:=hrel;have c1:=(HB.out.cell (p:=⟨lb,lo+i*5+1,none⟩) Sk.out).trans Iz.out;by_cases hjm:j<m
  ·have Bp:(j:Int)<(m:Int):=(by omega);obtain ⟨kb,ko,rfl,hkb,hkc⟩:=HRW.out (by omega);have ck:=(HB.out.cell (p:=⟨kb,ko+j,none⟩) hkb).trans (hkc j hjm);simp only at ck;have W9:=Qa (Qbw (b:=b) (e:=D) (j:=j) (by rw [Zn.out];exact hjm));have HL2:=Qa (Yw.out (j+1));obtain ⟨k,hk⟩:=Qb (ks.getD j 0);obtain ⟨x,hx⟩:=Qb (b.getD j .brk);have HS:Hid (∀w',Nodes w' (some ⟨lb,lo,none⟩) l->RS (some ⟨lb,lo,none⟩) c n k x D w'):=λw' hN'=>(by rw [hk,hx];exact HI.out w' hN' j hjm);rw [<-hk]at ck;rw [<-hx]at W9;obtain ⟨SB,hsb⟩:=Qb (⟨(x.txt D).toArray⟩:ByteArray);have El:Hid (SB.data.toList=x.txt D):=(by show _=_;rw [hsb]);obtain ⟨TB,htb⟩:=Qb (⟨(tabs D).toArray⟩:ByteArray);have Cy:Hid (TB.data.toList=tabs D):=(by show _=_;rw [htb]);have htz:TB.size<=5001:=(by rw [htb,Wj,Cc];exact hD5);have hsz:T.size+TB.size+SB.size+1<=10000000:=by have h1:=HL2.out;rw [W9.out]at h1;simp only [Qd,Qf,Qk]at h1;have h3:SB.size=(x.txt D).length:=(by rw [hsb];rfl);have h5:TB.size=(tabs D).length:=(by rw [htb];rfl);have h4:T.size=(123::10::Y4 (b.take j) D).length:=(by rw [<-HT.out,Kw]);simp only [Qf]at h4;omega
   have hs1: ¬(9223372036854775807<T.size+TB.size):=(by omega);have hs2: ¬(9223372036854775807<T.size+TB.size+SB.size):=(by omega);have hs3: ¬(9223372036854775807<T.size+TB.size+SB.size+1):=(by omega);have r1:=cell_regrown c1;have rk:=cell_regrown ck;have cT: ∀d' os,Calls prog 42 #[.int .i64 (D:Int)] (Sort.grow (redrawn wr d') os) λe w''=>e= .returned (.string TB)/\ ∃q:Regrown,w''=Sort.grow (redrawn wr q.d) q.os:=λd' os=>Calls.regrown_of ((Qfe D _ (by omega)).mono λe w' h=>⟨by rw [h.1,htb],by rw [h.2];exact Below.refl _ _⟩);have cS: ∀d' os,Calls prog 43 #[.slice (some ⟨lb,lo,none⟩) n c,.int .i64 k,.int .i64 (D:Int)] (Sort.grow (redrawn wr d') os) λe w''=>e= .returned (.string SB)/\ ∃q:Regrown,w''=Sort.grow (redrawn wr q.d) q.os:=λd' os=>Calls.regrown_of (by rw [hsb];exact HS.out _ (HN.out.below (HB.out.trans ((below_regrown wr d' os).mono HB.out.size))));clear hk hx hsb htb hkc;go_wp2_with fail;refine wp_region_quiet_below (by kernel_rfl) (by kernel_rfl) ?_
   repeat (any_goals (first |go_big_quiet_step (first |(with_reducible exact cT _ _) |(with_reducible exact cS _ _)) |quiet_step (first |(with_reducible exact cT _ _) |(with_reducible exact cS _ _))))
   refine wpQuiet_nil ?_;intro _ hw';obtain ⟨⟨dq,osq⟩,hw''⟩:=hw';obtain ⟨w2,hw2⟩:=Qb (Sort.grow (redrawn wr dq) osq);have HB2:Hid (Below w.heap.size w w2):=(by rw [hw2];exact HB.out.trans ((below_regrown wr dq osq).mono HB.out.size));rw [hw'',<-hw2];clear hw2 hw'' r1 rk cT cS c1 ck;go_wp2_with fail;go_roundw
   case rel=>
    have h5:(T++TB++SB++(⟨#[10]⟩:ByteArray)).data.toList=123::10::Y4 (b.take (j+1)) D:=(by rw [W9.out];simp [HT.out,El.out,Cy.out]);refine ⟨j+1,_,by omega,by go_num,rfl,?_,h5,HB2⟩;have h1:=HL2.out;rw [<-Kw,h5];simp only [Qf];omega
   case measure=>simp [intOf];omega
  ·obtain rfl:j=m:=(by omega);have HJ:Hid (b.take j=b):=(by show _=_;rw [Ac (by rw [Zn.out];exact Yc _)]);obtain ⟨TB,htb⟩:=Qb (⟨(tabs d).toArray⟩:ByteArray);have Cy:Hid (TB.data.toList=tabs d):=(by show _=_;rw [htb]);have htz:TB.size<=5000:=(by rw [htb,Wj,Cc];exact hd);have HCT:=Qa (Qfe d wr (by omega));rw [<-htb]at HCT;clear htb;have hs1: ¬(9223372036854775807<T.size+TB.size):=(by omega);have hs2: ¬(9223372036854775807<T.size+TB.size+1):=(by omega);go_wp2_with fail;refine HCT.out.mono ?_;rintro e w2 ⟨rfl,hw2⟩;rw [hw2];clear hw2 w2;go_wp2_with fail;go_ret;refine ⟨Z8 ?_,HB.out⟩;have h1:=HT.out;rw [HJ.out]at h1;rw [Qe.out];simp [h1,Cy.out]
theorem Qi1: ∀x:St,1<=x.part.size:=λx=>by cases x<;>(rw [St.part];exact Nat.succ_le_succ (Kr _))
theorem XB.Qfi {l:List Nd} {k:Int} {b:List St} (h:XB l k b) (hT:Y5 l) (hk:k.toNat<l.length) (hll:l.length<=1000) {d:Nat} (hd:d<=2900):(Ww b d).length<=10000000:=by have h2:=h.z;have h3:=Nw hT hk;have h4:(Ee b).size=Y0 (Vg b)+1:=rfl;have h5:=Di b (d+1) 4000 8060 h.fin (by omega) rfl;unfold Ww;simp only [Qd,Qf,Qk,Cc];have h6:8060*Y0 (Vg b)<=8060*1000:=Nat.mul_le_mul_left _ (by omega);omega
theorem Qjf (a:Option Addr) (c n:Nat) (l:List Nd) (hn:n=l.length) (hll:n<=1000) (H:Qo l) (hT:Y5 l): ∀N i,i<N->i<l.length-> ∀d,d+i<=2000->
  (Y9 (nd l i).kind=true-> ∀x,XS l (i:Int) x-> ∀w,Nodes w a l->RS a c n (i:Int) x d w)/\((nd l i).kind=23-> ∀b,XB l (i:Int) b-> ∀w,Nodes w a l->RB a c n (i:Int) b d w):=by
 intro N
 induction N with
 |zero=>intro i h;omega
 |succ N ih=>
  intro i Cv hi d hd;have K6: ∀k y,k∈(nd l i).kids->Qt (Qz l k)=true->XE l k y->y.txt.length<=48000/\ ∀w',Nodes w' a l->RE a c n k y w':=by intro k y hk he hy;have h1:=H.kid hi hk;obtain ⟨q,rfl⟩: ∃q:Nat,k=(q:Int):=⟨k.toNat,by omega⟩;have hq:q<l.length:=(by omega);exact ⟨hy.short hT hq (by omega),Qfy a c n l hn hll H hT (q+1) q (by omega) hq he y hy⟩
  have La: ∀k y,k∈(nd l i).kids->Qz l k=23->XB l k y->(Ww y d).length<=10000000/\ ∀w',Nodes w' a l->RB a c n k y d w':=by intro k y hk he hy;have h1:=H.kid hi hk;obtain ⟨q,rfl⟩: ∃q:Nat,k=(q:Int):=⟨k.toNat,by omega⟩;have hq:q<l.length:=(by omega);exact ⟨hy.Qfi hT hq (by omega) (by omega),(ih q (by omega) hq d (by omega)).2 he y hy⟩
  have Qoj: ∀k y,k∈(nd l i).kids->Y9 (Qz l k)=true->XS l k y-> ∀w',Nodes w' a l->RS a c n k y (d+1) w':=by intro k y hk he hy;have h1:=H.kid hi hk;obtain ⟨q,rfl⟩: ∃q:Nat,k=(q:Int):=⟨k.toNat,by omega⟩;have hq:q<l.length:=(by omega);exact (ih q (by omega) hq (d+1) (by omega)).1 he y hy
  constructor
  ·intro hst x hx w hN;have hk:=Aa hst;have hcases:(nd l i).kind=12\/(nd l i).kind=13\/(nd l i).kind=14\/(nd l i).kind=15\/(nd l i).kind=16\/(nd l i).kind=17\/(nd l i).kind=18\/(nd l i).kind=19\/(nd l i).kind=20\/(nd l i).kind=21\/(nd l i).kind=22:=(by omega);rcases hcases with hK |hK |hK |hK |hK |hK |hK |hK |hK |hK |hK
   ·obtain ⟨s,k,u,hs,hat,hek,hu,h2⟩:=H.k12 hi hK;rw [hx.one h2];obtain ⟨z1,r1⟩:=K6 k u (by rw [hat.ks];simp) hek hu;exact Qmm a c n l hn H i hi d s hs.short k u hat z1 r1 w hN
   ·obtain ⟨s,k,u,hs,hat,hek,hu,h2⟩:=H.k13 hi hK;rw [hx.one h2];obtain ⟨z1,r1⟩:=K6 k u (by rw [hat.ks];simp) hek hu;exact Qse a c n l hn H i hi d s hs.short k u hat z1 r1 w hN
   ·obtain ⟨s,j,k,u,v,hs,hat,Jm,hek,hu,hv,h2⟩:=H.k14 hi hK;rw [hx.one h2];obtain ⟨z1,r1⟩:=K6 j u (by rw [hat.ks];simp) Jm hu;obtain ⟨z2,r2⟩:=K6 k v (by rw [hat.ks];simp) hek hv;exact Qm9 a c n l hn H i hi d s hs.short j u k v hat z1 r1 z2 r2 w hN
   ·rcases H.k15 hi hK with ⟨j,k,u,v,hat,Jm,hek,hu,hv,h2⟩ |⟨j,k,m,u,v,y,hat,Jm,hek,hem,hu,hv,hy,h2⟩
    ·rw [hx.one h2];obtain ⟨z1,r1⟩:=K6 j u (by rw [hat.ks];simp) Jm hu;obtain ⟨z2,r2⟩:=La k v (by rw [hat.ks];simp) hek hv;exact Qn2 a c n l hn H i hi d j u k v hat z1 r1 z2 r2 w hN
    ·rw [hx.one h2];obtain ⟨z1,r1⟩:=K6 j u (by rw [hat.ks];simp) Jm hu;obtain ⟨z2,r2⟩:=La k v (by rw [hat.ks];simp) hek hv;obtain ⟨z3,r3⟩:=La m y (by rw [hat.ks];simp) hem hy;exact Qh3 a c n l hn H i hi d j u k v m y hat z1 r1 z2 r2 z3 r3 w hN
   ·obtain ⟨j,k,u,v,hat,Jm,hek,hu,hv,h2⟩:=H.k16 hi hK;rw [hx.one h2];obtain ⟨z1,r1⟩:=K6 j u (by rw [hat.ks];simp) Jm hu;obtain ⟨z2,r2⟩:=La k v (by rw [hat.ks];simp) hek hv;exact Qkq a c n l hn H i hi d j u k v hat z1 r1 z2 r2 w hN
   ·obtain ⟨s,j,k,m,u,v,y,hs,hat,Jm,hek,hem,hu,hv,hy,h2⟩:=H.k17 hi hK;rw [hx.one h2];obtain ⟨z1,r1⟩:=K6 j u (by rw [hat.ks];simp) Jm hu;obtain ⟨z2,r2⟩:=K6 k v (by rw [hat.ks];simp) hek hv;obtain ⟨z3,r3⟩:=La m y (by rw [hat.ks];simp) hem hy;exact Qjq a c n l hn H i hi d s hs.short j u k v m y hat z1 r1 z2 r2 z3 r3 w hN
   ·obtain ⟨hat,h2⟩:=H.k18 hi hK;rw [hx.one h2];exact Qha a c n l hn H i hi d hat w hN
   ·obtain ⟨hat,h2⟩:=H.k19 hi hK;rw [hx.one h2];exact Qhv a c n l hn H i hi d hat w hN
   ·obtain ⟨k,u,hat,hek,hu,h2⟩:=H.k20 hi hK;rw [hx.one h2];obtain ⟨z1,r1⟩:=K6 k u (by rw [hat.ks];simp) hek hu;exact Qn9 a c n l hn H i hi d k u hat z1 r1 w hN
   ·obtain ⟨k,u,hat,hek,hu,h2⟩:=H.k21 hi hK;rw [hx.one h2];obtain ⟨z1,r1⟩:=K6 k u (by rw [hat.ks];simp) hek hu;exact Qo4 a c n l hn H i hi d k u hat z1 r1 w hN
   ·obtain ⟨k,s,xs,hat,hek,hu,h2⟩:=H.k22 hi hK;rw [hx.one h2];obtain ⟨z1,r1⟩:=K6 k _ (by rw [hat.ks];simp) (by rw [hek];rfl) hu;exact Qnk a c n l hn H i hi d k _ s xs rfl hat z1 r1 w hN
  ·intro hK b hb w hN;obtain ⟨ks,b2,hat,hks,hbs,h2⟩:=H.k23 hi hK;have e:=hb.one h2;subst e;have hkl:ks.length<=1000:=by
    have h1:=hb.z;have h3:=Nw hT hi;have h4:(Ee b).size=Y0 (Vg b)+1:=rfl;have h5: ∀q:List St,q.length<=Y0 (Vg q):=λq=>by
     induction q with
     |nil=>exact Kr _
     |cons x q ih=>rw [Qc9,Qf];have:=Qi1 x;omega
    have h6:=hbs.Qaj;have h7:=h5 b;have h8:((i:Nat):Int).toNat=i:=rfl;rw [h8]at h1;omega
   exact Qrc a c n l hn H i hi d ks.length ks b rfl hbs.Qaj hkl (by omega) hat (hb.Qfi hT hi (by omega) (by omega)) (λw' hN' j hj=>Qoj (ks.getD j 0) (b.getD j .brk) (by rw [hat.ks];exact Ld hj) (hks _ (Ld hj)) (hbs.at9 St.brk j hj) w' hN') w hN
end
end Go.Proofs.YtdncpkkhkbijfaaDoor
