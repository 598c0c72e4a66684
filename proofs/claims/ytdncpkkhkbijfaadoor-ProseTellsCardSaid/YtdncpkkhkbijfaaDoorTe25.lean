import Derived.Test.YtdncpkkhkbijfaaDoorTe24
open Go.Proofs.Tryd
set_option linter.all false
set_option maxHeartbeats 0
set_option maxRecDepth 100000
namespace Go.Proofs.YtdncpkkhkbijfaaDoor
section
open Go.RowKit
theorem Xr.Qaj {α:Type} {P:Int->α->Prop} {ks:List Int} {xs:List α} (h:Xr P ks xs):xs.length=ks.length:=by
 induction h with
 |nil=>rfl
 |cons _ _ ih=>rw [Qf,Qf,ih]
theorem Xr.at9 {α:Type} {P:Int->α->Prop} {ks:List Int} {xs:List α} (d:α) (h:Xr P ks xs): ∀j,j<ks.length->P (ks.getD j 0) (xs.getD j d):=by
 induction h with
 |nil=>intro j hj;simp at hj
 |cons h1 _ ih=>
  intro j hj;cases j with
  |zero=>exact h1
  |succ j=>exact ih j (by simpa using hj)
theorem Ld {ks:List Int} {j:Nat} (hj:j<ks.length):ks.getD j 0∈ks:=by rw [Yh,Za hj];exact Ca hj
def RE (a:Option Addr) (c n:Nat) (k:Int) (x:Ex) (w:World):Prop:=
 Calls prog 10 #[.slice a n c,.int .i64 k] w λe w'=>e= .returned (.string ⟨x.txt.toArray⟩)/\Below w.heap.size w w'
theorem Qfy (a:Option Addr) (c n:Nat) (l:List Nd) (hn:n=l.length) (hll:n<=1000) (H:Qo l) (hT:Y5 l): ∀N i,i<N->i<l.length->Qt (nd l i).kind=true-> ∀x,XE l (i:Int) x-> ∀w,Nodes w a l->RE a c n (i:Int) x w:=by
 intro N
 induction N with
 |zero=>intro i h;omega
 |succ N ih=>
  intro i Cv hi hex x hx w hN;have Cz: ∀k y,k∈(nd l i).kids->Qt (Qz l k)=true->XE l k y-> ∀w',Nodes w' a l->RE a c n k y w':=by intro k y hk he hy w' hN';have h1:=H.kid hi hk;obtain ⟨q,rfl⟩: ∃q:Nat,k=(q:Int):=⟨k.toNat,by omega⟩;exact ih q (by omega) (by omega) he y hy w' hN'
  have hk:=Ke hex;have hcases:(nd l i).kind=1\/(nd l i).kind=2\/(nd l i).kind=3\/(nd l i).kind=4\/(nd l i).kind=5\/(nd l i).kind=6\/(nd l i).kind=7\/(nd l i).kind=8\/(nd l i).kind=9\/(nd l i).kind=10\/(nd l i).kind=11:=by omega
  have hsh:x.txt.length<=48000:=hx.short hT hi (by omega);rcases hcases with hK |hK |hK |hK |hK |hK |hK |hK |hK |hK |hK
  ·obtain ⟨m,hat,h1⟩:=H.k1 hi hK;rw [hx.one h1];exact Qms a c n l hn hll H hT i hi m hat w hN
  ·obtain ⟨b,hat,h1⟩:=H.k2 hi hK;rw [hx.one h1];cases b with
   |true=>exact Qmc a c n l hn hll H hT i hi hat w hN
   |false=>exact Qj4 a c n l hn hll H hT i hi hat w hN
  ·obtain ⟨hat,h1⟩:=H.k3 hi hK;rw [hx.one h1];exact Qh9 a c n l hn hll H hT i hi hat w hN
  ·obtain ⟨s,hs,hat,h1⟩:=H.k4 hi hK;rw [hx.one h1];exact Qjy a c n l hn hll H hT i hi s hs.short hat w hN
  ·obtain ⟨op,j,k,u,v,h1,h16,hat,Jm,hek,hu,hv,h2⟩:=H.k5 hi hK;rw [hx.one h2];exact Qq2 a c n l hn hll H hT i hi j u k v op h1 h16 hat Jm hu hek hv w hN (Cz j u (by rw [hat.ks];simp) Jm hu) (Cz k v (by rw [hat.ks];simp) hek hv)
  ·obtain ⟨k,u,hat,hek,hu,h2⟩:=H.k6 hi hK;rw [hx.one h2];exact Qje a c n l hn hll H hT i hi k u hat hek hu w hN (Cz k u (by rw [hat.ks];simp) hek hu)
  ·obtain ⟨k,u,hat,hek,hu,h2⟩:=H.k7 hi hK;rw [hx.one h2];exact Qna a c n l hn hll H hT i hi k u hat hek hu w hN (Cz k u (by rw [hat.ks];simp) hek hu)
  ·obtain ⟨j,k,u,v,hat,Jm,hek,hu,hv,h2⟩:=H.k8 hi hK;rw [hx.one h2];exact Qie a c n l hn hll H hT i hi j u k v hat Jm hu hek hv w hN (Cz j u (by rw [hat.ks];simp) Jm hu) (Cz k v (by rw [hat.ks];simp) hek hv)
  ·obtain ⟨k,u,hat,hek,hu,h2⟩:=H.k9 hi hK;rw [hx.one h2];have hku:=H.kid hi (k:=k) (by rw [hat.ks];simp);exact Qm8 a c n l hn hll H hT i hi k u (hu.short hT (by omega) (by omega)) hat w hN (λw' hN' j hj=>by obtain rfl:j=0:=(by omega);exact Cz k u (by rw [hat.ks];simp) hek hu w' hN')
  ·obtain ⟨k,u,hat,hek,hu,h2⟩:=H.k10 hi hK;rw [hx.one h2];have hku:=H.kid hi (k:=k) (by rw [hat.ks];simp);exact Qlt a c n l hn hll H hT i hi k u (hu.short hT (by omega) (by omega)) hat w hN (λw' hN' j hj=>by obtain rfl:j=0:=(by omega);exact Cz k u (by rw [hat.ks];simp) hek hu w' hN')
  ·obtain ⟨s,ks,xs,hs,h8,hat,hek,hxs,h2⟩:=H.k11 hi hK;have e:=hx.one h2;subst e;have hal:(Q8 true xs).length<=1000000:=by have h1:=hsh;rw [Ex.txt]at h1;simp only [Qd,Qf]at h1;omega
   exact Qh8 a c n l hn hll H hT i hi s hs.short ks.length ks xs rfl h8 hxs.Qaj hal hat w hN (λw' hN' j hj=>Cz (ks.getD j 0) (xs.getD j Ex.nil) (by rw [hat.ks];exact Ld hj) (hek _ (Ld hj)) (hxs.at9 Ex.nil j hj) w' hN')
def RS (a:Option Addr) (c n:Nat) (k:Int) (x:St) (d:Nat) (w:World):Prop:=
 Calls prog 43 #[.slice a n c,.int .i64 k,.int .i64 (d:Int)] w λe w'=>e= .returned (.string ⟨(x.txt d).toArray⟩)/\Below w.heap.size w w'
def RB (a:Option Addr) (c n:Nat) (k:Int) (x:List St) (d:Nat) (w:World):Prop:=
 Calls prog 24 #[.slice a n c,.int .i64 k,.int .i64 (d:Int)] w λe w'=>e= .returned (.string ⟨(Ww x d).toArray⟩)/\Below w.heap.size w w'
theorem Qmm (a:Option Addr) (c n:Nat) (l:List Nd) (hn:n=l.length) (H:Qo l) (i:Nat) (hi:i<l.length) (d:Nat) (s:List UInt8) (hs:s.length<=32) (k:Int) (x:Ex) (hat:Qg l i 12 0 s [k]) (hzx:x.txt.length<=48000) (hx: ∀w',Nodes w' a l->RE a c n k x w') (w:World) (hN:Nodes w a l):RS a c n (i:Int) (.let_ s x) d w:=by
 unfold RS;obtain ⟨lb,lo,ka,kc,at_,R⟩:=Zm hN hat;obtain rfl:=R.base;have hin:(i:Int)<(n:Int):=by omega
 have HN:=Qa hN;have c0:=R.c0;have c1:w.cell? ⟨lb,lo+i*5+1,none⟩=some (.slice ka 1 kc):=R.c1;have c2:=R.c2;have c3:=R.c3;have c4:=R.c4;have Zq:=Qa hx;clear hx;obtain ⟨kb,ko,rfl,hkb,hkc⟩:=R.rows (show 0<1 by decide);have ex:w.cell? ⟨kb,ko,none⟩=some (.int .i64 k):=hkc 0 (by simp);clear hkc;obtain ⟨SB,hsb⟩:=Qb (⟨s.toArray⟩:ByteArray);have Wq:Hid (SB.data.toList=s):=by show _=_;rw [hsb]
 have hsz:SB.size<=32:=by rw [hsb,Wj];exact hs
 rw [<-hsb]at c3;clear hsb;obtain ⟨w1,hw1⟩:=Qb (w.alloc (.cells #[.int .i64 12,.slice (some ⟨kb,ko,none⟩) 1 kc,.int .i64 0,.string SB,.int .i64 at_] 25));have Qp:Hid (Below w.heap.size w w1):=by rw [hw1];exact Qn
 have HH:Hid (Held w1 w.heap.size 25 #[.int .i64 12,.slice (some ⟨kb,ko,none⟩) 1 kc,.int .i64 0,.string SB,.int .i64 at_]):=by rw [hw1];exact Held.new w _ _
 clear hN H R hat hn;go_enter func43,ntmps43;go_wp2_with fail;rw [<-hw1];clear hw1 c0 c1 c2 c3 c4;have gx:=cell_regrown ((Qp.out.cell (p:=_) hkb).trans ex);have g3:=cell_regrown (HH.out.at_ (j:=3) (v:=.string SB) rfl);obtain ⟨Bx,hBx⟩:=Qb (⟨(x.txt).toArray⟩:ByteArray);have Zo:Hid (Bx.data.toList=x.txt):=by show _=_;rw [hBx]
 have hbx:Bx.size<=10000000:=by rw [hBx,Wj];exact Xw hzx (by decide)
 have Xy: ∀d' os,Calls prog 10 #[.slice (some ⟨lb,lo,none⟩) n c,.int .i64 k] (Sort.grow (redrawn w1 d') os) λe w''=>e= .returned (.string Bx)/\ ∃q:Regrown,w''=Sort.grow (redrawn w1 q.d) q.os:=λd' os=>Calls.regrown_of (by rw [hBx];exact Zq.out _ (HN.out.below (Qp.out.trans ((below_regrown w1 d' os).mono Qp.out.size))));have Dh: ¬(9223372036854775807<4+SB.size):=by omega
 have Dx: ¬(9223372036854775807<4+SB.size+3):=by omega
 have Gy: ¬(9223372036854775807<4+SB.size+3+Bx.size):=by omega
 have Uh: ¬(9223372036854775807<4+SB.size+3+Bx.size+1):=by omega
 clear ex hBx;refine wp_region_quiet_below (by kernel_rfl) (by kernel_rfl) ?_
 repeat (any_goals (first |go_big_quiet_step (first |(with_reducible exact Xy _ _)) |quiet_step (first |(with_reducible exact Xy _ _))))
 refine wpQuiet_nil ?_;intro _ hw';obtain ⟨⟨dq,osq⟩,hw''⟩:=hw';obtain ⟨w2,hw2⟩:=Qb (Sort.grow (redrawn w1 dq) osq);have Qv:Hid (Below w.heap.size w w2):=by rw [hw2];exact Qp.out.trans ((below_regrown w1 dq osq).mono Qp.out.size)
 rw [hw'',<-hw2];clear hw2 hw'';go_wp2_with fail;go_ret;refine ⟨Z8 ?_,Qv.out⟩;simp [Wq.out,Zo.out,St.txt,Ja,eqs]
theorem Qse (a:Option Addr) (c n:Nat) (l:List Nd) (hn:n=l.length) (H:Qo l) (i:Nat) (hi:i<l.length) (d:Nat) (s:List UInt8) (hs:s.length<=32) (k:Int) (x:Ex) (hat:Qg l i 13 0 s [k]) (hzx:x.txt.length<=48000) (hx: ∀w',Nodes w' a l->RE a c n k x w') (w:World) (hN:Nodes w a l):RS a c n (i:Int) (.set s x) d w:=by
 unfold RS;obtain ⟨lb,lo,ka,kc,at_,R⟩:=Zm hN hat;obtain rfl:=R.base;have hin:(i:Int)<(n:Int):=by omega
 have HN:=Qa hN;have c0:=R.c0;have c1:w.cell? ⟨lb,lo+i*5+1,none⟩=some (.slice ka 1 kc):=R.c1;have c2:=R.c2;have c3:=R.c3;have c4:=R.c4;have Zq:=Qa hx;clear hx;obtain ⟨kb,ko,rfl,hkb,hkc⟩:=R.rows (show 0<1 by decide);have ex:w.cell? ⟨kb,ko,none⟩=some (.int .i64 k):=hkc 0 (by simp);clear hkc;obtain ⟨SB,hsb⟩:=Qb (⟨s.toArray⟩:ByteArray);have Wq:Hid (SB.data.toList=s):=by show _=_;rw [hsb]
 have hsz:SB.size<=32:=by rw [hsb,Wj];exact hs
 rw [<-hsb]at c3;clear hsb;obtain ⟨w1,hw1⟩:=Qb (w.alloc (.cells #[.int .i64 13,.slice (some ⟨kb,ko,none⟩) 1 kc,.int .i64 0,.string SB,.int .i64 at_] 25));have Qp:Hid (Below w.heap.size w w1):=by rw [hw1];exact Qn
 have HH:Hid (Held w1 w.heap.size 25 #[.int .i64 13,.slice (some ⟨kb,ko,none⟩) 1 kc,.int .i64 0,.string SB,.int .i64 at_]):=by rw [hw1];exact Held.new w _ _
 clear hN H R hat hn;go_enter func43,ntmps43;go_wp2_with fail;rw [<-hw1];clear hw1 c0 c1 c2 c3 c4;have gx:=cell_regrown ((Qp.out.cell (p:=_) hkb).trans ex);have g3:=cell_regrown (HH.out.at_ (j:=3) (v:=.string SB) rfl);obtain ⟨Bx,hBx⟩:=Qb (⟨(x.txt).toArray⟩:ByteArray);have Zo:Hid (Bx.data.toList=x.txt):=by show _=_;rw [hBx]
 have hbx:Bx.size<=10000000:=by rw [hBx,Wj];exact Xw hzx (by decide)
 have Xy: ∀d' os,Calls prog 10 #[.slice (some ⟨lb,lo,none⟩) n c,.int .i64 k] (Sort.grow (redrawn w1 d') os) λe w''=>e= .returned (.string Bx)/\ ∃q:Regrown,w''=Sort.grow (redrawn w1 q.d) q.os:=λd' os=>Calls.regrown_of (by rw [hBx];exact Zq.out _ (HN.out.below (Qp.out.trans ((below_regrown w1 d' os).mono Qp.out.size))));have Dh: ¬(9223372036854775807<SB.size+3):=by omega
 have Dx: ¬(9223372036854775807<SB.size+3+Bx.size):=by omega
 have Gy: ¬(9223372036854775807<SB.size+3+Bx.size+1):=by omega
 clear ex hBx;refine wp_region_quiet_below (by kernel_rfl) (by kernel_rfl) ?_
 repeat (any_goals (first |go_big_quiet_step (first |(with_reducible exact Xy _ _)) |quiet_step (first |(with_reducible exact Xy _ _))))
 refine wpQuiet_nil ?_;intro _ hw';obtain ⟨⟨dq,osq⟩,hw''⟩:=hw';obtain ⟨w2,hw2⟩:=Qb (Sort.grow (redrawn w1 dq) osq);have Qv:Hid (Below w.heap.size w w2):=by rw [hw2];exact Qp.out.trans ((below_regrown w1 dq osq).mono Qp.out.size)
 rw [hw'',<-hw2];clear hw2 hw'';go_wp2_with fail;go_ret;refine ⟨Z8 ?_,Qv.out⟩;simp [Wq.out,Zo.out,St.txt,eqs]
theorem Qm9 (a:Option Addr) (c n:Nat) (l:List Nd) (hn:n=l.length) (H:Qo l) (i:Nat) (hi:i<l.length) (d:Nat) (s:List UInt8) (hs:s.length<=32) (j:Int) (y:Ex) (k:Int) (x:Ex) (hat:Qg l i 14 0 s [j,k]) (hzy:y.txt.length<=48000) (hy: ∀w',Nodes w' a l->RE a c n j y w') (hzx:x.txt.length<=48000) (hx: ∀w',Nodes w' a l->RE a c n k x w') (w:World) (hN:Nodes w a l):RS a c n (i:Int) (.put s y x) d w:=by
 unfold RS;obtain ⟨lb,lo,ka,kc,at_,R⟩:=Zm hN hat;obtain rfl:=R.base;have hin:(i:Int)<(n:Int):=by omega
 have HN:=Qa hN;have c0:=R.c0;have c1:w.cell? ⟨lb,lo+i*5+1,none⟩=some (.slice ka 2 kc):=R.c1;have c2:=R.c2;have c3:=R.c3;have c4:=R.c4;have J5:=Qa hy;clear hy;have Zq:=Qa hx;clear hx;obtain ⟨kb,ko,rfl,hkb,hkc⟩:=R.rows (show 0<2 by decide);have ey:w.cell? ⟨kb,ko,none⟩=some (.int .i64 j):=hkc 0 (by simp);have ex:w.cell? ⟨kb,ko+1,none⟩=some (.int .i64 k):=hkc 1 (by simp);clear hkc;obtain ⟨SB,hsb⟩:=Qb (⟨s.toArray⟩:ByteArray);have Wq:Hid (SB.data.toList=s):=by show _=_;rw [hsb]
 have hsz:SB.size<=32:=by rw [hsb,Wj];exact hs
 rw [<-hsb]at c3;clear hsb;obtain ⟨w1,hw1⟩:=Qb (w.alloc (.cells #[.int .i64 14,.slice (some ⟨kb,ko,none⟩) 2 kc,.int .i64 0,.string SB,.int .i64 at_] 25));have Qp:Hid (Below w.heap.size w w1):=by rw [hw1];exact Qn
 have HH:Hid (Held w1 w.heap.size 25 #[.int .i64 14,.slice (some ⟨kb,ko,none⟩) 2 kc,.int .i64 0,.string SB,.int .i64 at_]):=by rw [hw1];exact Held.new w _ _
 clear hN H R hat hn;go_enter func43,ntmps43;go_wp2_with fail;rw [<-hw1];clear hw1 c0 c1 c2 c3 c4;have gy:=cell_regrown ((Qp.out.cell (p:=_) hkb).trans ey);have gx:=cell_regrown ((Qp.out.cell (p:=_) hkb).trans ex);have g3:=cell_regrown (HH.out.at_ (j:=3) (v:=.string SB) rfl);obtain ⟨By,Y1⟩:=Qb (⟨(y.txt).toArray⟩:ByteArray);have Kq:Hid (By.data.toList=y.txt):=by show _=_;rw [Y1]
 have hby:By.size<=10000000:=by rw [Y1,Wj];exact Xw hzy (by decide)
 have Ka: ∀d' os,Calls prog 10 #[.slice (some ⟨lb,lo,none⟩) n c,.int .i64 j] (Sort.grow (redrawn w1 d') os) λe w''=>e= .returned (.string By)/\ ∃q:Regrown,w''=Sort.grow (redrawn w1 q.d) q.os:=λd' os=>Calls.regrown_of (by rw [Y1];exact J5.out _ (HN.out.below (Qp.out.trans ((below_regrown w1 d' os).mono Qp.out.size))));obtain ⟨Bx,hBx⟩:=Qb (⟨(x.txt).toArray⟩:ByteArray);have Zo:Hid (Bx.data.toList=x.txt):=by show _=_;rw [hBx]
 have hbx:Bx.size<=10000000:=by rw [hBx,Wj];exact Xw hzx (by decide)
 have Xy: ∀d' os,Calls prog 10 #[.slice (some ⟨lb,lo,none⟩) n c,.int .i64 k] (Sort.grow (redrawn w1 d') os) λe w''=>e= .returned (.string Bx)/\ ∃q:Regrown,w''=Sort.grow (redrawn w1 q.d) q.os:=λd' os=>Calls.regrown_of (by rw [hBx];exact Zq.out _ (HN.out.below (Qp.out.trans ((below_regrown w1 d' os).mono Qp.out.size))));have Dh: ¬(9223372036854775807<SB.size+1):=by omega
 have Dx: ¬(9223372036854775807<SB.size+1+By.size):=by omega
 have Gy: ¬(9223372036854775807<SB.size+1+By.size+4):=by omega
 have Uh: ¬(9223372036854775807<SB.size+1+By.size+4+Bx.size):=by omega
 have Qdn: ¬(9223372036854775807<SB.size+1+By.size+4+Bx.size+1):=by omega
 clear ey Y1 ex hBx;refine wp_region_quiet_below (by kernel_rfl) (by kernel_rfl) ?_
 repeat (any_goals (first |go_big_quiet_step (first |(with_reducible exact Ka _ _) |(with_reducible exact Xy _ _)) |quiet_step (first |(with_reducible exact Ka _ _) |(with_reducible exact Xy _ _))))
 refine wpQuiet_nil ?_;intro _ hw';obtain ⟨⟨dq,osq⟩,hw''⟩:=hw';obtain ⟨w2,hw2⟩:=Qb (Sort.grow (redrawn w1 dq) osq);have Qv:Hid (Below w.heap.size w w2):=by rw [hw2];exact Qp.out.trans ((below_regrown w1 dq osq).mono Qp.out.size)
 rw [hw'',<-hw2];clear hw2 hw'';go_wp2_with fail;go_ret;refine ⟨Z8 ?_,Qv.out⟩;simp [Wq.out,Kq.out,Zo.out,St.txt,eqs]
theorem Qkq (a:Option Addr) (c n:Nat) (l:List Nd) (hn:n=l.length) (H:Qo l) (i:Nat) (hi:i<l.length) (d:Nat) (j:Int) (x:Ex) (k:Int) (y:List St) (hat:Qg l i 16 0 [] [j,k]) (hzx:x.txt.length<=48000) (hx: ∀w',Nodes w' a l->RE a c n j x w') (hzy:(Ww y d).length<=10000000) (hy: ∀w',Nodes w' a l->RB a c n k y d w') (w:World) (hN:Nodes w a l):RS a c n (i:Int) (.Kn x y) d w:=by
 unfold RS;obtain ⟨lb,lo,ka,kc,at_,R⟩:=Zm hN hat;obtain rfl:=R.base;have hin:(i:Int)<(n:Int):=by omega
 have HN:=Qa hN;have c0:=R.c0;have c1:w.cell? ⟨lb,lo+i*5+1,none⟩=some (.slice ka 2 kc):=R.c1;have c2:=R.c2;have c3:=R.c3;have c4:=R.c4;have Zq:=Qa hx;clear hx;have J5:=Qa hy;clear hy;obtain ⟨kb,ko,rfl,hkb,hkc⟩:=R.rows (show 0<2 by decide);have ex:w.cell? ⟨kb,ko,none⟩=some (.int .i64 j):=hkc 0 (by simp);have ey:w.cell? ⟨kb,ko+1,none⟩=some (.int .i64 k):=hkc 1 (by simp);clear hkc;obtain ⟨w1,hw1⟩:=Qb (w.alloc (.cells #[.int .i64 16,.slice (some ⟨kb,ko,none⟩) 2 kc,.int .i64 0,.string ⟨#[]⟩,.int .i64 at_] 25));have Qp:Hid (Below w.heap.size w w1):=by rw [hw1];exact Qn
 have HH:Hid (Held w1 w.heap.size 25 #[.int .i64 16,.slice (some ⟨kb,ko,none⟩) 2 kc,.int .i64 0,.string ⟨#[]⟩,.int .i64 at_]):=by rw [hw1];exact Held.new w _ _
 clear hN H R hat hn;go_enter func43,ntmps43;go_wp2_with fail;rw [<-hw1];clear hw1 c0 c1 c2 c3 c4;have gx:=cell_regrown ((Qp.out.cell (p:=_) hkb).trans ex);have gy:=cell_regrown ((Qp.out.cell (p:=_) hkb).trans ey);obtain ⟨Bx,hBx⟩:=Qb (⟨(x.txt).toArray⟩:ByteArray);have Zo:Hid (Bx.data.toList=x.txt):=by show _=_;rw [hBx]
 have hbx:Bx.size<=10000000:=by rw [hBx,Wj];exact Xw hzx (by decide)
 have Xy: ∀d' os,Calls prog 10 #[.slice (some ⟨lb,lo,none⟩) n c,.int .i64 j] (Sort.grow (redrawn w1 d') os) λe w''=>e= .returned (.string Bx)/\ ∃q:Regrown,w''=Sort.grow (redrawn w1 q.d) q.os:=λd' os=>Calls.regrown_of (by rw [hBx];exact Zq.out _ (HN.out.below (Qp.out.trans ((below_regrown w1 d' os).mono Qp.out.size))));obtain ⟨By,Y1⟩:=Qb (⟨(Ww y d).toArray⟩:ByteArray);have Kq:Hid (By.data.toList=Ww y d):=by show _=_;rw [Y1]
 have hby:By.size<=10000000:=by rw [Y1,Wj];exact hzy
 have Ka: ∀d' os,Calls prog 24 #[.slice (some ⟨lb,lo,none⟩) n c,.int .i64 k,.int .i64 (d:Int)] (Sort.grow (redrawn w1 d') os) λe w''=>e= .returned (.string By)/\ ∃q:Regrown,w''=Sort.grow (redrawn w1 q.d) q.os:=λd' os=>Calls.regrown_of (by rw [Y1];exact J5.out _ (HN.out.below (Qp.out.trans ((below_regrown w1 d' os).mono Qp.out.size))));have Dh: ¬(9223372036854775807<6+Bx.size):=by omega
 have Dx: ¬(9223372036854775807<6+Bx.size+1):=by omega
 have Gy: ¬(9223372036854775807<6+Bx.size+1+By.size):=by omega
 clear ex hBx ey Y1;refine wp_region_quiet_below (by kernel_rfl) (by kernel_rfl) ?_
 repeat (any_goals (first |go_big_quiet_step (first |(with_reducible exact Xy _ _) |(with_reducible exact Ka _ _)) |quiet_step (first |(with_reducible exact Xy _ _) |(with_reducible exact Ka _ _))))
 refine wpQuiet_nil ?_;intro _ hw';obtain ⟨⟨dq,osq⟩,hw''⟩:=hw';obtain ⟨w2,hw2⟩:=Qb (Sort.grow (redrawn w1 dq) osq);have Qv:Hid (Below w.heap.size w w2):=by rw [hw2];exact Qp.out.trans ((below_regrown w1 dq osq).mono Qp.out.size)
 rw [hw'',<-hw2];clear hw2 hw'';go_wp2_with fail;go_ret;refine ⟨Z8 ?_,Qv.out⟩;simp [Zo.out,Kq.out,St.txt,V9,Ww]
theorem Qjq (a:Option Addr) (c n:Nat) (l:List Nd) (hn:n=l.length) (H:Qo l) (i:Nat) (hi:i<l.length) (d:Nat) (s:List UInt8) (hs:s.length<=32) (j:Int) (x:Ex) (k:Int) (y:Ex) (m:Int) (z:List St) (hat:Qg l i 17 0 s [j,k,m]) (hzx:x.txt.length<=48000) (hx: ∀w',Nodes w' a l->RE a c n j x w') (hzy:y.txt.length<=48000) (hy: ∀w',Nodes w' a l->RE a c n k y w') (hzz:(Ww z d).length<=10000000) (hz: ∀w',Nodes w' a l->RB a c n m z d w') (w:World) (hN:Nodes w a l):RS a c n (i:Int) (.for_ s x y z) d w:=by
 unfold RS;obtain ⟨lb,lo,ka,kc,at_,R⟩:=Zm hN hat;obtain rfl:=R.base;have hin:(i:Int)<(n:Int):=by omega
 have HN:=Qa hN;have c0:=R.c0;have c1:w.cell? ⟨lb,lo+i*5+1,none⟩=some (.slice ka 3 kc):=R.c1;have c2:=R.c2;have c3:=R.c3;have c4:=R.c4;have Zq:=Qa hx;clear hx;have J5:=Qa hy;clear hy;have Ul:=Qa hz;clear hz;obtain ⟨kb,ko,rfl,hkb,hkc⟩:=R.rows (show 0<3 by decide);have ex:w.cell? ⟨kb,ko,none⟩=some (.int .i64 j):=hkc 0 (by simp);have ey:w.cell? ⟨kb,ko+1,none⟩=some (.int .i64 k):=hkc 1 (by simp);have ez:w.cell? ⟨kb,ko+2,none⟩=some (.int .i64 m):=hkc 2 (by simp);clear hkc;obtain ⟨SB,hsb⟩:=Qb (⟨s.toArray⟩:ByteArray);have Wq:Hid (SB.data.toList=s):=by show _=_;rw [hsb]
 have hsz:SB.size<=32:=by rw [hsb,Wj];exact hs
 rw [<-hsb]at c3;clear hsb;obtain ⟨w1,hw1⟩:=Qb (w.alloc (.cells #[.int .i64 17,.slice (some ⟨kb,ko,none⟩) 3 kc,.int .i64 0,.string SB,.int .i64 at_] 25));have Qp:Hid (Below w.heap.size w w1):=by rw [hw1];exact Qn
 have HH:Hid (Held w1 w.heap.size 25 #[.int .i64 17,.slice (some ⟨kb,ko,none⟩) 3 kc,.int .i64 0,.string SB,.int .i64 at_]):=by rw [hw1];exact Held.new w _ _
 clear hN H R hat hn;go_enter func43,ntmps43;go_wp2_with fail;rw [<-hw1];clear hw1 c0 c1 c2 c3 c4;have gx:=cell_regrown ((Qp.out.cell (p:=_) hkb).trans ex);have gy:=cell_regrown ((Qp.out.cell (p:=_) hkb).trans ey);have gz:=cell_regrown ((Qp.out.cell (p:=_) hkb).trans ez);have g3:=cell_regrown (HH.out.at_ (j:=3) (v:=.string SB) rfl);obtain ⟨Bx,hBx⟩:=Qb (⟨(x.txt).toArray⟩:ByteArray);have Zo:Hid (Bx.data.toList=x.txt):=by show _=_;rw [hBx]
 have hbx:Bx.size<=10000000:=by rw [hBx,Wj];exact Xw hzx (by decide)
 have Xy: ∀d' os,Calls prog 10 #[.slice (some ⟨lb,lo,none⟩) n c,.int .i64 j] (Sort.grow (redrawn w1 d') os) λe w''=>e= .returned (.string Bx)/\ ∃q:Regrown,w''=Sort.grow (redrawn w1 q.d) q.os:=λd' os=>Calls.regrown_of (by rw [hBx];exact Zq.out _ (HN.out.below (Qp.out.trans ((below_regrown w1 d' os).mono Qp.out.size))));obtain ⟨By,Y1⟩:=Qb (⟨(y.txt).toArray⟩:ByteArray);have Kq:Hid (By.data.toList=y.txt):=by show _=_;rw [Y1]
 have hby:By.size<=10000000:=by rw [Y1,Wj];exact Xw hzy (by decide)
 have Ka: ∀d' os,Calls prog 10 #[.slice (some ⟨lb,lo,none⟩) n c,.int .i64 k] (Sort.grow (redrawn w1 d') os) λe w''=>e= .returned (.string By)/\ ∃q:Regrown,w''=Sort.grow (redrawn w1 q.d) q.os:=λd' os=>Calls.regrown_of (by rw [Y1];exact J5.out _ (HN.out.below (Qp.out.trans ((below_regrown w1 d' os).mono Qp.out.size))));obtain ⟨Bz,Ch⟩:=Qb (⟨(Ww z d).toArray⟩:ByteArray);have Sg:Hid (Bz.data.toList=Ww z d):=by show _=_;rw [Ch]
 have hbz:Bz.size<=10000000:=by rw [Ch,Wj];exact hzz
 have czR: ∀d' os,Calls prog 24 #[.slice (some ⟨lb,lo,none⟩) n c,.int .i64 m,.int .i64 (d:Int)] (Sort.grow (redrawn w1 d') os) λe w''=>e= .returned (.string Bz)/\ ∃q:Regrown,w''=Sort.grow (redrawn w1 q.d) q.os:=λd' os=>Calls.regrown_of (by rw [Ch];exact Ul.out _ (HN.out.below (Qp.out.trans ((below_regrown w1 d' os).mono Qp.out.size))));have Dh: ¬(9223372036854775807<4+SB.size):=by omega
 have Dx: ¬(9223372036854775807<4+SB.size+3):=by omega
 have Gy: ¬(9223372036854775807<4+SB.size+3+Bx.size):=by omega
 have Uh: ¬(9223372036854775807<4+SB.size+3+Bx.size+2):=by omega
 have Qdn: ¬(9223372036854775807<4+SB.size+3+Bx.size+2+By.size):=by omega
 have Qsk: ¬(9223372036854775807<4+SB.size+3+Bx.size+2+By.size+1):=by omega
 have Qsn: ¬(9223372036854775807<4+SB.size+3+Bx.size+2+By.size+1+Bz.size):=by omega
 clear ex hBx ey Y1 ez Ch;refine wp_region_quiet_below (by kernel_rfl) (by kernel_rfl) ?_
 repeat (any_goals (first |go_big_quiet_step (first |(with_reducible exact Xy _ _) |(with_reducible exact Ka _ _) |(with_reducible exact czR _ _)) |quiet_step (first |(with_reducible exact Xy _ _) |(with_reducible exact Ka _ _) |(with_reducible exact czR _ _))))
 refine wpQuiet_nil ?_;intro _ hw';obtain ⟨⟨dq,osq⟩,hw''⟩:=hw';obtain ⟨w2,hw2⟩:=Qb (Sort.grow (redrawn w1 dq) osq);have Qv:Hid (Below w.heap.size w w2):=by rw [hw2];exact Qp.out.trans ((below_regrown w1 dq osq).mono Qp.out.size)
 rw [hw'',<-hw2];clear hw2 hw'';go_wp2_with fail;go_ret;refine ⟨Z8 ?_,Qv.out⟩;simp [Wq.out,Zo.out,Kq.out,Sg.out,St.txt,V8,eqs,Ww]
theorem Qn2 (a:Option Addr) (c n:Nat) (l:List Nd) (hn:n=l.length) (H:Qo l) (i:Nat) (hi:i<l.length) (d:Nat) (j:Int) (x:Ex) (k:Int) (y:List St) (hat:Qg l i 15 0 [] [j,k]) (hzx:x.txt.length<=48000) (hx: ∀w',Nodes w' a l->RE a c n j x w') (hzy:(Ww y d).length<=10000000) (hy: ∀w',Nodes w' a l->RB a c n k y d w') (w:World) (hN:Nodes w a l):RS a c n (i:Int) (.if_ x y) d w:=by
 unfold RS;obtain ⟨lb,lo,ka,kc,at_,R⟩:=Zm hN hat;obtain rfl:=R.base;have hin:(i:Int)<(n:Int):=by omega
 have HN:=Qa hN;have c0:=R.c0;have c1:w.cell? ⟨lb,lo+i*5+1,none⟩=some (.slice ka 2 kc):=R.c1;have c2:=R.c2;have c3:=R.c3;have c4:=R.c4;have Zq:=Qa hx;clear hx;have J5:=Qa hy;clear hy;obtain ⟨kb,ko,rfl,hkb,hkc⟩:=R.rows (show 0<2 by decide);have ex:w.cell? ⟨kb,ko,none⟩=some (.int .i64 j):=hkc 0 (by simp);have ey:w.cell? ⟨kb,ko+1,none⟩=some (.int .i64 k):=hkc 1 (by simp);clear hkc;obtain ⟨w1,hw1⟩:=Qb (w.alloc (.cells #[.int .i64 15,.slice (some ⟨kb,ko,none⟩) 2 kc,.int .i64 0,.string ⟨#[]⟩,.int .i64 at_] 25));have Qp:Hid (Below w.heap.size w w1):=by rw [hw1];exact Qn
 have HH:Hid (Held w1 w.heap.size 25 #[.int .i64 15,.slice (some ⟨kb,ko,none⟩) 2 kc,.int .i64 0,.string ⟨#[]⟩,.int .i64 at_]):=by rw [hw1];exact Held.new w _ _
 clear hN H R hat hn;go_enter func43,ntmps43;go_wp2_with fail;rw [<-hw1];clear hw1 c0 c1 c2 c3 c4;have gx:=cell_regrown ((Qp.out.cell (p:=_) hkb).trans ex);have gy:=cell_regrown ((Qp.out.cell (p:=_) hkb).trans ey);obtain ⟨Bx,hBx⟩:=Qb (⟨(x.txt).toArray⟩:ByteArray);have Zo:Hid (Bx.data.toList=x.txt):=by show _=_;rw [hBx]
 have hbx:Bx.size<=10000000:=by rw [hBx,Wj];exact Xw hzx (by decide)
 have Xy: ∀d' os,Calls prog 10 #[.slice (some ⟨lb,lo,none⟩) n c,.int .i64 j] (Sort.grow (redrawn w1 d') os) λe w''=>e= .returned (.string Bx)/\ ∃q:Regrown,w''=Sort.grow (redrawn w1 q.d) q.os:=λd' os=>Calls.regrown_of (by rw [hBx];exact Zq.out _ (HN.out.below (Qp.out.trans ((below_regrown w1 d' os).mono Qp.out.size))));obtain ⟨By,Y1⟩:=Qb (⟨(Ww y d).toArray⟩:ByteArray);have Kq:Hid (By.data.toList=Ww y d):=by show _=_;rw [Y1]
 have hby:By.size<=10000000:=by rw [Y1,Wj];exact hzy
 have Ka: ∀d' os,Calls prog 24 #[.slice (some ⟨lb,lo,none⟩) n c,.int .i64 k,.int .i64 (d:Int)] (Sort.grow (redrawn w1 d') os) λe w''=>e= .returned (.string By)/\ ∃q:Regrown,w''=Sort.grow (redrawn w1 q.d) q.os:=λd' os=>Calls.regrown_of (by rw [Y1];exact J5.out _ (HN.out.below (Qp.out.trans ((below_regrown w1 d' os).mono Qp.out.size))));have Dh: ¬(9223372036854775807<3+Bx.size):=by omega
 have Dx: ¬(9223372036854775807<3+Bx.size+1):=by omega
 have Gy: ¬(9223372036854775807<3+Bx.size+1+By.size):=by omega
 clear ex hBx ey Y1;refine wp_region_quiet_below (by kernel_rfl) (by kernel_rfl) ?_
 repeat (any_goals (first |go_big_quiet_step (first |(with_reducible exact Xy _ _) |(with_reducible exact Ka _ _)) |quiet_step (first |(with_reducible exact Xy _ _) |(with_reducible exact Ka _ _))))
 refine wpQuiet_nil ?_;intro _ hw';obtain ⟨⟨dq,osq⟩,hw''⟩:=hw';obtain ⟨w2,hw2⟩:=Qb (Sort.grow (redrawn w1 dq) osq);have Qv:Hid (Below w.heap.size w w2):=by rw [hw2];exact Qp.out.trans ((below_regrown w1 dq osq).mono Qp.out.size)
 rw [hw'',<-hw2];clear hw2 hw'';go_wp2_with fail;go_ret;refine ⟨Z8 ?_,Qv.out⟩;simp [Zo.out,Kq.out,St.txt,X8,Ww]
theorem Qh3 (a:Option Addr) (c n:Nat) (l:List Nd) (hn:n=l.length) (H:Qo l) (i:Nat) (hi:i<l.length) (d:Nat) (j:Int) (x:Ex) (k:Int) (y:List St) (m:Int) (z:List St) (hat:Qg l i 15 0 [] [j,k,m]) (hzx:x.txt.length<=48000) (hx: ∀w',Nodes w' a l->RE a c n j x w') (hzy:(Ww y d).length<=10000000) (hy: ∀w',Nodes w' a l->RB a c n k y d w') (hzz:(Ww z d).length<=10000000) (hz: ∀w',Nodes w' a l->RB a c n m z d w') (w:World) (hN:Nodes w a l):RS a c n (i:Int) (.Kt x y z) d w:=by
 unfold RS;obtain ⟨lb,lo,ka,kc,at_,R⟩:=Zm hN hat;obtain rfl:=R.base;have hin:(i:Int)<(n:Int):=by omega
 have HN:=Qa hN;have c0:=R.c0;have c1:w.cell? ⟨lb,lo+i*5+1,none⟩=some (.slice ka 3 kc):=R.c1;have c2:=R.c2;have c3:=R.c3;have c4:=R.c4;have Zq:=Qa hx;clear hx;have J5:=Qa hy;clear hy;have Ul:=Qa hz;clear hz;obtain ⟨kb,ko,rfl,hkb,hkc⟩:=R.rows (show 0<3 by decide);have ex:w.cell? ⟨kb,ko,none⟩=some (.int .i64 j):=hkc 0 (by simp);have ey:w.cell? ⟨kb,ko+1,none⟩=some (.int .i64 k):=hkc 1 (by simp);have ez:w.cell? ⟨kb,ko+2,none⟩=some (.int .i64 m):=hkc 2 (by simp);clear hkc;obtain ⟨w1,hw1⟩:=Qb (w.alloc (.cells #[.int .i64 15,.slice (some ⟨kb,ko,none⟩) 3 kc,.int .i64 0,.string ⟨#[]⟩,.int .i64 at_] 25));have Qp:Hid (Below w.heap.size w w1):=by rw [hw1];exact Qn
 have HH:Hid (Held w1 w.heap.size 25 #[.int .i64 15,.slice (some ⟨kb,ko,none⟩) 3 kc,.int .i64 0,.string ⟨#[]⟩,.int .i64 at_]):=by rw [hw1];exact Held.new w _ _
 clear hN H R hat hn;go_enter func43,ntmps43;go_wp2_with fail;rw [<-hw1];clear hw1 c0 c1 c2 c3 c4;have gx:=cell_regrown ((Qp.out.cell (p:=_) hkb).trans ex);have gy:=cell_regrown ((Qp.out.cell (p:=_) hkb).trans ey);obtain ⟨Bx,hBx⟩:=Qb (⟨(x.txt).toArray⟩:ByteArray);have Zo:Hid (Bx.data.toList=x.txt):=by show _=_;rw [hBx]
 have hbx:Bx.size<=10000000:=by rw [hBx,Wj];exact Xw hzx (by decide)
 obtain ⟨By,Y1⟩:=Qb (⟨(Ww y d).toArray⟩:ByteArray);have Kq:Hid (By.data.toList=Ww y d):=by show _=_;rw [Y1]
 have hby:By.size<=10000000:=by rw [Y1,Wj];exact hzy
 obtain ⟨Bz,Ch⟩:=Qb (⟨(Ww z d).toArray⟩:ByteArray);have Sg:Hid (Bz.data.toList=Ww z d):=by show _=_;rw [Ch]
 have hbz:Bz.size<=10000000:=by rw [Ch,Wj];exact hzz
 have Xy: ∀d' os,Calls prog 10 #[.slice (some ⟨lb,lo,none⟩) n c,.int .i64 j] (Sort.grow (redrawn w1 d') os) λe w''=>e= .returned (.string Bx)/\ ∃q:Regrown,w''=Sort.grow (redrawn w1 q.d) q.os:=λd' os=>Calls.regrown_of (by rw [hBx];exact Zq.out _ (HN.out.below (Qp.out.trans ((below_regrown w1 d' os).mono Qp.out.size))));have Ka: ∀d' os,Calls prog 24 #[.slice (some ⟨lb,lo,none⟩) n c,.int .i64 k,.int .i64 (d:Int)] (Sort.grow (redrawn w1 d') os) λe w''=>e= .returned (.string By)/\ ∃q:Regrown,w''=Sort.grow (redrawn w1 q.d) q.os:=λd' os=>Calls.regrown_of (by rw [Y1];exact J5.out _ (HN.out.below (Qp.out.trans ((below_regrown w1 d' os).mono Qp.out.size))));have Dh: ¬(9223372036854775807<3+Bx.size):=by omega
 have Dx: ¬(9223372036854775807<3+Bx.size+1):=by omega
 have Gy: ¬(9223372036854775807<3+Bx.size+1+By.size):=by omega
 have Uh: ¬(9223372036854775807<3+Bx.size+1+By.size+6):=by omega
 have Qdn: ¬(9223372036854775807<3+Bx.size+1+By.size+6+Bz.size):=by omega
 have HEZ:=Qa ez;clear ex ey ez hBx Y1;refine wp_region_quiet_below (by kernel_rfl) (by kernel_rfl) ?_
 repeat (any_goals (first |go_big_quiet_step (first |(with_reducible exact Xy _ _) |(with_reducible exact Ka _ _)) |quiet_step (first |(with_reducible exact Xy _ _) |(with_reducible exact Ka _ _))))
 refine wpQuiet_nil ?_;intro _ hw';obtain ⟨⟨dq,osq⟩,hw''⟩:=hw';obtain ⟨w2,hw2⟩:=Qb (Sort.grow (redrawn w1 dq) osq);have Qv:Hid (Below w.heap.size w w2):=by rw [hw2];exact Qp.out.trans ((below_regrown w1 dq osq).mono Qp.out.size)
 rw [hw'',<-hw2];clear hw2 hw'';have ez:=(Qv.out.cell (p:=_) hkb).trans HEZ.out;have HCz:Hid (Calls prog 24 #[.slice (some ⟨lb,lo,none⟩) n c,.int .i64 m,.int .i64 (d:Int)] w2 λe w'=>e= .returned (.string Bz)/\Below w2.heap.size w2 w'):=by rw [Ch];exact Ul.out _ (HN.out.below Qv.out)
 clear Ch;go_wp2_with fail;refine HCz.out.mono ?_;rintro e w3 ⟨rfl,hb3⟩;have HB3:Hid (Below w.heap.size w w3):=Qv.out.trans (hb3.mono Qv.out.size);clear hb3;go_wp2_with fail;go_ret;refine ⟨Z8 ?_,HB3.out⟩;simp [Zo.out,Kq.out,Sg.out,St.txt,X8,Jc,Ww]
end
end Go.Proofs.YtdncpkkhkbijfaaDoor
