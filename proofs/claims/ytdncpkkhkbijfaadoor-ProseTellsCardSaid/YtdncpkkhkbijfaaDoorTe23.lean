import Derived.Test.YtdncpkkhkbijfaaDoorTe13
open Go.Proofs.Tryd
set_option linter.all false
set_option maxHeartbeats 0
set_option maxRecDepth 100000
namespace Go.Proofs.YtdncpkkhkbijfaaDoor
section
open Go.RowKit
theorem X6 (K n:Int) (ka:Option Addr) (m kc:Nat) (s:ByteArray) (at_:Int) (w:World):
  Calls prog 12 #[.agg #[.int .i64 K,.slice ka m kc,.int .i64 n,.string s,.int .i64 at_]] w λe w'=>e= .returned (.int .i64 ((Yf K n:Nat):Int))/\Below w.heap.size w w':=by
 have HB1:Hid (Below w.heap.size w (w.alloc (.cells #[.int .i64 K,.slice ka m kc,.int .i64 n,.string s,.int .i64 at_] 25))):=Qn;by_cases h5:K=5
 ·subst h5;by_cases hlo:n<0
  ·have HS:Hid (Yf 5 n=0):=(by show _=_;unfold Yf;rw [Wy rfl,Wy (Or.inl hlo)]);rw [HS.out];go_enter func12,ntmps12;go_wp2_with fail;go_ret;exact ⟨rfl,HB1.out.alloc (Xw (Yc _) HB1.out.size) _⟩
  ·by_cases hhi:16<n
   ·have HS:Hid (Yf 5 n=0):=(by show _=_;unfold Yf;rw [Wy rfl,Wy (Or.inr hhi)]);rw [HS.out];have Qs8:0<=n:=(by omega);go_enter func12,ntmps12;go_wp2_with fail;go_ret;exact ⟨rfl,HB1.out.alloc (Xw (Yc _) HB1.out.size) _⟩
   ·obtain ⟨k,rfl⟩: ∃k:Nat,n=(k:Int):=⟨n.toNat,by omega⟩;have hk:k<17:=(by omega);have HS:Hid (Yf 5 (k:Int)=stOp k):=(by show _=_;unfold Yf;rw [Wy rfl,Q6 (by omega),Jo]);rw [HS.out];have HB2: ∀o,Hid (Below w.heap.size w ((w.alloc (.cells #[.int .i64 5,.slice ka m kc,.int .i64 (k:Int),.string s,.int .i64 at_] 25)).alloc o)):=λo=>HB1.out.alloc HB1.out.size _
    match k,hk with
    | 0,_ | 1,_ | 2,_ | 3,_ | 4,_ | 5,_ | 6,_ | 7,_ | 8,_ | 9,_ | 10,_ | 11,_ | 12,_ | 13,_ | 14,_ | 15,_ | 16,_=>
     go_enter func12,ntmps12;go_wp2_with fail;go_ret;exact ⟨rfl,(HB2 _).out⟩
    |j+17,h=>omega
 ·by_cases h6:K=6
  ·subst h6;go_enter func12,ntmps12;go_wp2_with fail;go_ret;exact ⟨rfl,HB1.out⟩
  ·by_cases h7:K=7
   ·subst h7;go_enter func12,ntmps12;go_wp2_with fail;go_ret;exact ⟨rfl,HB1.out⟩
   ·have HS:Hid (Yf K n=if Qt K then 7 else 0):=(by show _=_;unfold Yf;rw [Q6 h5,Q6 (by omega)]);rw [HS.out];have e6:(K==6)=false:=beq_eq_false_iff_ne.2 h6;have e7:(K==7)=false:=beq_eq_false_iff_ne.2 h7;go_enter func12,ntmps12;go_wp2_with fail;refine (Qae K _).mono ?_;rintro e w1 ⟨rfl,hw1⟩;rw [hw1];clear hw1 w1;go_wp2_with fail
    all_goals go_ret
    all_goals (refine ⟨?_,HB1.out⟩;simp_all)
theorem Qp5 {X:ByteArray} {b:List UInt8} (h:X.data.toList=b):X=⟨b.toArray⟩:=by apply ByteArray.ext;rw [<-h,Array.toArray_toList]
theorem Z8 {X:ByteArray} {b:List UInt8} (h:X.data.toList=b):Ending.returned (Value.string X)= .returned (.string ⟨b.toArray⟩):=by rw [Qp5 h]
structure RAt (w:World) (a:Option Addr) (i:Nat) (K n:Int) (s:List UInt8) (ks:List Int) (lb lo:Nat) (ka:Option Addr) (kc:Nat) (at_:Int):Prop where
 base:a=some ⟨lb,lo,none⟩
 lt:lb<w.heap.size
 c0:w.cell? ⟨lb,lo+i*5,none⟩=some (.int .i64 K)
 c1:w.cell? ⟨lb,lo+i*5+1,none⟩=some (.slice ka ks.length kc)
 c2:w.cell? ⟨lb,lo+i*5+2,none⟩=some (.int .i64 n)
 c3:w.cell? ⟨lb,lo+i*5+3,none⟩=some (.string ⟨s.toArray⟩)
 c4:w.cell? ⟨lb,lo+i*5+4,none⟩=some (.int .i64 at_)
 rows:Wo .i64 w ka ks.length (λj=>ks.getD j 0)
 cap:ks.length<=kc
theorem Zm {l:List Nd} {w:World} {a:Option Addr} (hN:Nodes w a l) {i:Nat} {K n:Int} {s:List UInt8} {ks:List Int} (h:Qg l i K n s ks): ∃lb lo ka kc at_,RAt w a i K n s ks lb lo ka kc at_:=by obtain ⟨nb,no,ha,hnb,hc⟩:=hN.at_ h.hi;have hok:=hN.2 i h.hi;obtain ⟨d0,d1,d2,d3,d4⟩:=hc;rw [h.k]at d0;rw [h.ks]at d1;rw [h.n]at d2;rw [Uj,h.t]at d3;exact ⟨nb,no,(nd l i).ka,(nd l i).kc,(nd l i).at_,ha,hnb,d0,d1,d2,d3,d4,by rw [<-h.ks];exact hok.rows,by rw [<-h.ks];exact hok.cap⟩
theorem XE.short {l:List Nd} {k:Int} {x:Ex} (h:XE l k x) (hT:Y5 l) (hk:k.toNat<l.length) (hll:l.length<=1000):x.txt.length<=48000:=by have h1:=Xi x h.fin;have h2:=h.z;have h3:=Nw hT hk;omega
structure RK (w:World) (l:List Nd) (k:Int) (x:Ex) (lb lo q:Nat) (y:Nd):Prop where
 k:k=(q:Int)
 lt:q<l.length
 blk:lb<w.heap.size
 cells:D5 w lb (lo+q*5) y
 st:Yf y.kind y.n=x.st
 short:x.txt.length<=48000
theorem Fz {l:List Nd} {w:World} {a:Option Addr} (hN:Nodes w a l) (H:Qo l) (hT:Y5 l) (hll:l.length<=1000) {lb lo:Nat} (ha:a=some ⟨lb,lo,none⟩) {i:Nat} (hi:i<l.length) {k:Int} (hk:k∈(nd l i).kids) {x:Ex} (he:Qt (Qz l k)=true) (hx:XE l k x): ∃q y,RK w l k x lb lo q y:=by
 have h1:=H.kid hi hk;obtain ⟨q,rfl⟩: ∃q:Nat,k=(q:Int):=⟨k.toNat,by omega⟩;have hq:q<l.length:=by omega
 obtain ⟨nb,no,ha2,hnb,hc⟩:=hN.at_ hq;rw [ha]at ha2;injection ha2 with ha2
 injection ha2 with e1 e2
 subst e1 e2;exact ⟨q,nd l q,rfl,hq,hnb,hc,H.st hq he hx,hx.short hT hq hll⟩
theorem Qoc (i:Nat):tabs (i+1)=tabs i++[9]:=List.replicate_succ'
theorem Qfe (d:Nat) (w:World) (hd:d<=100000):Calls prog 42 #[.int .i64 (d:Int)] w λe w'=>e= .returned (.string ⟨(tabs d).toArray⟩)/\w'=w:=by
 go_enter func42,ntmps42;go_wp2_with fail;go_loop [3,4] (λt3 t4=> ∃(i:Nat) (T:ByteArray),i<=d/\t4= .int .i64 (i:Int)/\t3= .string T/\T.size=i/\Hid (T.data.toList=tabs i)) (λ_ t4=>d-(intOf t4).toNat)
 case atStart=>exact ⟨0,_,by omega,rfl,rfl,rfl,rfl⟩
 case round=>
  obtain ⟨i,T,hi,rfl,rfl,hz,HT⟩:=hrel;by_cases hid:i<d
  ·have Qsx:(i:Int)<(d:Int):=(by omega);have hz1: ¬(9223372036854775807<T.size+1):=(by omega);go_wp2_with fail;go_round
   case rel=>exact ⟨i+1,_,by omega,by go_num,rfl,by rw [ByteArray.size_append,hz];rfl,by show _=_;rw [Qoc,<-HT.out];simp⟩
   case measure=>simp [intOf];omega
  ·obtain rfl:i=d:=(by omega);go_wp2_with fail;go_ret;exact ⟨Z8 HT.out,rfl⟩
theorem F4 {a:Option Addr} {c n:Nat} {k:Int} {x:List UInt8} {w:World} (hx:x.length<=48000)
  (h:Calls prog 10 #[.slice a n c,.int .i64 k] w λe w'=>e= .returned (.string ⟨x.toArray⟩)/\Below w.heap.size w w') (b:Bool):
  Calls prog 26 #[.slice a n c,.int .i64 k,.bool b] w λe w'=>e= .returned (.string ⟨(Zb b x).toArray⟩)/\Below w.heap.size w w':=by
 obtain ⟨S,hS⟩:=Qb (⟨x.toArray⟩:ByteArray);have El:Hid (S.data.toList=x):=by show _=_;rw [hS]
 have hz:S.size<=48000:=by rw [hS,Wj];exact hx
 rw [<-hS]at h;have H:=Qa h;have hz1: ¬(9223372036854775807<1+S.size):=by omega
 have hz2: ¬(9223372036854775807<1+S.size+1):=by omega
 clear h hS hx;go_enter func26,ntmps26;cases b with
 |true=>
  go_wp2_with fail;refine H.out.mono ?_;rintro e w1 ⟨rfl,hb⟩;have HB:=Qa hb;clear hb;go_wp2_with fail;go_ret;exact ⟨Z8 (by show _=_;simp [El.out,Zb]),HB.out⟩
 |false=>
  go_wp2_with fail;refine H.out.mono ?_;rintro e w1 ⟨rfl,hb⟩;have HB:=Qa hb;clear hb;go_wp2_with fail;go_ret;exact ⟨Z8 El.out,HB.out⟩
theorem U8 {a ka:Option Addr} {c n kc m:Nat} {ks:List Int} {xs:List Ex} {w:World} (hm:m=ks.length) (hx:xs.length=m) (hml:m<=1000) (hr:Wo .i64 w ka m (λj=>ks.getD j 0)) (hs:(Q8 true xs).length<=100000000)
  (h: ∀w',Below w.heap.size w w'-> ∀j,j<m->Calls prog 10 #[.slice a n c,.int .i64 (ks.getD j 0)] w' λe w2=>e= .returned (.string ⟨(xs.getD j .nil).txt.toArray⟩)/\Below w'.heap.size w' w2):
  Calls prog 28 #[.slice a n c,.slice ka m kc] w λe w'=>e= .returned (.string ⟨(40::(Q8 true xs++[41])).toArray⟩)/\Below w.heap.size w w':=by
 have HR:=Qa hr;have HX:=Qa hx;have HS:=Qa hs;have H:=Qa h;clear hm hx hr hs h;go_enter func28,ntmps28;go_wp2_with fail;go_loopw [5,6] (λt5 t6 wr=> ∃(j:Nat) (T:ByteArray),j<=m/\t6= .int .i64 (j:Int)/\t5= .string T/\T.size<=100000001/\Hid (T.data.toList=40::Q8 true (xs.take j))/\Hid (Below w.heap.size w wr)) (λ_ t6 _=>m-(intOf t6).toNat)
 case atStart=>exact ⟨0,_,by omega,rfl,rfl,by decide,by show _=_;rw [List.take_zero];rfl,Below.refl _ _⟩
 case round=>
  obtain ⟨j,T,hj,rfl,rfl,hz,HT,HB⟩:=hrel;by_cases hjm:j<m
  ·have Bp:(j:Int)<(m:Int):=(by omega);obtain ⟨kb,ko,rfl,hkb,hkc⟩:=HR.out (by omega);have ck:=(HB.out.cell (p:=⟨kb,ko+j,none⟩) hkb).trans (hkc j hjm);simp only at ck;have HC:=Qa (H.out wr HB.out j hjm);have W9:=Qa (Om (xs:=xs) (j:=j) (by rw [HX.out];exact hjm));have Yw:=Qa (Iu true xs (j+1));obtain ⟨k,hk⟩:=Qb (ks.getD j 0);rw [<-hk]at ck HC;obtain ⟨S,hS⟩:=Qb (⟨(xs.getD j .nil).txt.toArray⟩:ByteArray);have El:Hid (S.data.toList=(xs.getD j .nil).txt):=(by show _=_;rw [hS]);rw [<-hS]at HC;have hsz:T.size+2+S.size<=100000003:=by have h1:=Yw.out;have h2:=HS.out;rw [W9.out]at h1;simp only [Qd]at h1;have h3:S.size=((xs.getD j .nil).txt).length:=(by rw [hS];rfl);have h4:T.size=(40::Q8 true (xs.take j)).length:=(by rw [<-HT.out,Kw]);simp only [Qf]at h4;omega
   clear hk hS hkc;have hz1: ¬(9223372036854775807<T.size+2):=(by omega);have hz2: ¬(9223372036854775807<T.size+2+S.size):=(by omega);have hz3: ¬(9223372036854775807<T.size+S.size):=(by omega);rcases Nat.eq_zero_or_pos j with h0 |h0
   ·subst h0;simp only [Nat.add_zero]at ck;go_wp2_with fail;refine HC.out.mono ?_;rintro e w1 ⟨rfl,hb1⟩;have HB1:Hid (Below w.heap.size w w1):=HB.out.trans (hb1.mono HB.out.size);clear hb1;go_wp2_with fail;go_roundw
    case rel=>
     have h5:(T++S).data.toList=40::Q8 true (xs.take (0+1)):=(by rw [W9.out];simp [HT.out,El.out,Zd]);refine ⟨1,_,by omega,by go_num,rfl,?_,h5,HB1⟩;have h1:=Yw.out;have h2:=HS.out;rw [<-Kw,h5,Qf];omega
    case measure=>simp [intOf];omega
   ·have h0i:(0:Int)<(j:Int):=(by omega);go_wp2_with fail;refine HC.out.mono ?_;rintro e w1 ⟨rfl,hb1⟩;have HB1:Hid (Below w.heap.size w w1):=HB.out.trans (hb1.mono HB.out.size);clear hb1;go_wp2_with fail;go_roundw
    case rel=>
     have h5:(T++(⟨#[44,32]⟩:ByteArray)++S).data.toList=40::Q8 true (xs.take (j+1)):=by rw [W9.out];have h6:Zd true j=[44,32]:=(by unfold Zd;rw [Q6 (by omega)]);simp [HT.out,El.out,h6]
     refine ⟨j+1,_,by omega,by go_num,rfl,?_,h5,HB1⟩;have h1:=Yw.out;have h2:=HS.out;rw [<-Kw,h5,Qf];omega
    case measure=>simp [intOf];omega
  ·obtain rfl:j=m:=(by omega);have hz1: ¬(9223372036854775807<T.size+1):=(by omega);go_wp2_with fail;go_ret;refine ⟨Z8 ?_,HB.out⟩;have h1:xs.take j=xs:=Ac (by rw [HX.out];exact Yc _);have h2:=HT.out;rw [h1]at h2;simp [h2]
theorem Qje (a:Option Addr) (c n:Nat) (l:List Nd) (hn:n=l.length) (hll:n<=1000) (H:Qo l) (hT:Y5 l) (i:Nat) (hi:i<l.length) (k:Int) (x:Ex) (hat:Qg l i 6 0 [] [k]) (hex:Qt (Qz l k)=true) (Cn:XE l k x) (w:World) (hN:Nodes w a l) (hx: ∀w',Nodes w' a l->Calls prog 10 #[.slice a n c,.int .i64 k] w' λe w2=>e= .returned (.string ⟨x.txt.toArray⟩)/\Below w'.heap.size w' w2):
  Calls prog 10 #[.slice a n c,.int .i64 (i:Int)] w λe w'=>e= .returned (.string ⟨(Ex.neg x).txt.toArray⟩)/\Below w.heap.size w w':=by
 obtain ⟨lb,lo,ka,kc,at_,R⟩:=Zm hN hat;obtain ⟨q,yx,Kx⟩:=Fz hN H hT (by rw [<-hn];exact hll) R.base hi (k:=k) (by rw [hat.ks];simp) hex Cn;obtain rfl:=Kx.k;have D9:(q:Int)<(n:Int):=by have:=Kx.lt;omega
 obtain rfl:=R.base;have hin:(i:Int)<(n:Int):=by omega
 have HN:=Qa hN;have HT:=Qa H;have Az:=Qa Kx;have Zq:=Qa hx;clear hx;have c0:=R.c0;have c1:w.cell? ⟨lb,lo+i*5+1,none⟩=some (.slice ka 1 kc):=R.c1;have c2:=R.c2;have c3:=R.c3;have c4:=R.c4;obtain ⟨kb,ko,rfl,hkb,hkc⟩:=R.rows (show 0<1 by decide);have ex:w.cell? ⟨kb,ko,none⟩=some (.int .i64 (q:Int)):=hkc 0 (by simp);obtain ⟨w1,hw1⟩:=Qb (w.alloc (.cells #[.int .i64 6,.slice (some ⟨kb,ko,none⟩) 1 kc,.int .i64 0,.string ⟨#[]⟩,.int .i64 at_] 25));have Qp:Hid (Below w.heap.size w w1):=by rw [hw1];exact Qn
 have HH:Hid (Held w1 w.heap.size 25 #[.int .i64 6,.slice (some ⟨kb,ko,none⟩) 1 kc,.int .i64 0,.string ⟨#[]⟩,.int .i64 at_]):=by rw [hw1];exact Held.new w _ _
 clear hN H hkc R hat hn;go_enter func10,ntmps10;go_wp2_with fail;rw [<-hw1];clear hw1 c0 c1 c2 c3 c4;refine (X6 6 0 (some ⟨kb,ko,none⟩) 1 kc ⟨#[]⟩ at_ w1).mono ?_;rintro e w2 ⟨rfl,hb2⟩;have Qv:Hid (Below w.heap.size w w2):=Qp.out.trans (hb2.mono Qp.out.size);have Qh:=Qa (HH.out.since hb2);have d0:=Qh.out.at_ (j:=0) (v:=.int .i64 6) rfl;have d2:=Qh.out.at_ (j:=2) (v:=.int .i64 0) rfl;have d3:=Qh.out.at_ (j:=3) (v:=.string ⟨#[]⟩) rfl;clear hb2;obtain ⟨Jh,Jp,Jg,Ji,Jv⟩:=Kx.cells.below Qv.out Kx.blk;have X9:=Qa Kx.st;obtain ⟨kx,ekx⟩:=Qb yx.kind;obtain ⟨nx,Bf⟩:=Qb yx.n;obtain ⟨mx,Av⟩:=Qb yx.kids.length;obtain ⟨ax,Am⟩:=Qb yx.ka;obtain ⟨cx,Bg⟩:=Qb yx.kc;obtain ⟨sx,Bj⟩:=Qb yx.s;obtain ⟨px,Al⟩:=Qb yx.at_;rw [<-ekx]at Jh X9;rw [<-Am,<-Av,<-Bg]at Jp;rw [<-Bf]at Jg X9;rw [<-Bj]at Ji;rw [<-Al]at Jv;clear ekx Bf Av Am Bg Bj Al;have Tv:=cell_regrown Jh;have rx1:=cell_regrown Jp;have Pq:=cell_regrown Jg;have Sj:=cell_regrown Ji;have Ug:=cell_regrown Jv;obtain ⟨Sx,Au⟩:=Qb (((x.st:Nat):Int):Int);have Bh:=Qa Au;have Aq: ∀d os,Calls prog 12 #[.agg #[.int .i64 kx,.slice ax mx cx,.int .i64 nx,.string sx,.int .i64 px]] (Sort.grow (redrawn w2 d) os) λe w''=>e= .returned (.int .i64 Sx)/\ ∃q:Regrown,w''=Sort.grow (redrawn w2 q.d) q.os:=λd os=>Calls.regrown_of (by have h:=X6 kx nx ax mx cx sx px (Sort.grow (redrawn w2 d) os);rw [X9.out,<-Bh.out]at h;exact h);have gx:=cell_regrown ((Qv.out.cell (p:=_) hkb).trans ex);obtain ⟨Bx,hBx⟩:=Qb (⟨(Zb (decide (Sx<6)) x.txt).toArray⟩:ByteArray);have Zo:Hid (Bx.data.toList=Zb (decide (Sx<6)) x.txt):=by show _=_;rw [hBx]
 have hzx:Bx.size<=48002:=by rw [hBx,Wj];exact Xw (Bu _ _) (by have:=Az.out.short;omega)
 have Ad: ∀d os,Calls prog 26 #[.slice (some ⟨lb,lo,none⟩) n c,.int .i64 (q:Int),.bool (decide (Sx<6))] (Sort.grow (redrawn w2 d) os) λe w''=>e= .returned (.string Bx)/\ ∃q:Regrown,w''=Sort.grow (redrawn w2 q.d) q.os:=λd os=>Calls.regrown_of (by rw [hBx];exact F4 Az.out.short (Zq.out _ (HN.out.below (Qv.out.trans ((below_regrown w2 d os).mono Qv.out.size)))) _);have Ah:=Qa hBx;have hz1: ¬(9223372036854775807<1+Bx.size):=by omega
 clear ex Jh Jp Jg Ji Jv hBx Au X9;go_wp2_with fail;refine wp_region_quiet_below (by kernel_rfl) (by kernel_rfl) ?_
 repeat (any_goals (first |go_big_quiet_step (first |(with_reducible exact Aq _ _) |(with_reducible exact Ad _ _)) |quiet_step (first |(with_reducible exact Aq _ _) |(with_reducible exact Ad _ _))))
 refine wpQuiet_nil ?_;intro _ hw';obtain ⟨⟨dq,osq⟩,hw''⟩:=hw';obtain ⟨w3,hw3⟩:=Qb (Sort.grow (redrawn w2 dq) osq);have V4:Hid (Below w.heap.size w w3):=by rw [hw3];exact Qv.out.trans ((below_regrown w2 dq osq).mono Qv.out.size)
 rw [hw'',<-hw3];clear hw3 hw'';go_wp2_with fail;go_ret;refine ⟨Z8 ?_,V4.out⟩;have h1:decide (Sx<6)=decide (x.st<=5):=by rw [Bh.out];congr 1;exact propext ⟨λh=>by omega,λh=>by omega⟩
 have h2:=Zo.out;rw [h1]at h2;simp [h2,Ex.txt]
theorem Qna (a:Option Addr) (c n:Nat) (l:List Nd) (hn:n=l.length) (hll:n<=1000) (H:Qo l) (hT:Y5 l) (i:Nat) (hi:i<l.length) (k:Int) (x:Ex) (hat:Qg l i 7 0 [] [k]) (hex:Qt (Qz l k)=true) (Cn:XE l k x) (w:World) (hN:Nodes w a l) (hx: ∀w',Nodes w' a l->Calls prog 10 #[.slice a n c,.int .i64 k] w' λe w2=>e= .returned (.string ⟨x.txt.toArray⟩)/\Below w'.heap.size w' w2):
  Calls prog 10 #[.slice a n c,.int .i64 (i:Int)] w λe w'=>e= .returned (.string ⟨(Ex.not x).txt.toArray⟩)/\Below w.heap.size w w':=by
 obtain ⟨lb,lo,ka,kc,at_,R⟩:=Zm hN hat;obtain ⟨q,yx,Kx⟩:=Fz hN H hT (by rw [<-hn];exact hll) R.base hi (k:=k) (by rw [hat.ks];simp) hex Cn;obtain rfl:=Kx.k;have D9:(q:Int)<(n:Int):=by have:=Kx.lt;omega
 obtain rfl:=R.base;have hin:(i:Int)<(n:Int):=by omega
 have HN:=Qa hN;have HT:=Qa H;have Az:=Qa Kx;have Zq:=Qa hx;clear hx;have c0:=R.c0;have c1:w.cell? ⟨lb,lo+i*5+1,none⟩=some (.slice ka 1 kc):=R.c1;have c2:=R.c2;have c3:=R.c3;have c4:=R.c4;obtain ⟨kb,ko,rfl,hkb,hkc⟩:=R.rows (show 0<1 by decide);have ex:w.cell? ⟨kb,ko,none⟩=some (.int .i64 (q:Int)):=hkc 0 (by simp);obtain ⟨w1,hw1⟩:=Qb (w.alloc (.cells #[.int .i64 7,.slice (some ⟨kb,ko,none⟩) 1 kc,.int .i64 0,.string ⟨#[]⟩,.int .i64 at_] 25));have Qp:Hid (Below w.heap.size w w1):=by rw [hw1];exact Qn
 have HH:Hid (Held w1 w.heap.size 25 #[.int .i64 7,.slice (some ⟨kb,ko,none⟩) 1 kc,.int .i64 0,.string ⟨#[]⟩,.int .i64 at_]):=by rw [hw1];exact Held.new w _ _
 clear hN H hkc R hat hn;go_enter func10,ntmps10;go_wp2_with fail;rw [<-hw1];clear hw1 c0 c1 c2 c3 c4;refine (X6 7 0 (some ⟨kb,ko,none⟩) 1 kc ⟨#[]⟩ at_ w1).mono ?_;rintro e w2 ⟨rfl,hb2⟩;have Qv:Hid (Below w.heap.size w w2):=Qp.out.trans (hb2.mono Qp.out.size);have Qh:=Qa (HH.out.since hb2);have d0:=Qh.out.at_ (j:=0) (v:=.int .i64 7) rfl;have d2:=Qh.out.at_ (j:=2) (v:=.int .i64 0) rfl;have d3:=Qh.out.at_ (j:=3) (v:=.string ⟨#[]⟩) rfl;clear hb2;obtain ⟨Jh,Jp,Jg,Ji,Jv⟩:=Kx.cells.below Qv.out Kx.blk;have X9:=Qa Kx.st;obtain ⟨kx,ekx⟩:=Qb yx.kind;obtain ⟨nx,Bf⟩:=Qb yx.n;obtain ⟨mx,Av⟩:=Qb yx.kids.length;obtain ⟨ax,Am⟩:=Qb yx.ka;obtain ⟨cx,Bg⟩:=Qb yx.kc;obtain ⟨sx,Bj⟩:=Qb yx.s;obtain ⟨px,Al⟩:=Qb yx.at_;rw [<-ekx]at Jh X9;rw [<-Am,<-Av,<-Bg]at Jp;rw [<-Bf]at Jg X9;rw [<-Bj]at Ji;rw [<-Al]at Jv;clear ekx Bf Av Am Bg Bj Al;have Tv:=cell_regrown Jh;have rx1:=cell_regrown Jp;have Pq:=cell_regrown Jg;have Sj:=cell_regrown Ji;have Ug:=cell_regrown Jv;obtain ⟨Sx,Au⟩:=Qb (((x.st:Nat):Int):Int);have Bh:=Qa Au;have Aq: ∀d os,Calls prog 12 #[.agg #[.int .i64 kx,.slice ax mx cx,.int .i64 nx,.string sx,.int .i64 px]] (Sort.grow (redrawn w2 d) os) λe w''=>e= .returned (.int .i64 Sx)/\ ∃q:Regrown,w''=Sort.grow (redrawn w2 q.d) q.os:=λd os=>Calls.regrown_of (by have h:=X6 kx nx ax mx cx sx px (Sort.grow (redrawn w2 d) os);rw [X9.out,<-Bh.out]at h;exact h);have gx:=cell_regrown ((Qv.out.cell (p:=_) hkb).trans ex);obtain ⟨Bx,hBx⟩:=Qb (⟨(Zb (decide (Sx<6)) x.txt).toArray⟩:ByteArray);have Zo:Hid (Bx.data.toList=Zb (decide (Sx<6)) x.txt):=by show _=_;rw [hBx]
 have hzx:Bx.size<=48002:=by rw [hBx,Wj];exact Xw (Bu _ _) (by have:=Az.out.short;omega)
 have Ad: ∀d os,Calls prog 26 #[.slice (some ⟨lb,lo,none⟩) n c,.int .i64 (q:Int),.bool (decide (Sx<6))] (Sort.grow (redrawn w2 d) os) λe w''=>e= .returned (.string Bx)/\ ∃q:Regrown,w''=Sort.grow (redrawn w2 q.d) q.os:=λd os=>Calls.regrown_of (by rw [hBx];exact F4 Az.out.short (Zq.out _ (HN.out.below (Qv.out.trans ((below_regrown w2 d os).mono Qv.out.size)))) _);have Ah:=Qa hBx;have hz1: ¬(9223372036854775807<1+Bx.size):=by omega
 clear ex Jh Jp Jg Ji Jv hBx Au X9;go_wp2_with fail;refine wp_region_quiet_below (by kernel_rfl) (by kernel_rfl) ?_
 repeat (any_goals (first |go_big_quiet_step (first |(with_reducible exact Aq _ _) |(with_reducible exact Ad _ _)) |quiet_step (first |(with_reducible exact Aq _ _) |(with_reducible exact Ad _ _))))
 refine wpQuiet_nil ?_;intro _ hw';obtain ⟨⟨dq,osq⟩,hw''⟩:=hw';obtain ⟨w3,hw3⟩:=Qb (Sort.grow (redrawn w2 dq) osq);have V4:Hid (Below w.heap.size w w3):=by rw [hw3];exact Qv.out.trans ((below_regrown w2 dq osq).mono Qv.out.size)
 rw [hw'',<-hw3];clear hw3 hw'';go_wp2_with fail;go_ret;refine ⟨Z8 ?_,V4.out⟩;have h1:decide (Sx<6)=decide (x.st<=5):=by rw [Bh.out];congr 1;exact propext ⟨λh=>by omega,λh=>by omega⟩
 have h2:=Zo.out;rw [h1]at h2;simp [h2,Ex.txt]
theorem Qie (a:Option Addr) (c n:Nat) (l:List Nd) (hn:n=l.length) (hll:n<=1000) (H:Qo l) (hT:Y5 l) (i:Nat) (hi:i<l.length) (j:Int) (x:Ex) (k:Int) (y:Ex) (hat:Qg l i 8 0 [] [j,k]) (hex:Qt (Qz l j)=true) (Cn:XE l j x) (Sq:Qt (Qz l k)=true) (hxy:XE l k y) (w:World) (hN:Nodes w a l) (hx: ∀w',Nodes w' a l->Calls prog 10 #[.slice a n c,.int .i64 j] w' λe w2=>e= .returned (.string ⟨x.txt.toArray⟩)/\Below w'.heap.size w' w2) (hy: ∀w',Nodes w' a l->Calls prog 10 #[.slice a n c,.int .i64 k] w' λe w2=>e= .returned (.string ⟨y.txt.toArray⟩)/\Below w'.heap.size w' w2):
  Calls prog 10 #[.slice a n c,.int .i64 (i:Int)] w λe w'=>e= .returned (.string ⟨(Ex.index x y).txt.toArray⟩)/\Below w.heap.size w w':=by
 obtain ⟨lb,lo,ka,kc,at_,R⟩:=Zm hN hat;obtain ⟨q,yx,Kx⟩:=Fz hN H hT (by rw [<-hn];exact hll) R.base hi (k:=j) (by rw [hat.ks];simp) hex Cn;obtain rfl:=Kx.k;have D9:(q:Int)<(n:Int):=by have:=Kx.lt;omega
 obtain ⟨r,yy,Ky⟩:=Fz hN H hT (by rw [<-hn];exact hll) R.base hi (k:=k) (by rw [hat.ks];simp) Sq hxy;obtain rfl:=Ky.k;have hrn:(r:Int)<(n:Int):=by have:=Ky.lt;omega
 obtain rfl:=R.base;have hin:(i:Int)<(n:Int):=by omega
 have HN:=Qa hN;have HT:=Qa H;have Az:=Qa Kx;have Zq:=Qa hx;clear hx;have Ht:=Qa Ky;have J5:=Qa hy;clear hy;have c0:=R.c0;have c1:w.cell? ⟨lb,lo+i*5+1,none⟩=some (.slice ka 2 kc):=R.c1;have c2:=R.c2;have c3:=R.c3;have c4:=R.c4;obtain ⟨kb,ko,rfl,hkb,hkc⟩:=R.rows (show 0<2 by decide);have ex:w.cell? ⟨kb,ko,none⟩=some (.int .i64 (q:Int)):=hkc 0 (by simp);have ey:=hkc 1 (by simp);replace ey:w.cell? ⟨kb,ko+1,none⟩=some (.int .i64 (r:Int)):=ey;obtain ⟨w1,hw1⟩:=Qb (w.alloc (.cells #[.int .i64 8,.slice (some ⟨kb,ko,none⟩) 2 kc,.int .i64 0,.string ⟨#[]⟩,.int .i64 at_] 25));have Qp:Hid (Below w.heap.size w w1):=by rw [hw1];exact Qn
 have HH:Hid (Held w1 w.heap.size 25 #[.int .i64 8,.slice (some ⟨kb,ko,none⟩) 2 kc,.int .i64 0,.string ⟨#[]⟩,.int .i64 at_]):=by rw [hw1];exact Held.new w _ _
 clear hN H hkc R hat hn;go_enter func10,ntmps10;go_wp2_with fail;rw [<-hw1];clear hw1 c0 c1 c2 c3 c4;refine (X6 8 0 (some ⟨kb,ko,none⟩) 2 kc ⟨#[]⟩ at_ w1).mono ?_;rintro e w2 ⟨rfl,hb2⟩;have Qv:Hid (Below w.heap.size w w2):=Qp.out.trans (hb2.mono Qp.out.size);have Qh:=Qa (HH.out.since hb2);have d0:=Qh.out.at_ (j:=0) (v:=.int .i64 8) rfl;have d2:=Qh.out.at_ (j:=2) (v:=.int .i64 0) rfl;have d3:=Qh.out.at_ (j:=3) (v:=.string ⟨#[]⟩) rfl;clear hb2;obtain ⟨Jh,Jp,Jg,Ji,Jv⟩:=Kx.cells.below Qv.out Kx.blk;have X9:=Qa Kx.st;obtain ⟨kx,ekx⟩:=Qb yx.kind;obtain ⟨nx,Bf⟩:=Qb yx.n;obtain ⟨mx,Av⟩:=Qb yx.kids.length;obtain ⟨ax,Am⟩:=Qb yx.ka;obtain ⟨cx,Bg⟩:=Qb yx.kc;obtain ⟨sx,Bj⟩:=Qb yx.s;obtain ⟨px,Al⟩:=Qb yx.at_;rw [<-ekx]at Jh X9;rw [<-Am,<-Av,<-Bg]at Jp;rw [<-Bf]at Jg X9;rw [<-Bj]at Ji;rw [<-Al]at Jv;clear ekx Bf Av Am Bg Bj Al;have Tv:=cell_regrown Jh;have rx1:=cell_regrown Jp;have Pq:=cell_regrown Jg;have Sj:=cell_regrown Ji;have Ug:=cell_regrown Jv;obtain ⟨Sx,Au⟩:=Qb (((x.st:Nat):Int):Int);have Bh:=Qa Au;have Aq: ∀d os,Calls prog 12 #[.agg #[.int .i64 kx,.slice ax mx cx,.int .i64 nx,.string sx,.int .i64 px]] (Sort.grow (redrawn w2 d) os) λe w''=>e= .returned (.int .i64 Sx)/\ ∃q:Regrown,w''=Sort.grow (redrawn w2 q.d) q.os:=λd os=>Calls.regrown_of (by have h:=X6 kx nx ax mx cx sx px (Sort.grow (redrawn w2 d) os);rw [X9.out,<-Bh.out]at h;exact h);have gx:=cell_regrown ((Qv.out.cell (p:=_) hkb).trans ex);have gy:=cell_regrown ((Qv.out.cell (p:=_) hkb).trans ey);obtain ⟨Bx,hBx⟩:=Qb (⟨(Zb (decide (Sx<7)) x.txt).toArray⟩:ByteArray);have Zo:Hid (Bx.data.toList=Zb (decide (Sx<7)) x.txt):=by show _=_;rw [hBx]
 have hzx:Bx.size<=48002:=by rw [hBx,Wj];exact Xw (Bu _ _) (by have:=Az.out.short;omega)
 have Ad: ∀d os,Calls prog 26 #[.slice (some ⟨lb,lo,none⟩) n c,.int .i64 (q:Int),.bool (decide (Sx<7))] (Sort.grow (redrawn w2 d) os) λe w''=>e= .returned (.string Bx)/\ ∃q:Regrown,w''=Sort.grow (redrawn w2 q.d) q.os:=λd os=>Calls.regrown_of (by rw [hBx];exact F4 Az.out.short (Zq.out _ (HN.out.below (Qv.out.trans ((below_regrown w2 d os).mono Qv.out.size)))) _);have Ah:=Qa hBx;obtain ⟨By,Y1⟩:=Qb (⟨y.txt.toArray⟩:ByteArray);have Kq:Hid (By.data.toList=y.txt):=by show _=_;rw [Y1]
 have hzy:By.size<=48000:=by rw [Y1,Wj];exact Ht.out.short
 have cyE: ∀d os,Calls prog 10 #[.slice (some ⟨lb,lo,none⟩) n c,.int .i64 (r:Int)] (Sort.grow (redrawn w2 d) os) λe w''=>e= .returned (.string By)/\ ∃q:Regrown,w''=Sort.grow (redrawn w2 q.d) q.os:=λd os=>Calls.regrown_of (by rw [Y1];exact J5.out _ (HN.out.below (Qv.out.trans ((below_regrown w2 d os).mono Qv.out.size))));have hz1: ¬(9223372036854775807<Bx.size+1):=by omega
 have hz2: ¬(9223372036854775807<Bx.size+1+By.size):=by omega
 have hz3: ¬(9223372036854775807<Bx.size+1+By.size+1):=by omega
 clear ex ey Jh Jp Jg Ji Jv hBx Y1 Au X9;go_wp2_with fail;refine wp_region_quiet_below (by kernel_rfl) (by kernel_rfl) ?_
 repeat (any_goals (first |go_big_quiet_step (first |(with_reducible exact Aq _ _) |(with_reducible exact Ad _ _) |(with_reducible exact cyE _ _)) |quiet_step (first |(with_reducible exact Aq _ _) |(with_reducible exact Ad _ _) |(with_reducible exact cyE _ _))))
 refine wpQuiet_nil ?_;intro _ hw';obtain ⟨⟨dq,osq⟩,hw''⟩:=hw';obtain ⟨w3,hw3⟩:=Qb (Sort.grow (redrawn w2 dq) osq);have V4:Hid (Below w.heap.size w w3):=by rw [hw3];exact Qv.out.trans ((below_regrown w2 dq osq).mono Qv.out.size)
 rw [hw'',<-hw3];clear hw3 hw'';go_wp2_with fail;go_ret;refine ⟨Z8 ?_,V4.out⟩;have h1:decide (Sx<7)=decide (x.st<=6):=by rw [Bh.out];congr 1;exact propext ⟨λh=>by omega,λh=>by omega⟩
 have h2:=Zo.out;rw [h1]at h2;simp [h2,Kq.out,Ex.txt]
end
end Go.Proofs.YtdncpkkhkbijfaaDoor
