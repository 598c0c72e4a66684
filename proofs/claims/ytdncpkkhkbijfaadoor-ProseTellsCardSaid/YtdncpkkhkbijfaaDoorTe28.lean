/- ProseTells holds for every input: the text of any program's tree, and of any expression's, and how strong any node is, is as the document says, or that there is none. The card is tied: the tables of the packages prose (heads, strengths), tree (rows, limits, makings, signs, kindWords, keyWords) and the library's tables (strconv's uint64pow10, math/bits' deBruijn32tab and deBruijn64tab) hold what the program's text lays. -/
import Derived.Test.YtdncpkkhkbijfaaDoorTe22
import Derived.Test.YtdncpkkhkbijfaaDoorTe27
import Derived.Test.YtdncpkkhkbijfaaDoorCards
import Derived.Test.YtdncpkkhkbijfaaDoorTie
import Derived.Carry
import Derived.ChangeMaps5
open Go.Proofs.Tryd
set_option linter.all false
set_option maxHeartbeats 0
set_option maxRecDepth 100000
namespace Go.Proofs.YtdncpkkhkbijfaaDoor
section
open Go.RowKit
def Qj0 (l:List Nd) (w:World) (e:Ending) (w':World):Prop:= ∃b d:Bool,e= .returned (.tuple #[.bool b,.bool d])/\(b=true↔Wh l)/\(d=true↔(Rt l/\Qt (nd l (l.length-1)).kind=true))/\Below w.heap.size w w'
theorem Qml (a:Option Addr) (c n:Nat) (l:List Nd) (w:World) (hn:n=l.length) (hll:n<=1000) (hN:Nodes w a l):
  Calls prog 8 #[.slice a n c] w (Qj0 l w):=by
 have HR:=Qa (Qnx a c n l w hn hN (by omega));have HN:=Qa hN;have Q0:=Qa hn;clear hN hn;go_enter func8,ntmps8;go_wp2_with fail;refine HR.out.mono ?_;rintro e w1 ⟨b,rfl,hiff,hb1⟩;have HB1:=Qa hb1;have Zr:=Qa hiff;clear hb1 hiff;cases b with
 |false=>
  have D7:Hid (¬Rt l):=λh=>by cases Zr.out.2 h
  go_wp2_with fail;exact bodyPost_ret (v:=.tuple #[.bool false,.bool false]) (by simp [results,results8,go_sem]) rfl ⟨false,false,rfl,⟨(λh=>by cases h),λh=>absurd h.1 D7.out⟩,⟨(λh=>by cases h),λh=>absurd h.1 D7.out⟩,HB1.out⟩
 |true=>
  have Vn:Hid (Rt l):=Zr.out.1 rfl;have hpos:0<n:=by rw [Q0.out];exact Vn.out.1.1
  obtain ⟨p,rfl⟩: ∃p,n=p+1:=⟨n-1,by omega⟩;have hpl:p<l.length:=by rw [<-Q0.out];omega
  have K4:Hid (l.length-1=p):=by show _=_;rw [<-Q0.out,Nat.add_sub_cancel]
  obtain ⟨nb,no,rfl,hnb,c0,c1,c2,c3,c4⟩:=(HN.out.below HB1.out).at_ hpl;obtain ⟨K,hK⟩:=Qb ((nd l p).kind);have HK:=Qa hK;rw [<-hK]at c0;have hpi:(p:Int)<(p:Int)+1:=by omega
  have hwp:IntKind.i64.wrap (p:Int)=(p:Int):=Go.IntWalk.i64_in _ (by omega);clear c1 c2 c3 c4 hK;go_wp2_with fail;refine (Qae K _).mono ?_;rintro e w2 ⟨rfl,hw2⟩;rw [hw2];clear hw2 w2;go_wp2_with fail;refine bodyPost_ret (v:=.tuple #[.bool (K==26),.bool (Qt K)]) (by simp [results,results8,go_sem]) rfl ⟨K==26,Qt K,rfl,?_,?_,HB1.out⟩
  ·rw [beq_iff_eq,HK.out];unfold Wh;rw [K4.out];exact ⟨λh=>⟨Vn.out,h⟩,λh=>h.2⟩
  ·rw [K4.out,HK.out];exact ⟨λh=>⟨Vn.out,h⟩,λh=>h.2⟩
theorem Qpe (a:Option Addr) (n c:Nat) (l:List Nd) (y:Nd) (w:World) (hP:Jf w) (hI:Mi w a n c l):
  Calls prog 3 #[.slice a n c,.agg y.cs] w λe w'=>e= .returned (.bool true)/\Below w.heap.size w w':=by
 obtain ⟨hl,hcap,hm,hN⟩:=hI;obtain ⟨K,hK⟩:=Qb y.kind;obtain ⟨ka,hka⟩:=Qb y.ka;obtain ⟨km,hkm⟩:=Qb y.kids.length;obtain ⟨kc,hkc⟩:=Qb y.kc;obtain ⟨N,hNn⟩:=Qb y.n;obtain ⟨S,hS⟩:=Qb y.s;obtain ⟨at_,hat⟩:=Qb y.at_;show Calls prog 3 #[.slice a n c,.agg #[.int .i64 y.kind,.slice y.ka y.kids.length y.kc,.int .i64 y.n,.string y.s,.int .i64 y.at_]] w _;rw [<-hK,<-hka,<-hkm,<-hkc,<-hNn,<-hS,<-hat];clear hK hka hkm hkc hNn hS hat;obtain ⟨w0,hw0⟩:=Qb (w.alloc (.cells #[.int .i64 K,.slice ka km kc,.int .i64 N,.string S,.int .i64 at_] 25));have HB0:Hid (Below w.heap.size w w0):=by rw [hw0];exact Qn
 obtain ⟨G,hG⟩:=Qb w.heap.size;have HH:Hid (Held w0 G 25 #[.int .i64 K,.slice ka km kc,.int .i64 N,.string S,.int .i64 at_]):=by rw [hw0,hG];exact Held.new w _ _
 have Q0:Hid (n=l.length):=hl.symm;have HP:=Qa (hP.below HB0.out);have HN:=Qa (hN.below HB0.out);have Qqf:=Qa (Qhz a c n l w0 hl.symm (hN.below HB0.out) (by unfold maxLen at hm;omega));have Qfm:n<=c:=hcap;clear hP hN hl hcap hm;go_enter func3,ntmps3;rw [Vk 3,Vk 4,Vk 6];go_wp2_with fail;rw [<-hw0,<-hG];clear hw0 hG;refine Qqf.out.mono ?_;rintro e w1 ⟨b,rfl,Qc5,hw1⟩;rw [hw1];clear hw1 w1;cases b with
 |false=>
  go_wp2_with fail;refine (Oo w0 HP.out).mono ?_;rintro e w2 ⟨rfl,hb⟩;have HB:Hid (Below w.heap.size w w2):=HB0.out.trans (hb.mono HB0.out.size);clear hb;go_wp2_with fail;go_ret;exact ⟨rfl,HB.out⟩
 |true=>
  have HF:=Qa (Qc5 rfl);clear Qc5;have Qtq:n<=80:=by rw [Q0.out];exact HF.out.1
  have Bv:Hid (∀j,j<l.length->(nd l j).n<=9223372036854775807):=λj hj=>(HN.out.2 j hj).n1;go_wp2_with fail;refine Vp ?_;go_wp2_with fail;refine (Qda a c n l w0 Q0.out (by omega) Qfm HN.out HP.out Bv.out).mono ?_;rintro e w1 ⟨hb1,htx⟩;have HB1:Hid (Below w.heap.size w w1):=HB0.out.trans (hb1.mono HB0.out.size);have Pf:=Qa hb1;clear hb1;have Qe:Hid (∃(X:ByteArray) (b:Bool),e= .returned (.tuple #[.string X,.bool b])/\(b=true↔Wh l)/\(b=true-> ∃fs,XR l ((l.length-1:Nat):Int) fs/\X=⟨(Yx fs).toArray⟩)/\(b=false->X=⟨#[]⟩)):=by
   rcases htx with ⟨h1,fs,h2,h3⟩ |⟨h1,h3⟩
   ·exact ⟨_,true,h3,⟨λ_=>h1,λ_=>rfl⟩,λ_=>⟨fs,h2,rfl⟩,(λh=>by cases h)⟩
   ·exact ⟨_,false,h3,⟨(λh=>by cases h),λh=>absurd h h1⟩,(λh=>by cases h),λ_=>rfl⟩
  clear htx;obtain ⟨X,bw,rfl,hbw,hX1,hX0⟩:=Qe.out;have Xu:=Qa hbw;have HX1:=Qa hX1;have HX0:=Qa hX0;clear hbw hX1 hX0 Qe;go_wp2_with fail;refine Vp ?_;go_wp2_with fail;refine (Qet a c n l w1 Q0.out (by omega) Qfm (HN.out.below Pf.out) (HP.out.below Pf.out) Bv.out).mono ?_;rintro e w2 ⟨hb2,htx⟩;have HB2:Hid (Below w.heap.size w w2):=HB1.out.trans (hb2.mono HB1.out.size);have Po:Hid (Below w0.heap.size w0 w2):=Pf.out.trans (hb2.mono Pf.out.size);clear hb2;have Qe:Hid (∃(Y:ByteArray) (b:Bool),e= .returned (.tuple #[.string Y,.bool b])/\(b=true↔(Rt l/\Qt (nd l (l.length-1)).kind=true))/\(b=true-> ∃x,XE l ((l.length-1:Nat):Int) x/\Y=⟨x.txt.toArray⟩)/\(b=false->Y=⟨#[]⟩)):=by
   rcases htx with ⟨h1,h1',x,h2,h3⟩ |⟨h1,h3⟩
   ·exact ⟨_,true,h3,⟨λ_=>⟨h1,h1'⟩,λ_=>rfl⟩,λ_=>⟨x,h2,rfl⟩,(λh=>by cases h)⟩
   ·exact ⟨_,false,h3,⟨(λh=>by cases h),λh=>absurd h h1⟩,(λh=>by cases h),λ_=>rfl⟩
  clear htx;obtain ⟨Y,be,rfl,hbe,hY1,hY0⟩:=Qe.out;have O5:=Qa hbe;have HY1:=Qa hY1;have HY0:=Qa hY0;clear hbe hY1 hY0 Qe;go_wp2_with fail;refine Vp ?_;go_wp2_with fail;refine (Qml a c n l w2 Q0.out (by omega) (HN.out.below Po.out)).mono ?_;rintro e w3 ⟨d1,d2,rfl,h1,h2,hb3⟩;have HB3:Hid (Below w.heap.size w w3):=HB2.out.trans (hb3.mono HB2.out.size);have Eu:Hid (Below w0.heap.size w0 w3):=Po.out.trans (hb3.mono Po.out.size);obtain rfl:d1=bw:=by
   cases d1<;>cases bw
   ·rfl
   ·have:=h1.2 (Xu.out.1 rfl);cases this
   ·have:=Xu.out.2 (h1.1 rfl);cases this
   ·rfl
  obtain rfl:d2=be:=by
   cases d2<;>cases be
   ·rfl
   ·have:=h2.2 (O5.out.1 rfl);cases this
   ·have:=O5.out.2 (h2.1 rfl);cases this
   ·rfl
  clear h1 h2 hb3;cases d1 with
  |true=>
   have D8:Hid (Wh l):=Xu.out.1 rfl;obtain rfl:d2=false:=by
    cases d2 with
    |false=>rfl
    |true=>
     have h1:=(O5.out.1 rfl).2;have h2:=D8.out.2;rw [h2]at h1;cases h1
   have HY:Hid (Y=⟨#[]⟩):=HY0.out rfl;obtain ⟨fs,hfs,hXe⟩:=HX1.out rfl;have hc:=Qpl a c n l w3 Q0.out (by omega) (HN.out.below Eu.out) D8.out Bv.out fs hfs;rw [<-hXe]at hc;have HC:=Qa hc;rw [HY.out];clear hc hXe hfs;go_wp2_with fail;refine HC.out.mono ?_;rintro e w4 ⟨rfl,hb4⟩;have Xe:Hid (Below w0.heap.size w0 w4):=Eu.out.trans (hb4.mono Eu.out.size);clear hb4;go_wp2_with fail;have Vu:=Qa (HH.out.since Xe.out);have g0:=cell_regrown (Vu.out.at_ (j:=0) (v:=.int .i64 K) rfl);have g1:=cell_regrown (Vu.out.at_ (j:=1) (v:=.slice ka km kc) rfl);have g2:=cell_regrown (Vu.out.at_ (j:=2) (v:=.int .i64 N) rfl);have g3:=cell_regrown (Vu.out.at_ (j:=3) (v:=.string S) rfl);have g4:=cell_regrown (Vu.out.at_ (j:=4) (v:=.int .i64 at_) rfl);obtain ⟨Z,hZ⟩:=Qb (((Yf K N:Nat):Int):Int);have Dz: ∀d' os,Calls prog 11 #[.agg #[.int .i64 K,.slice ka km kc,.int .i64 N,.string S,.int .i64 at_]] (Sort.grow (redrawn w4 d') os) λe w''=>e= .returned (.int .i64 Z)/\ ∃q:Regrown,w''=Sort.grow (redrawn w4 q.d) q.os:=λd' os=>Calls.regrown_of (by rw [hZ];exact Vq K N ka km kc S at_ _ (HP.out.below (Xe.out.trans ((below_regrown w4 d' os).mono Xe.out.size))));have cS2: ∀d' os,Calls prog 12 #[.agg #[.int .i64 K,.slice ka km kc,.int .i64 N,.string S,.int .i64 at_]] (Sort.grow (redrawn w4 d') os) λe w''=>e= .returned (.int .i64 Z)/\ ∃q:Regrown,w''=Sort.grow (redrawn w4 q.d) q.os:=λd' os=>Calls.regrown_of (by rw [hZ];exact X6 K N ka km kc S at_ _);have cW: ∀d' os,Calls prog 5 #[] (Sort.grow (redrawn w4 d') os) λe w''=>e= .returned (.bool true)/\ ∃q:Regrown,w''=Sort.grow (redrawn w4 q.d) q.os:=λd' os=>Calls.regrown_of (Oo _ (HP.out.below (Xe.out.trans ((below_regrown w4 d' os).mono Xe.out.size))));clear hZ;refine wp_region_quiet_below (by kernel_rfl) (by kernel_rfl) ?_
   repeat (any_goals (first |go_big_quiet_step (first |(with_reducible exact Dz _ _) |(with_reducible exact cS2 _ _) |(with_reducible exact cW _ _)) |quiet_step (first |(with_reducible exact Dz _ _) |(with_reducible exact cS2 _ _) |(with_reducible exact cW _ _))))
   refine wpQuiet_nil ?_;intro _ hw';obtain ⟨⟨dq,osq⟩,hw''⟩:=hw';obtain ⟨w9,Aj⟩:=Qb (Sort.grow (redrawn w4 dq) osq);have Hg:Hid (Below w.heap.size w w9):=(by rw [Aj];exact HB0.out.trans ((Xe.out.trans ((below_regrown w4 dq osq).mono Xe.out.size)).mono HB0.out.size));rw [hw'',<-Aj];clear Aj hw'';go_wp2_with fail;go_ret;exact ⟨rfl,Hg.out⟩
  |false=>
   have HX:Hid (X=⟨#[]⟩):=HX0.out rfl;rw [HX.out];cases d2 with
   |true=>
    have Mk:=Qa (O5.out.1 rfl);obtain ⟨x,hx,hYe⟩:=HY1.out rfl;have hpos:0<n:=(by rw [Q0.out];exact Mk.out.1.1.1);obtain ⟨p,rfl⟩: ∃p,n=p+1:=⟨n-1,by omega⟩;have hpl:p<l.length:=(by rw [<-Q0.out];omega);have Ea:l.length-1=p:=(by rw [<-Q0.out,Nat.add_sub_cancel]);have hwp:IntKind.i64.wrap (p:Int)=(p:Int):=Go.IntWalk.i64_in _ (by omega);rw [Ea]at hx;have hex:=Mk.out.2;rw [Ea]at hex;have hc:RE a c (p+1) (p:Int) x w3:=Qfy a c (p+1) l Q0.out (by omega) (Qo.of Mk.out.1 Bv.out) Mk.out.1.1 (p+1) p (by omega) hpl hex x hx w3 (HN.out.below Eu.out);unfold RE at hc;rw [<-hYe]at hc;have HC:=Qa hc;clear hc hYe hx Ea hex;go_wp2_with fail;refine HC.out.mono ?_;rintro e w4 ⟨rfl,hb4⟩;have Xe:Hid (Below w0.heap.size w0 w4):=Eu.out.trans (hb4.mono Eu.out.size);clear hb4;go_wp2_with fail;have Vu:=Qa (HH.out.since Xe.out);have g0:=cell_regrown (Vu.out.at_ (j:=0) (v:=.int .i64 K) rfl);have g1:=cell_regrown (Vu.out.at_ (j:=1) (v:=.slice ka km kc) rfl);have g2:=cell_regrown (Vu.out.at_ (j:=2) (v:=.int .i64 N) rfl);have g3:=cell_regrown (Vu.out.at_ (j:=3) (v:=.string S) rfl);have g4:=cell_regrown (Vu.out.at_ (j:=4) (v:=.int .i64 at_) rfl);obtain ⟨Z,hZ⟩:=Qb (((Yf K N:Nat):Int):Int);have Dz: ∀d' os,Calls prog 11 #[.agg #[.int .i64 K,.slice ka km kc,.int .i64 N,.string S,.int .i64 at_]] (Sort.grow (redrawn w4 d') os) λe w''=>e= .returned (.int .i64 Z)/\ ∃q:Regrown,w''=Sort.grow (redrawn w4 q.d) q.os:=λd' os=>Calls.regrown_of (by rw [hZ];exact Vq K N ka km kc S at_ _ (HP.out.below (Xe.out.trans ((below_regrown w4 d' os).mono Xe.out.size))));have cS2: ∀d' os,Calls prog 12 #[.agg #[.int .i64 K,.slice ka km kc,.int .i64 N,.string S,.int .i64 at_]] (Sort.grow (redrawn w4 d') os) λe w''=>e= .returned (.int .i64 Z)/\ ∃q:Regrown,w''=Sort.grow (redrawn w4 q.d) q.os:=λd' os=>Calls.regrown_of (by rw [hZ];exact X6 K N ka km kc S at_ _);have cW: ∀d' os,Calls prog 5 #[] (Sort.grow (redrawn w4 d') os) λe w''=>e= .returned (.bool true)/\ ∃q:Regrown,w''=Sort.grow (redrawn w4 q.d) q.os:=λd' os=>Calls.regrown_of (Oo _ (HP.out.below (Xe.out.trans ((below_regrown w4 d' os).mono Xe.out.size))));clear hZ;refine wp_region_quiet_below (by kernel_rfl) (by kernel_rfl) ?_
    repeat (any_goals (first |go_big_quiet_step (first |(with_reducible exact Dz _ _) |(with_reducible exact cS2 _ _) |(with_reducible exact cW _ _)) |quiet_step (first |(with_reducible exact Dz _ _) |(with_reducible exact cS2 _ _) |(with_reducible exact cW _ _))))
    refine wpQuiet_nil ?_;intro _ hw';obtain ⟨⟨dq,osq⟩,hw''⟩:=hw';obtain ⟨w9,Aj⟩:=Qb (Sort.grow (redrawn w4 dq) osq);have Hg:Hid (Below w.heap.size w w9):=(by rw [Aj];exact HB0.out.trans ((Xe.out.trans ((below_regrown w4 dq osq).mono Xe.out.size)).mono HB0.out.size));rw [hw'',<-Aj];clear Aj hw'';go_wp2_with fail;go_ret;exact ⟨rfl,Hg.out⟩
   |false=>
    have HY:Hid (Y=⟨#[]⟩):=HY0.out rfl;rw [HY.out];have Xe:=Qa Eu.out;go_wp2_with fail;have Vu:=Qa (HH.out.since Xe.out);have g0:=cell_regrown (Vu.out.at_ (j:=0) (v:=.int .i64 K) rfl);have g1:=cell_regrown (Vu.out.at_ (j:=1) (v:=.slice ka km kc) rfl);have g2:=cell_regrown (Vu.out.at_ (j:=2) (v:=.int .i64 N) rfl);have g3:=cell_regrown (Vu.out.at_ (j:=3) (v:=.string S) rfl);have g4:=cell_regrown (Vu.out.at_ (j:=4) (v:=.int .i64 at_) rfl);obtain ⟨Z,hZ⟩:=Qb (((Yf K N:Nat):Int):Int);have Dz: ∀d' os,Calls prog 11 #[.agg #[.int .i64 K,.slice ka km kc,.int .i64 N,.string S,.int .i64 at_]] (Sort.grow (redrawn w3 d') os) λe w''=>e= .returned (.int .i64 Z)/\ ∃q:Regrown,w''=Sort.grow (redrawn w3 q.d) q.os:=λd' os=>Calls.regrown_of (by rw [hZ];exact Vq K N ka km kc S at_ _ (HP.out.below (Xe.out.trans ((below_regrown w3 d' os).mono Xe.out.size))));have cS2: ∀d' os,Calls prog 12 #[.agg #[.int .i64 K,.slice ka km kc,.int .i64 N,.string S,.int .i64 at_]] (Sort.grow (redrawn w3 d') os) λe w''=>e= .returned (.int .i64 Z)/\ ∃q:Regrown,w''=Sort.grow (redrawn w3 q.d) q.os:=λd' os=>Calls.regrown_of (by rw [hZ];exact X6 K N ka km kc S at_ _);have cW: ∀d' os,Calls prog 5 #[] (Sort.grow (redrawn w3 d') os) λe w''=>e= .returned (.bool true)/\ ∃q:Regrown,w''=Sort.grow (redrawn w3 q.d) q.os:=λd' os=>Calls.regrown_of (Oo _ (HP.out.below (Xe.out.trans ((below_regrown w3 d' os).mono Xe.out.size))));clear hZ;refine wp_region_quiet_below (by kernel_rfl) (by kernel_rfl) ?_
    repeat (any_goals (first |go_big_quiet_step (first |(with_reducible exact Dz _ _) |(with_reducible exact cS2 _ _) |(with_reducible exact cW _ _)) |quiet_step (first |(with_reducible exact Dz _ _) |(with_reducible exact cS2 _ _) |(with_reducible exact cW _ _))))
    refine wpQuiet_nil ?_;intro _ hw';obtain ⟨⟨dq,osq⟩,hw''⟩:=hw';obtain ⟨w9,Aj⟩:=Qb (Sort.grow (redrawn w3 dq) osq);have Hg:Hid (Below w.heap.size w w9):=(by rw [Aj];exact HB0.out.trans ((Xe.out.trans ((below_regrown w3 dq osq).mono Xe.out.size)).mono HB0.out.size));rw [hw'',<-Aj];clear Aj hw'';go_wp2_with fail;go_ret;exact ⟨rfl,Hg.out⟩
end
section
open Go.ChangeShapes Go.WideShapes Go.ChangeAt Go.RowKit Go.WideElems
open Go.ChangeMaps (open_string shut_string)
theorem Qhj (a:Option Addr) (n c:Nat) (l:List Nd) (y:Nd) (w:World) (hT:Jf w) (hI:Mi w a n c l) (hy:Ok w y):
  Calls prog 3 #[.slice a n c,.agg y.cs] w λe w'=>e= .returned (.bool true)/\Below w.heap.size w w':=Qpe a n c l y w hT hI
theorem Qhw (os:Os) (started:os.Started) (H:Type) (enc:TypeId×Value->H):
  ReturnsInHanded {} Tryd.checked os 3 .any (λw args=>(Rows.proseTellsSpec.pre enc prog Tryd.f3 [] false w args/\laidMetH prog Vs w)/\sizedMet enc prog Tryd.f3 (OpenSpec.ofChange Rows.proseTellsSpec) false w args)
   (Rows.proseTellsSpec.post enc prog Tryd.f3 false true false false):=by
 refine returnsInHanded_of_change_and (C:=Tryd.checked) (X:=λw _=>laidMetH prog Vs w) (λ_ _ _ hh h=>h.of_heap hh) own started (by kernel_rfl) func3
  (ChangeSpec.witness_shaped (enc:=enc) (C:=Tryd.checked) (os:=os) (X:=λw _=>laidMetH prog Vs w) false (World.doorLaid prog 400 os) #[.slice none 0 0,.agg #[.int .i64 0,.slice none 0 0,.int .i64 0,.string ⟨#[]⟩,.int .i64 0]] 8 rfl (World.shaped_of_RefB (by kernel_rfl) (by kernel_rfl)) (by kernel_rfl) (by kernel_rfl) (by kernel_rfl) (Qpq os _)) ?_;intro W base args ds gs before hval0 hW _ hz hL _;have hT:=Qru hL;have hval: ∀(j:Nat) t v,Tryd.f3.params[j]? =some t->args[j]? =some v->Value.okWide prog W .any base t v:=hval0;have hW':=hW;obtain ⟨p,q,hA0,hV,rfl,hfz,hnd⟩:=hW;have hA:DataW.TrodAll enc prog W 0 (λ_=>true) true Tryd.f3.params.toList args.toList ds p:=hA0;rw [Tryd.params3]at hA hval;obtain ⟨v0,vs0,d0,ds0,p0,q0,hargs,rfl,rfl,h0,r0⟩:=trodAll_cons hA;obtain ⟨v1,vs1,d1,ds1,p1,q1,rfl,rfl,rfl,h1,r1⟩:=trodAll_cons r0;obtain ⟨rfl,rfl,rfl⟩:=trodAll_nil r1;obtain rfl:args= #[v0,v1]:=by cases args;simp_all
 obtain ⟨rfl,rfl⟩:=trodVars_none hV;obtain ⟨a0,Qfv,cap0,rfl⟩:=okWide_slice underlying22 (hval 0 22 v0 rfl rfl);have k0:=h0;have lt0: ∀x∈p0,x.block<W.heap.size:=by obtain ⟨m,hm⟩:=k0;exact DataW.trod_lt m _ _ _ hm
 have z0: ∀m∈d0.weights prog 22,m<=reachBytes:=λm hm=>by have hm2:=DataW.weights_mem_each (P:=prog) (ts:=Tryd.f3.params.toList++Rows.proseTellsSpec.plain.varTypes prog) (ds:=[d0,d1]++[]) (j:=0) (t:=22) (d:=d0) (by kernel_rfl) rfl m hm;have:=List.all_eq_true.1 hz m hm2;simpa using this
 obtain ⟨l0,w0⟩: ∃l,Mi W a0 Qfv cap0 l:=by obtain ⟨fuel,hf⟩:=h0;exact Qkc hf z0
 obtain ⟨cs1,rfl,_⟩:=okWide_struct underlying25 (hval 1 25 v1 rfl rfl);have k1:=h1;have lt1: ∀x∈p1,x.block<W.heap.size:=by obtain ⟨m,hm⟩:=k1;exact DataW.trod_lt m _ _ _ hm
 have z1: ∀m∈d1.weights prog 25,m<=reachBytes:=λm hm=>by have hm2:=DataW.weights_mem_each (P:=prog) (ts:=Tryd.f3.params.toList++Rows.proseTellsSpec.plain.varTypes prog) (ds:=[d0,d1]++[]) (j:=1) (t:=25) (d:=d1) (by kernel_rfl) rfl m hm;have:=List.all_eq_true.1 hz m hm2;simpa using this
 obtain ⟨y1,hy1,w1⟩: ∃y:Nd,cs1.toList=y.cs.toList/\Ok W y:=by obtain ⟨fuel,hf⟩:=h1;exact Qdf hf z1
 obtain rfl:cs1=y1.cs:=Array.ext' hy1;clear hA0 hval0;refine (Qhj a0 Qfv cap0 l0 y1 W hT w0 w1).mono λe W' ⟨he,bel⟩=> ?_;subst he;exact ⟨_,rfl,_,_,_,[],_,[],hW',trodAll_mk1 (shut_bool underlying4 _),(trodAll_cons_mk (Below.trod Qdw (by kernel_rfl) (of_decide_eq_true (by kernel_rfl)) k0 bel lt0) (trodAll_cons_mk (Below.trod Qdw (by kernel_rfl) (of_decide_eq_true (by kernel_rfl)) k1 bel lt1) trodAll_mk0)),rfl,bel.frame _,λh=>by cases h⟩
theorem Qo1:Rows.ProseTellsSaid:=
 OpenClaim.holds_of_wide 3 Tryd.f3 rfl rfl rfl rfl rfl rfl rfl ⟨rfl,rfl,rfl,rfl,rfl⟩ rfl rfl rfl rfl rfl (by kernel_rfl) func3 (by kernel_rfl)
  (of_decide_eq_true (by kernel_rfl)) (by unfold Func.isWrapper;first |(rw [Wy (by decide+kernel)];kernel_rfl) |(rw [Q6 (by decide+kernel)];exact ⟨rfl,rfl⟩))
  (λos started H enc _=>Qhw os started H enc)
theorem pwtells_holds:Rows.ProseTellsCardSaid:=
 Claim7.holds_tied_plain_at .later [] [.data,.data,.data,.data,.data,.data,.data,.data,.data,.data,.data] true Rows.proseTellsCard.stood.harness false
  Qo1 (λ_ h=>by cases h) (by kernel_rfl) (λ_ h=>by cases h) proseTells_row_tie rfl ⟨rfl,rfl⟩ (by kernel_rfl) rfl
  (λf fn hf hfn=>by
   obtain rfl:f=3:=Option.some.inj ((show prog.funcNamed "balustrade/balustradelaw09.ProseTells" =some 3 by kernel_rfl).symm.trans hf) |>.symm;obtain rfl:fn=Tryd.f3:=(Option.some.inj (func3.symm.trans hfn)).symm;exact ⟨by kernel_rfl,λj t ht=>by rw [Tryd.params3]at ht;have hm:t∈[22,25]:=(by simpa using Array.mem_of_getElem? ht);have hall:([22,25].all λu=> !prog.wantsStandIn u)=true:=(by kernel_rfl);exact (show prog.wantsStandIn t=false by simpa using List.all_eq_true.1 hall t hm)⟩)
  (by kernel_rfl)
#print axioms pwtells_holds
end
end Go.Proofs.YtdncpkkhkbijfaaDoor
