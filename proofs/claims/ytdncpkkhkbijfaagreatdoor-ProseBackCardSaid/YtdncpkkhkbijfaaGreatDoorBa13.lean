import Derived.Test.YtdncpkkhkbijfaaGreatDoorBa5
import Derived.Test.YtdncpkkhkbijfaaGreatDoorBa12
import Derived.StillTailTactics
import Derived.IntWalk
open Go.Proofs.Tryz
set_option linter.all false
set_option maxHeartbeats 0
set_option maxRecDepth 100000
namespace Go.Proofs.YtdncpkkhkbijfaaGreatDoor
section
open Go.RowKit
theorem Qpf {l:List UInt8} (h:0<l.length): ∃c cs,l=c::cs:=by
 cases l with
 |nil=>simp at h
 |cons c cs=>exact ⟨c,cs,rfl⟩
theorem Qyv {n:Nat} (h:Yn n=true):isLt n=false:=by unfold Yn at h;unfold isLt;simp only [Yo,Wt]at h;rw [decide_eq_false (by omega: ¬97<=n),decide_eq_false (by omega: ¬65<=n),show (n==95)=false from beq_eq_false_iff_ne.2 (by omega)];rfl
theorem Qpx {l:List UInt8} (h:0<l.length) (hd:isLt (bt l 0)=true):k0 l=1/\ln l=rn Vt l:=by
 obtain ⟨c,cs,rfl⟩:=Qpf h;have hd':isLt c.toNat=true:=hd;constructor
 ·show (if isLt c.toNat then 1 else if Yn c.toNat then 2 else 4)=1;rw [hd'];rfl
 ·show (if isLt c.toNat then _ else if Yn c.toNat then _ else _)=_;rw [hd'];rfl
theorem Qma (p:Nat->Bool): ∀(l:List UInt8) (k:Nat),k<rn p l->p (bt l k)=true
 | [],k,h=>by simp [rn]at h
 |c::cs,k,h=>by
  unfold rn at h;split at h
  ·rename_i g;cases k with
   |zero=>exact g
   |succ k=>exact Qma p cs k (by omega)
  ·omega
def From (l:List UInt8) (L:List Tk) (p:Nat):Prop:=T l 0=(S (l.drop p) p).map (λM=>L++M)
theorem From.start (l:List UInt8):From l [] (Yh false l):=by unfold From T;rw [Bq];cases S (l.drop (Yh false l)) (Yh false l)<;>rfl
theorem From.next {l:List UInt8} {L:List Tk} {p:Nat} (h:From l L p) (hp:p<l.length) (he:er (l.drop p)=0):From l (L++[tk (l.drop p) p]) (p+off (l.drop p)):=by
 unfold From at h ⊢;have hne:l.drop p≠[]:=by intro e;have:=congrArg List.length e;rw [Vf]at this;simp at this;omega
 rw [h,Qnz p hne he];have hn:Iw (l.drop p)=l.drop (p+off (l.drop p)):=by unfold Iw;rw [List.drop_drop]
 rw [hn];cases S (l.drop (p+off (l.drop p))) (p+off (l.drop p))with
 |error x=>rfl
 |ok M=>show Except.ok (L++tk (l.drop p) p::M)=Except.ok (L++[tk (l.drop p) p]++M);rw [Qy];rfl
theorem From.bad {l:List UInt8} {L:List Tk} {p:Nat} (h:From l L p) (hp:p<l.length) (he:er (l.drop p)≠0):T l 0= .error (er (l.drop p),p):=by
 unfold From at h;have hne:l.drop p≠[]:=by intro e;have:=congrArg List.length e;rw [Vf]at this;simp at this;omega
 rw [h,Qhl p hne he];rfl
theorem From.done {l:List UInt8} {L:List Tk} {p:Nat} (h:From l L p) (hp:p=l.length):T l 0= .ok (L++[⟨0,[],0,p⟩]):=by unfold From at h;rw [h,Qla (by omega),Q48];rfl
end
section
open Go.RowKit
variable {B g:Nat}{L:List Tk}{w:World}{R:Bx}{p:Nat}{d e q:Int}{l:List Nd}{h:List Nat}
theorem Q43 {w V:World} {A:Nat} {t:TypeId} {a0 b0 c0 x0:Value} (h:Held V A t #[a0,b0,c0,x0]) (hb:Below w.heap.size w V) (hA:w.heap.size<=A) (a b c x:Value):
  ∃W',W'=((((V.setCell ⟨A,0,none⟩ a).setCell ⟨A,1,none⟩ b).setCell ⟨A,2,none⟩ c).setCell ⟨A,3,none⟩ x)/\Held W' A t #[a,b,c,x]/\Below w.heap.size w W':=
 ⟨_,rfl,(((h.set 0 _).set 1 _).set 2 _).set 3 _,(((hb.setCell hA _).setCell hA _).setCell hA _).setCell hA _⟩
theorem Qou (a b:List UInt8):((⟨a.toArray⟩:ByteArray).toList==(⟨b.toArray⟩:ByteArray).toList)=(a==b):=by rw [ByteArray.toList_eq,ByteArray.toList_eq]
theorem Q0w (H:Rd B g L w R p d l h e q):
  Calls prog 99 #[.pointer (some ⟨g,0,none⟩)] w λen w'=>en= .returned (.bool (e != 0))/\w'=w:=by
 have c5:=H.c5;have HH:=Qa H;clear H;go_enter func99,ntmps99;go_wp2_with fail;go_ret;exact ⟨rfl,rfl⟩
theorem Qaz {t:Tk} (H:Rd B g L w R p d l h e q) (ht:L[p]? =some t):
  Calls prog 61 #[.pointer (some ⟨g,0,none⟩)] w λen w'=>en= .returned (.agg #[.int .i64 (t.kind:Int),.string ⟨t.text.toArray⟩,.int .i64 (t.n:Int),.int .i64 (t.place:Int)])/\Below w.heap.size w w':=by
 have hp:=H.here;have hm:=H.many;obtain ⟨W,hW⟩:=Qb (w.alloc (.cells #[.int .i64 0,.string ⟨#[]⟩,.int .i64 0,.int .i64 0] 69));have HB:Hid (Below w.heap.size w W):=by rw [hW];exact Qag
 obtain ⟨G,hG⟩:=Qb w.heap.size;have HG:Hid (Held W G 69 #[.int .i64 0,.string ⟨#[]⟩,.int .i64 0,.int .i64 0]):=by rw [hW,hG];exact Held.new _ _ _
 have HW:=H.below HB.out;obtain ⟨y0,y1,y2,y3⟩:=HW.toks.at_ ht;rw [Bq]at y0 y1 y2 y3;have c0:=HW.c0;have c1:=HW.c1;have z0:=HG.out.t0;have z1:=HG.out.t1;have z2:=HG.out.t2;have z3:=HG.out.t3;have f0:=HG.out.frozen 0;have f1:=HG.out.frozen 1;have f2:=HG.out.frozen 2;have f3:=HG.out.frozen 3;obtain ⟨n,hn⟩:=Qb L.length;rw [<-hn]at hp hm c0;obtain ⟨S,hS⟩:=Qb (⟨t.text.toArray⟩:ByteArray);rw [<-hS]at y1 ⊢;obtain ⟨tb,htb⟩:=Qb R.tb;rw [<-htb]at y0 y1 y2 y3 c0;have hn0:((n:Int)==0)=false:=by simp;omega
 have HH:=Qa H;have HHW:=Qa HW;have Fa:=Qa hG;clear H HW ht hn hS htb hG;go_enter func61,ntmps61;rw [Qz 1];go_wp2_with fail;rw [<-hW,<-Fa.out];clear hW;refine Qn ?_;go_wp2_with fail;have hwr:IntKind.i64.wrap ((n:Int)-1)=(n:Int)-1:=Go.IntWalk.i64_in _ (by omega);have hmn: ¬((n:Int)-1<(p:Int)):=by omega
 go_still_tail 17,(by kernel_rfl);change wpList _ _ _ _ _ W.drew;go_wp2_with fail;obtain ⟨W',hW',hH,hBel⟩:=Q43 HG.out HB.out (by rw [Fa.out];exact Qh _) (.int .i64 (t.kind:Int)) (.string S) (.int .i64 (t.n:Int)) (.int .i64 (t.place:Int));rw [<-hW'];have x0:W'.drew.cell? ⟨G,0,none⟩=some (.int .i64 (t.kind:Int)):=hH.t0;have x1:W'.drew.cell? ⟨G,1,none⟩=some (.string S):=hH.t1;have x2:W'.drew.cell? ⟨G,2,none⟩=some (.int .i64 (t.n:Int)):=hH.t2;have x3:W'.drew.cell? ⟨G,3,none⟩=some (.int .i64 (t.place:Int)):=hH.t3;clear hW' hH;exact bodyPost_ret (v:=.agg #[.int .i64 (t.kind:Int),.string S,.int .i64 (t.n:Int),.int .i64 (t.place:Int)]) (by simp [results,results61,go_sem,x0,x1,x2,x3]) rfl ⟨rfl,hBel.drew⟩
theorem Rd.drewN (H:Rd B g L w R p d l h e q) (n:Nat):Rd B g L (w.drewN n) R p d l h e q:=H.below (Wq w n _)
theorem Ql8 (H:Rd B g L w R p d l h 0 q):
  Calls prog 99 #[.pointer (some ⟨g,0,none⟩)] w λen w'=>en= .returned (.bool false)/\w'=w:=Q0w H
theorem Qe3 (H:Rd B g L w R p d l h e q) (he:e≠0):
  Calls prog 99 #[.pointer (some ⟨g,0,none⟩)] w λen w'=>en= .returned (.bool true)/\w'=w:=by
 have:=Q0w H;have h1:(e != 0)=true:=by simpa using he
 rw [h1]at this;exact this
theorem Qq5 (H:Rd B g L w R p d l h 0 q):
  Calls prog 98 #[.pointer (some ⟨g,0,none⟩)] w λen w'=>en= .returned (.bool true)/\Below w.heap.size w w':=by
 have hp:=H.here;have c0:=H.c0;have c1:=H.c1;obtain ⟨n,hn⟩:=Qb L.length;rw [<-hn]at hp c0;have hpn:((p:Int)<(n:Int)):=by omega
 have HH:=Qa H;clear H hn;go_enter func98,ntmps98;go_wp2_with fail;go_quiet (first |(go_at_call 99;refine Calls.quiet_of_same (Ql8 (HH.out.drewN _))));go_wp2_with fail;go_ret;exact ⟨by first |rfl |simp [hp],Wq _ _ _⟩
theorem Qqv (H:Rd B g L w R p d l h e q) (he:e≠0):
  Calls prog 98 #[.pointer (some ⟨g,0,none⟩)] w λen w'=>en= .returned (.bool false)/\Below w.heap.size w w':=by
 have HH:=Qa H;have HE:=Qa he;clear H he;go_enter func98,ntmps98;go_wp2_with fail;go_quiet (first |(go_at_call 99;refine Calls.quiet_of_same (Qe3 (HH.out.drewN _) HE.out)));go_wp2_with fail;go_ret;exact ⟨rfl,Wq _ _ _⟩
theorem Z4 {w w1 w2:World} (h:Below w.heap.size w w1) (k:Below w1.heap.size w1 w2):Below w.heap.size w w2:=h.trans (k.mono h.size)
theorem Qp6 {t:Tk} (b:List UInt8) (H:Rd B g L w R p d l h 0 q) (ht:L[p]? =some t):
  Calls prog 59 #[.pointer (some ⟨g,0,none⟩),.string ⟨b.toArray⟩] w λen w'=>en= .returned (.bool (sees t b))/\Below w.heap.size w w':=by
 have HH:=Qa H;have HT:=Qa ht;clear H ht;obtain ⟨S,hS⟩:=Qb (⟨t.text.toArray⟩:ByteArray);obtain ⟨X,hX⟩:=Qb (⟨b.toArray⟩:ByteArray);have hs2:(S.toList==X.toList)=(t.text==b):=by rw [hS,hX];exact Qou _ _
 have hk3:((t.kind:Int)==3)=(t.kind==3):=by rw [Bool.eq_iff_iff];simp;omega
 have hk4:((t.kind:Int)==4)=(t.kind==4):=by rw [Bool.eq_iff_iff];simp;omega
 have J6:=Qaz HH.out HT.out;rw [<-hS]at J6;rw [<-hX];have Qwy:=Qa J6;clear J6 hS hX;obtain ⟨K,hK⟩:=Qb (t.kind:Int);obtain ⟨N,hN⟩:=Qb (t.n:Int);obtain ⟨P,hP⟩:=Qb (t.place:Int);rw [<-hK,<-hN,<-hP]at Qwy;rw [<-hK]at hk3 hk4;have M0:Hid (sees t b=((t.kind==3||t.kind==4)&&t.text==b)):=rfl;obtain ⟨V,hV⟩:=Qb (sees t b);rw [<-hV]at M0 ⊢;clear hK hN hP hV;obtain ⟨b3,hb3⟩:=Qb (t.kind==3);obtain ⟨b4,hb4⟩:=Qb (t.kind==4);obtain ⟨bs,hbs⟩:=Qb (t.text==b);rw [<-hb3,<-hb4,<-hbs]at M0;rw [<-hb3]at hk3;rw [<-hb4]at hk4;rw [<-hbs]at hs2;clear hb3 hb4 hbs;go_enter func59,ntmps59;rw [Qz 2];go_wp2_with fail;refine Qwy.out.mono ?_;rintro en w1 ⟨rfl,hb1⟩;have HB1:=Qa hb1;clear hb1;go_wp2_with fail;obtain ⟨W,hW⟩:=Qb (w1.alloc (.cells #[.int .i64 K,.string S,.int .i64 N,.int .i64 P] 69));obtain ⟨G,hG⟩:=Qb w1.heap.size;have HG:Hid (Held W G 69 #[.int .i64 K,.string S,.int .i64 N,.int .i64 P]):=by rw [hW,hG];exact Held.new _ _ _
 have HB2:Hid (Below w.heap.size w W):=by rw [hW];exact HB1.out.alloc HB1.out.size _
 rw [<-hW,<-hG];clear hW hG;refine Qn ?_;go_wp2_with fail;refine (Qq5 (HH.out.below HB2.out)).mono ?_;rintro en w2 ⟨rfl,hb2⟩;have HG2:=HG.out.since hb2;have z0:=HG2.t0;have z1:=HG2.t1;have HB3:=Qa (Z4 HB2.out hb2);clear hb2 HG2;cases b3<;>cases b4<;>cases bs<;>(go_wp2_with fail;go_ret;exact ⟨by rw [M0.out];rfl,HB3.out⟩)
theorem Q2c (b:List UInt8) (H:Rd B g L w R p d l h e q) (he:e≠0):
  Calls prog 59 #[.pointer (some ⟨g,0,none⟩),.string ⟨b.toArray⟩] w λen w'=>en= .returned (.bool false)/\Below w.heap.size w w':=by
 obtain ⟨t,ht,_⟩:=Qd4 H.here;have HE:=Qa he;have HH:=Qa H;obtain ⟨X,hX⟩:=Qb (⟨b.toArray⟩:ByteArray);rw [<-hX];have HT:=Qa ht;clear H he hX ht;go_enter func59,ntmps59;rw [Qz 2];go_wp2_with fail;refine (Qaz HH.out HT.out).mono ?_;rintro en w1 ⟨rfl,hb1⟩;have HB1:=Qa hb1;clear hb1;go_wp2_with fail;obtain ⟨W,hW⟩:=Qb (w1.alloc (.cells #[.int .i64 (t.kind:Int),.string ⟨t.text.toArray⟩,.int .i64 (t.n:Int),.int .i64 (t.place:Int)] 69));have HB2:Hid (Below w.heap.size w W):=by rw [hW];exact HB1.out.alloc HB1.out.size _
 rw [<-hW];clear hW;refine Qn ?_;go_wp2_with fail;refine (Qqv (HH.out.below HB2.out) HE.out).mono ?_;rintro en w2 ⟨rfl,hb2⟩;have HB3:=Qa (Z4 HB2.out hb2);clear hb2;go_wp2_with fail;go_ret;exact ⟨rfl,HB3.out⟩
end
section
open Go.RowKit
variable {B g:Nat}{L:List Tk}{w:World}{R:Bx}{p:Nat}{d e q:Int}{l:List Nd}{h:List Nat}
def Turned (B g:Nat) (L:List Tk) (w:World) (R:Bx) (p:Nat) (d:Int) (l:List Nd) (h:List Nat) (e q:Int) (w':World):Prop:=Rd B g L w' R p d l h e q/\Fr g w w' R R
theorem Turned.of_below {w':World} (H:Rd B g L w R p d l h e q) (hb:Below w.heap.size w w'):Turned B g L w R p d l h e q w':=⟨H.below hb,Fr.of_below R hb⟩
theorem Turned.then {w1 w2:World} {p1 p2:Nat} {d1 e1 q1 d2 e2 q2:Int} {l1 l2:List Nd} {h1 h2:List Nat} (a:Turned B g L w R p1 d1 l1 h1 e1 q1 w1) (b:Turned B g L w1 R p2 d2 l2 h2 e2 q2 w2):Turned B g L w R p2 d2 l2 h2 e2 q2 w2:=⟨b.1,a.2.trans b.2⟩
theorem Q2d {t:Tk} {b:List UInt8} (h:sees t b=true):t.kind≠0:=by unfold sees at h;simp at h;omega
theorem Rd.take {t:Tk} (H:Rd B g L w R p d l h e q) (ht:L[p]? =some t) (hk:t.kind≠0) (u:Value) (hu:u= .int .i64 ((p:Int)+1)):Turned B g L w R (p+1) d l h e q (w.setCell ⟨g,1,none⟩ u):=by subst hu;have:=H.few;exact ⟨H.store rfl (H.fin p t ht hk) (by omega),Fr.store (B:=B) (L:=L) 1 _⟩
theorem Qzi {t:Tk} (b:List UInt8) (H:Rd B g L w R p d l h 0 q) (ht:L[p]? =some t) (hs:sees t b=true):
  Calls prog 96 #[.pointer (some ⟨g,0,none⟩),.string ⟨b.toArray⟩] w λen w'=>en= .returned (.bool true)/\Turned B g L w R (p+1) d l h 0 q w':=by
 have hI:=Qp6 b H ht;rw [hs]at hI;obtain ⟨X,hX⟩:=Qb (⟨b.toArray⟩:ByteArray);rw [<-hX]at hI ⊢;have HI:=Qa hI;have HH:=Qa H;have HT:=Qa ht;have HS:=Qa hs;have hm:p<100000:=by have:=H.here;have:=H.many;omega
 clear hI H ht hs hX;go_enter func96,ntmps96;go_wp2_with fail;refine HI.out.mono ?_;rintro en w1 ⟨rfl,hb1⟩;have Wo:=Qa (HH.out.below hb1);have c1:=Wo.out.c1;have f1:=Wo.out.box.frozen 1;have HB1:=Qa hb1;clear hb1;go_wp2_with fail;go_ret;exact ⟨rfl,(Turned.of_below HH.out HB1.out).then (Wo.out.take HT.out (Q2d HS.out) _ (by go_num))⟩
theorem Qwj {t:Tk} (b:List UInt8) (H:Rd B g L w R p d l h 0 q) (ht:L[p]? =some t) (hs:sees t b=false):
  Calls prog 96 #[.pointer (some ⟨g,0,none⟩),.string ⟨b.toArray⟩] w λen w'=>en= .returned (.bool false)/\Below w.heap.size w w':=by
 have hI:=Qp6 b H ht;rw [hs]at hI;obtain ⟨X,hX⟩:=Qb (⟨b.toArray⟩:ByteArray);rw [<-hX]at hI ⊢;have HI:=Qa hI;clear hI H ht hs hX;go_enter func96,ntmps96;go_wp2_with fail;refine HI.out.mono ?_;rintro en w1 ⟨rfl,hb1⟩;have HB1:=Qa hb1;clear hb1;go_wp2_with fail;go_ret;exact ⟨rfl,HB1.out⟩
theorem Q1f (b:List UInt8) (H:Rd B g L w R p d l h e q) (he:e≠0):
  Calls prog 96 #[.pointer (some ⟨g,0,none⟩),.string ⟨b.toArray⟩] w λen w'=>en= .returned (.bool false)/\Below w.heap.size w w':=by
 have hI:=Q2c b H he;obtain ⟨X,hX⟩:=Qb (⟨b.toArray⟩:ByteArray);rw [<-hX]at hI ⊢;have HI:=Qa hI;clear hI H he hX;go_enter func96,ntmps96;go_wp2_with fail;refine HI.out.mono ?_;rintro en w1 ⟨rfl,hb1⟩;have HB1:=Qa hb1;clear hb1;go_wp2_with fail;go_ret;exact ⟨rfl,HB1.out⟩
theorem Qh6 (x y:Int) (hx:x≠0) (H:Rd B g L w R p d l h 0 q):
  Calls prog 60 #[.pointer (some ⟨g,0,none⟩),.int .i64 x,.int .i64 y] w λen w'=>(∃v,en= .returned v)/\Turned B g L w R p d l h x y w':=by
 have hx':(x != 0)=true:=by simpa using hx
 have c5:=H.c5;have c6:=H.c6;have f5:=H.box.frozen 5;have f6:=H.box.frozen 6;have HH:=Qa H;clear H hx;go_enter func60,ntmps60;go_wp2_with fail;refine (Ql8 HH.out).mono ?_;rintro en w1 ⟨rfl,hw1⟩;rw [hw1];clear hw1 w1;go_wp2_with fail;go_end0;refine ⟨⟨_,rfl⟩,?_,?_⟩
 ·have h1:=HH.out.store (i:=5) (u:=.int .i64 x) (e':=x) (q':=q) (d':=d) (p':=p) rfl HH.out.here HH.out.few;exact h1.store (i:=6) (u:=.int .i64 y) (e':=x) (q':=y) (d':=d) (p':=p) rfl HH.out.here HH.out.few
 ·exact (Fr.store (B:=B) (L:=L) 5 _).trans (Fr.store (B:=B) (L:=L) 6 _)
theorem Qhh (x y:Int) (H:Rd B g L w R p d l h e q) (he:e≠0) (hx:x≠0):
  Calls prog 60 #[.pointer (some ⟨g,0,none⟩),.int .i64 x,.int .i64 y] w λen w'=>(∃v,en= .returned v)/\w'=w:=by
 have hx':(x != 0)=true:=by simpa using hx
 have HH:=Qa H;have HE:=Qa he;clear H hx he;go_enter func60,ntmps60;go_wp2_with fail;refine (Qe3 HH.out HE.out).mono ?_;rintro en w1 ⟨rfl,hw1⟩;rw [hw1];clear hw1 w1;go_wp2_with fail;go_end0;exact ⟨⟨_,rfl⟩,rfl⟩
theorem Qy1 (H:Rd B g L w R p d l h e q) (hd: -1000000<=d/\d<=1000000):
  Calls prog 131 #[.pointer (some ⟨g,0,none⟩)] w λen w'=>(∃v,en= .returned v)/\Turned B g L w R p (d-1) l h e q w':=by
 have c2:=H.c2;have f2:=H.box.frozen 2;obtain ⟨hd1,hd2⟩:=hd;have HH:=Qa H;clear H;go_enter func131,ntmps131;go_wp2_with fail;go_end0;refine ⟨⟨_,rfl⟩,?_,Fr.store (B:=B) (L:=L) 2 _⟩;exact HH.out.store (i:=2) (e':=e) (q':=q) (d':=d-1) (p':=p) (by first |rfl |(congr 2)) HH.out.here HH.out.few
end
section
open Go.RowKit
variable {B g:Nat}{L:List Tk}{w:World}{R:Bx}{p:Nat}{d e q:Int}{l:List Nd}{h:List Nat}
theorem Xm (a b c x:Value) (w:World):(Instr.field 69 (.agg #[a,b,c,x]) 3).run prog w= .ok x w:=by kernel_rfl
theorem Wqc {t:Tk} (b:List UInt8) (H:Rd B g L w R p d l h 0 q) (ht:L[p]? =some t) (hs:sees t b=true):
  Calls prog 97 #[.pointer (some ⟨g,0,none⟩),.string ⟨b.toArray⟩] w λen w'=>en= .returned (.bool true)/\Turned B g L w R (p+1) d l h 0 q w':=by
 have hI:=Qzi b H ht hs;obtain ⟨X,hX⟩:=Qb (⟨b.toArray⟩:ByteArray);rw [<-hX]at hI ⊢;have HI:=Qa hI;clear hI H ht hs hX;go_enter func97,ntmps97;go_wp2_with fail;refine HI.out.mono ?_;rintro en w1 ⟨rfl,hb1⟩;have HB1:=Qa hb1;clear hb1;go_wp2_with fail;go_ret;exact ⟨rfl,HB1.out⟩
theorem Wca {t:Tk} (b:List UInt8) (H:Rd B g L w R p d l h 0 q) (ht:L[p]? =some t) (hs:sees t b=false):
  Calls prog 97 #[.pointer (some ⟨g,0,none⟩),.string ⟨b.toArray⟩] w λen w'=>en= .returned (.bool false)/\Turned B g L w R p d l h 8 (t.place:Int) w':=by
 have hI:=Qwj b H ht hs;obtain ⟨X,hX⟩:=Qb (⟨b.toArray⟩:ByteArray);rw [<-hX]at hI ⊢;have HI:=Qa hI;have HH:=Qa H;have HT:=Qa ht;have Xp:=Xm;clear hI H ht hs hX;go_enter func97,ntmps97;go_wp2_with fail;refine HI.out.mono ?_;rintro en w1 ⟨rfl,hb1⟩;have HB1:=Qa hb1;clear hb1;go_wp2_with fail;refine (Qaz (HH.out.below HB1.out) HT.out).mono ?_;rintro en w2 ⟨rfl,hb2⟩;have HB2:=Qa (Z4 HB1.out hb2);clear hb2;go_wp2_with fail;refine (Qh6 8 (t.place:Int) (by decide) (HH.out.below HB2.out)).mono ?_;rintro en w3 ⟨⟨v,rfl⟩,hb3⟩;have HB3:=Qa ((Turned.of_below HH.out HB2.out).then hb3);clear hb3;go_wp2_with fail;go_ret;exact ⟨rfl,HB3.out⟩
theorem Wiq (b:List UInt8) (H:Rd B g L w R p d l h e q) (he:e≠0):
  Calls prog 97 #[.pointer (some ⟨g,0,none⟩),.string ⟨b.toArray⟩] w λen w'=>en= .returned (.bool false)/\Below w.heap.size w w':=by
 have hI:=Q1f b H he;obtain ⟨t,ht,_⟩:=Qd4 H.here;obtain ⟨X,hX⟩:=Qb (⟨b.toArray⟩:ByteArray);rw [<-hX]at hI ⊢;have HI:=Qa hI;have HH:=Qa H;have HT:=Qa ht;have HE:=Qa he;have Xp:=Xm;clear hI H ht he hX;go_enter func97,ntmps97;go_wp2_with fail;refine HI.out.mono ?_;rintro en w1 ⟨rfl,hb1⟩;have HB1:=Qa hb1;clear hb1;go_wp2_with fail;refine (Qaz (HH.out.below HB1.out) HT.out).mono ?_;rintro en w2 ⟨rfl,hb2⟩;have HB2:=Qa (Z4 HB1.out hb2);clear hb2;go_wp2_with fail;refine (Qhh 8 (t.place:Int) (HH.out.below HB2.out) HE.out (by decide)).mono ?_;rintro en w3 ⟨⟨v,rfl⟩,hw3⟩;rw [hw3];clear hw3 w3;go_wp2_with fail;go_ret;exact ⟨rfl,HB2.out⟩
theorem Wmz {t:Tk} (H:Rd B g L w R p d l h 0 q) (ht:L[p]? =some t) (hs:t.kind=1):
  Calls prog 127 #[.pointer (some ⟨g,0,none⟩)] w λen w'=>en= .returned (.string ⟨t.text.toArray⟩)/\Turned B g L w R (p+1) d l h 0 q w':=by
 have HH:=Qa H;have HT:=Qa ht;have hI:=Qaz H ht;rw [hs]at hI;have HS:=Qa hs;obtain ⟨X,hX⟩:=Qb (⟨t.text.toArray⟩:ByteArray);rw [<-hX]at hI ⊢;obtain ⟨N,hN⟩:=Qb (t.n:Int);obtain ⟨P,hP⟩:=Qb (t.place:Int);rw [<-hN,<-hP]at hI;have HI:=Qa hI;have hm:p<100000:=by have:=H.here;have:=H.many;omega
 clear H ht hs hI hN hP hX;go_enter func127,ntmps127;rw [Qz 2,Qz 5,Qz 6];go_wp2_with fail;refine HI.out.mono ?_;rintro en w1 ⟨rfl,hb1⟩;have HB1:=Qa hb1;clear hb1;go_wp2_with fail;obtain ⟨W,hW⟩:=Qb (w1.alloc (.cells #[.int .i64 ((1:Nat):Int),.string X,.int .i64 N,.int .i64 P] 69));obtain ⟨G,hG⟩:=Qb w1.heap.size;have HG:Hid (Held W G 69 #[.int .i64 ((1:Nat):Int),.string X,.int .i64 N,.int .i64 P]):=by rw [hW,hG];exact Held.new _ _ _
 have HB2:Hid (Below w.heap.size w W):=by rw [hW];exact HB1.out.alloc HB1.out.size _
 have HGL:Hid (w.heap.size<=G):=by rw [hG];exact HB1.out.size
 simp only [Int.natCast_one]at hW;rw [<-hW,<-hG];clear hW hG;have z0:=HG.out.t0;refine Qn ?_;go_wp2_with fail;refine (Qq5 (HH.out.below HB2.out)).mono ?_;rintro en w2 ⟨rfl,hb2⟩;have HG2:=Qa (HG.out.since hb2);have HB3:=Qa (Z4 HB2.out hb2);have Q9:=Qa (HH.out.below HB3.out);clear hb2 z0;go_wp2_with fail;refine Qn ?_;have c1:=Q9.out.c1;have f1:=Q9.out.box.frozen 1;have Wfh:Hid (G≠g):=by have:=HH.out.box.lt;have:=HGL.out;show G≠g;omega
 go_wp2_with fail;refine Qn ?_;have HT4:=Q9.out.take HT.out (by rw [HS.out];decide) _ rfl;have z1:=(HG2.out.off (g':=g) Wfh.out 1 (.int .i64 ((p:Int)+1))).t1;obtain ⟨W4,Bt⟩:=Qb (w2.setCell ⟨g,1,none⟩ (.int .i64 ((p:Int)+1)));rw [<-Bt]at HT4 z1 ⊢;have HT5:=Qa ((Turned.of_below HH.out HB3.out).then HT4);clear HT4 Bt;go_wp2_with fail;go_ret;exact ⟨rfl,HT5.out⟩
theorem Qvz {t:Tk} (H:Rd B g L w R p d l h 0 q) (ht:L[p]? =some t) (hs:t.kind≠1):
  Calls prog 127 #[.pointer (some ⟨g,0,none⟩)] w λen w'=>en= .returned (.string ⟨#[]⟩)/\Turned B g L w R p d l h 8 (t.place:Int) w':=by
 have HH:=Qa H;have hI:=Qaz H ht;have hk:((t.kind:Int) != 1)=true:=by simp;omega
 obtain ⟨X,hX⟩:=Qb (⟨t.text.toArray⟩:ByteArray);obtain ⟨N,hN⟩:=Qb (t.n:Int);obtain ⟨P,hP⟩:=Qb (t.place:Int);obtain ⟨K,hK⟩:=Qb (t.kind:Int);rw [<-hN,<-hP,<-hX,<-hK]at hI;rw [<-hK]at hk;rw [<-hP];have HI:=Qa hI;clear H ht hs hI hN hP hX hK;go_enter func127,ntmps127;rw [Qz 2];go_wp2_with fail;refine HI.out.mono ?_;rintro en w1 ⟨rfl,hb1⟩;have HB1:=Qa hb1;clear hb1;go_wp2_with fail;obtain ⟨W,hW⟩:=Qb (w1.alloc (.cells #[.int .i64 K,.string X,.int .i64 N,.int .i64 P] 69));obtain ⟨G,hG⟩:=Qb w1.heap.size;have HG:Hid (Held W G 69 #[.int .i64 K,.string X,.int .i64 N,.int .i64 P]):=by rw [hW,hG];exact Held.new _ _ _
 have HB2:Hid (Below w.heap.size w W):=by rw [hW];exact HB1.out.alloc HB1.out.size _
 rw [<-hW,<-hG];clear hW hG;have z0:=HG.out.t0;have z3:=HG.out.t3;refine Qn ?_;go_wp2_with fail;refine (Qh6 8 P (by decide) (HH.out.below HB2.out)).mono ?_;rintro en w3 ⟨⟨v,rfl⟩,hb3⟩;have HB3:=Qa ((Turned.of_below HH.out HB2.out).then hb3);clear hb3;go_wp2_with fail;go_ret;exact ⟨rfl,HB3.out⟩
theorem Wau (H:Rd B g L w R p d l h e q) (he:e≠0):
  Calls prog 127 #[.pointer (some ⟨g,0,none⟩)] w λen w'=>en= .returned (.string ⟨#[]⟩)/\Below w.heap.size w w':=by
 have HH:=Qa H;have HE:=Qa he;obtain ⟨t,ht,_⟩:=Qd4 H.here;have hI:=Qaz H ht;obtain ⟨X,hX⟩:=Qb (⟨t.text.toArray⟩:ByteArray);obtain ⟨N,hN⟩:=Qb (t.n:Int);obtain ⟨P,hP⟩:=Qb (t.place:Int);obtain ⟨K,hK⟩:=Qb (t.kind:Int);rw [<-hN,<-hP,<-hX,<-hK]at hI;have HI:=Qa hI;clear H ht he hI hN hP hX hK;go_enter func127,ntmps127;rw [Qz 2];go_wp2_with fail;refine HI.out.mono ?_;rintro en w1 ⟨rfl,hb1⟩;have HB1:=Qa hb1;clear hb1;go_wp2_with fail;obtain ⟨W,hW⟩:=Qb (w1.alloc (.cells #[.int .i64 K,.string X,.int .i64 N,.int .i64 P] 69));obtain ⟨G,hG⟩:=Qb w1.heap.size;have HG:Hid (Held W G 69 #[.int .i64 K,.string X,.int .i64 N,.int .i64 P]):=by rw [hW,hG];exact Held.new _ _ _
 have HB2:Hid (Below w.heap.size w W):=by rw [hW];exact HB1.out.alloc HB1.out.size _
 rw [<-hW,<-hG];clear hW hG;have z0:=HG.out.t0;have z3:=HG.out.t3;refine Qn ?_;by_cases hk1:K=1
 ·have hk:(K != 1)=false:=by simpa using hk1
  clear hk1;go_wp2_with fail;refine (Qqv (HH.out.below HB2.out) HE.out).mono ?_;rintro en w2 ⟨rfl,hb2⟩;have HG2:=Qa (HG.out.since hb2);have HB3:=Qa (Z4 HB2.out hb2);clear hb2 z0 z3;have z3:=HG2.out.t3;go_wp2_with fail;refine (Qhh 8 P (HH.out.below HB3.out) HE.out (by decide)).mono ?_;rintro en w3 ⟨⟨v,rfl⟩,hw3⟩;rw [hw3];clear hw3 w3;go_wp2_with fail;go_ret;exact ⟨rfl,HB3.out⟩
 ·have hk:(K != 1)=true:=by simpa using hk1
  clear hk1;go_wp2_with fail;refine (Qhh 8 P (HH.out.below HB2.out) HE.out (by decide)).mono ?_;rintro en w3 ⟨⟨v,rfl⟩,hw3⟩;rw [hw3];clear hw3 w3;go_wp2_with fail;go_ret;exact ⟨rfl,HB2.out⟩
theorem Rd.depth (H:Rd B g L w R p d l h e q) (d':Int) (u:Value) (hu:u= .int .i64 d'):Turned B g L w R p d' l h e q (w.setCell ⟨g,2,none⟩ u):=by subst hu;exact ⟨H.store rfl H.here H.few,Fr.store (B:=B) (L:=L) 2 _⟩
theorem Wrn (at_:Int) (H:Rd B g L w R p d l h 0 q) (hd: -1000000<=d/\d<200):
  Calls prog 129 #[.pointer (some ⟨g,0,none⟩),.int .i64 at_] w λen w'=>en= .returned (.bool true)/\Turned B g L w R p (d+1) l h 0 q w':=by
 have c2:=H.c2;have f2:=H.box.frozen 2;obtain ⟨hd1,hd2⟩:=hd;have HH:=Qa H;clear H;have hd3: ¬(200<d+1):=by omega
 go_enter func129,ntmps129;rw [Qz 4];go_wp2_with fail;have HT:=HH.out.depth (d+1) _ rfl;obtain ⟨W,hW⟩:=Qb (w.setCell ⟨g,2,none⟩ (.int .i64 (d+1)));rw [<-hW]at HT ⊢;have c2':=HT.1.c2;have F4:=Qa HT;clear HT hW c2 f2;refine Qn ?_;go_wp2_with fail;refine (Ql8 F4.out.1).mono ?_;rintro en w1 ⟨rfl,hw1⟩;rw [hw1];clear hw1 w1;go_wp2_with fail;go_ret;exact ⟨rfl,F4.out⟩
theorem Wq1 (at_:Int) (H:Rd B g L w R p d l h 0 q) (hd:200<=d/\d<=1000000):
  Calls prog 129 #[.pointer (some ⟨g,0,none⟩),.int .i64 at_] w λen w'=>en= .returned (.bool false)/\Turned B g L w R p (d+1) l h 4 at_ w':=by
 have c2:=H.c2;have f2:=H.box.frozen 2;obtain ⟨hd1,hd2⟩:=hd;have HH:=Qa H;clear H;have hd3:200<d+1:=by omega
 go_enter func129,ntmps129;rw [Qz 4];go_wp2_with fail;have HT:=HH.out.depth (d+1) _ rfl;obtain ⟨W,hW⟩:=Qb (w.setCell ⟨g,2,none⟩ (.int .i64 (d+1)));rw [<-hW]at HT ⊢;have c2':=HT.1.c2;have F4:=Qa HT;clear HT hW c2 f2;refine Qn ?_;go_wp2_with fail;refine (Qh6 4 at_ (by decide) F4.out.1).mono ?_;rintro en w1 ⟨⟨v,rfl⟩,hb1⟩;have HB1:=Qa (F4.out.then hb1);clear hb1;go_wp2_with fail;refine (Qe3 HB1.out.1 (by decide)).mono ?_;rintro en w2 ⟨rfl,hw2⟩;rw [hw2];clear hw2 w2;go_wp2_with fail;go_ret;exact ⟨rfl,HB1.out⟩
theorem Wnx (at_:Int) (H:Rd B g L w R p d l h e q) (hd: -1000000<=d/\d<=1000000) (he:e≠0):
  Calls prog 129 #[.pointer (some ⟨g,0,none⟩),.int .i64 at_] w λen w'=>en= .returned (.bool false)/\Turned B g L w R p (d+1) l h e q w':=by
 have c2:=H.c2;have f2:=H.box.frozen 2;obtain ⟨hd1,hd2⟩:=hd;have HH:=Qa H;have HE:=Qa he;clear H he;go_enter func129,ntmps129;rw [Qz 4];go_wp2_with fail;have HT:=HH.out.depth (d+1) _ rfl;obtain ⟨W,hW⟩:=Qb (w.setCell ⟨g,2,none⟩ (.int .i64 (d+1)));rw [<-hW]at HT ⊢;have c2':=HT.1.c2;have F4:=Qa HT;clear HT hW c2 f2;refine Qn ?_;by_cases hd3:200<d+1
 ·go_wp2_with fail;refine (Qhh 4 at_ F4.out.1 HE.out (by decide)).mono ?_;rintro en w1 ⟨⟨v,rfl⟩,hw1⟩;rw [hw1];clear hw1 w1;go_wp2_with fail;refine (Qe3 F4.out.1 HE.out).mono ?_;rintro en w2 ⟨rfl,hw2⟩;rw [hw2];clear hw2 w2;go_wp2_with fail;go_ret;exact ⟨rfl,F4.out⟩
 ·go_wp2_with fail;refine (Qe3 F4.out.1 HE.out).mono ?_;rintro en w2 ⟨rfl,hw2⟩;rw [hw2];clear hw2 w2;go_wp2_with fail;go_ret;exact ⟨rfl,F4.out⟩
end
end Go.Proofs.YtdncpkkhkbijfaaGreatDoor
