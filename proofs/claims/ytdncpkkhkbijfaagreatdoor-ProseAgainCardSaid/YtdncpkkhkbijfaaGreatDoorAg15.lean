import Derived.Test.YtdncpkkhkbijfaaGreatDoorAg14
open Go.Proofs.Tryz
set_option linter.all false
set_option maxHeartbeats 0
set_option maxRecDepth 100000
namespace Go.Proofs.YtdncpkkhkbijfaaGreatDoor
section
variable {o:Except Qq PS}{d:Nat}{v u:Out}{b:List UInt8}{s:PS}
def F3:Except Qq PS->Except Qq PS
 | .ok s=>if Yt s.tok=0 then .error (8,s.tok.place)else .ok s.next
 | .error f=>.error f
def Lv:Except Qq PS->Nat
 | .ok s=>Yt s.tok
 | .error f=>0
theorem Qd5 (h:Yt s.tok=0):F3 (.ok s)= .error (8,s.tok.place):=Qk h
theorem U4 (h:Yt s.tok≠0):F3 (.ok s)= .ok s.next:=Qd h
theorem Zi {t:Tk} {a:List UInt8} (h:sees t a=true) (hne:a≠b):sees t b=false:=by unfold sees at h ⊢;simp only [Yo,beq_iff_eq]at h;rw [h.2];simp [hne]
theorem Qu1 {t:Tk} (h:Yt t≠0):t.kind≠0:=by
 unfold Yt at h;split at h
 ·rename_i g;exact Dc g
 ·split at h
  ·rename_i g;exact Dc g
  ·split at h
   ·rename_i g;exact Dc g
   ·exact absurd rfl h
theorem Does.kind {G:Nat->PS->Nat->Option Out} (h:Does (F3 o) (G (Lv o)) v):Does o (λs n=>V3 s (λk s1=>G k s1 n)) v:=by
 cases o with
 |error f=>exact h
 |ok s=>
  by_cases hb:Yt s.tok=0
  ·rw [Qd5 hb]at h;rw [show v=_ from h];exact Ev.Wd8 (f:=λn k s1=>G k s1 n) hb
  ·rw [U4 hb]at h;exact Ev.kind (f:=λn k s1=>G k s1 n) hb h
theorem Qc.kind {n m:Nat} (h:Qc o (n+1) (m+1)):Qc (F3 o) n m:=by
 cases o with
 |error f=>exact Qc.err
 |ok s=>
  by_cases hb:Yt s.tok=0
  ·rw [Qd5 hb];exact Qc.err
  ·rw [U4 hb];intro s' e;injection e with e
   subst e;have h1:=h s rfl;have h2:=Cr (Qu1 hb);have h3:s.next.l=s.l:=rfl;rw [h3];exact ⟨by omega,by omega⟩
theorem Qc.Qjb {n m:Nat} (h:Qc o n m):Qc (F3 o) n m:=by
 cases o with
 |error f=>exact Qc.err
 |ok s=>
  by_cases hb:Yt s.tok=0
  ·rw [Qd5 hb];exact Qc.err
  ·have h1:=h s rfl;have h2:=Cr (Qu1 hb);exact ((Qc.kind (n:=n-1) (m:=m-1) (h.mono (by omega) (by omega))).mono (by omega) (by omega))
theorem Qc.next {n m:Nat} (h:Qc (.ok s) (n+1) (m+1)) (hb:s.is b=true):Qc (.ok s.next) n m:=by have:=Qc.need (b:=b) h;rw [Oq hb]at this;exact this
theorem Qc.Fh {n m:Nat} (h:Qc (.ok s) n m) (hb:s.is b=true):Qc (.ok s.next) (n-1) (m-1):=by have h1:=h s rfl;have h2:=Ve hb;exact Qc.next (h.mono (by omega) (by omega)) hb
theorem Does.Qmj {X Y:PS->Nat->Option Out} (hs:o= .ok s) (hb:s.is b=true) (h:Does (.ok s.next) X u):Does o (λs n=>if s.is b then X s.next n else Y s n) u:=by subst hs;exact Ev.Pb (F:=λn=>X s.next n) (G:=λn=>Y s n) hb h
theorem Does.Qm8 {X Y:PS->Nat->Option Out} (hs:o= .ok s) (hb:s.is b=true) (h:Does (.ok s) X u):Does o (λs n=>if s.is b then X s n else Y s n) u:=by subst hs;exact Ev.Pb (F:=λn=>X s n) (G:=λn=>Y s n) hb h
theorem Does.O4 {X Y:PS->Nat->Option Out} (hb: ∀s,o= .ok s->s.is b=false) (h:Does o Y u):Does o (λs n=>if s.is b then X s n else Y s n) u:=by
 cases o with
 |error f=>exact h
 |ok s=>exact Ev.Gi (F:=λn=>X s n) (G:=λn=>Y s n) (by rw [hb s rfl];decide) h
theorem Does.left {m:Pm} (hm: ∀acc,m≠ .prog acc) (h:Does o (λs n=>Qac n m d s) u) (n k:Nat) (hl:Qc o n k):Qc (toO u) n k:=by
 cases o with
 |error f=>rw [show u=_ from h];exact Qc.err
 |ok s=>
  match u,h with
  | .error f,_=>exact Qc.err
  | .ok (p,s1),h=>
   intro s' e;injection e with e
   subst e;obtain ⟨n0,hn⟩:=h;have h1:=Qs.left hm ⟨n0,hn n0 (Qh _)⟩;have h2:=hl s rfl;have h3:=h1.all;have h4:=h1.toks;exact ⟨by omega,by omega⟩
theorem Does.to_preads {m:Pm} (h:Does (.ok s) (λs n=>Qac n m d s) u):Qs m d s u:=by obtain ⟨n,hn⟩:=h;exact ⟨n,hn n (Qh _)⟩
theorem Qxl {t:Tk} (h:sees t Jj=true):Xc t=1:=Qk h
theorem Q47 {t:Tk} (h:sees t Kc=true):Xc t=2:=by unfold Xc;rw [Zi h (show _≠Jj by decide),h];rfl
theorem Q23 {t:Tk} (h:sees t Ju=true):Xc t=3:=by unfold Xc;rw [Zi h (show _≠Jj by decide),Zi h (show _≠Kc by decide),h];rfl
theorem Qwu {t:Tk} (h:sees t Jy=true):Xc t=4:=by unfold Xc;rw [Zi h (show _≠Jj by decide),Zi h (show _≠Kc by decide),Zi h (show _≠Ju by decide),h];rfl
theorem Q01 {t:Tk} (h:sees t Ap=true):Xc t=5:=by unfold Xc;rw [Zi h (show _≠Jj by decide),Zi h (show _≠Kc by decide),Zi h (show _≠Ju by decide),Zi h (show _≠Jy by decide),h];rfl
theorem Q77 {t:Tk} (h:sees t Bp=true):Xc t=6:=by unfold Xc;rw [Zi h (show _≠Jj by decide),Zi h (show _≠Kc by decide),Zi h (show _≠Ju by decide),Zi h (show _≠Jy by decide),Zi h (show _≠Ap by decide),h];rfl
theorem Q4k {t:Tk} (h:sees t Ck=true):Xc t=7:=by unfold Xc;rw [Zi h (show _≠Jj by decide),Zi h (show _≠Kc by decide),Zi h (show _≠Ju by decide),Zi h (show _≠Jy by decide),Zi h (show _≠Ap by decide),Zi h (show _≠Bp by decide),h];rfl
theorem Qy0 {t:Tk} (h:sees t Ae=true):Xc t=8:=by unfold Xc;rw [Zi h (show _≠Jj by decide),Zi h (show _≠Kc by decide),Zi h (show _≠Ju by decide),Zi h (show _≠Jy by decide),Zi h (show _≠Ap by decide),Zi h (show _≠Bp by decide),Zi h (show _≠Ck by decide),h];rfl
def Fw (i:Nat):List UInt8:=[Jj,Ae,Ck,Kc,Ju,Jy,Ap,Bp].getD i []
theorem Q5w (h: ∀j,j<8->s.is (Fw j)=false):Xc s.tok=0:=by have h0:sees s.tok Jj=false:=h 0 (by decide);have h1:sees s.tok Ae=false:=h 1 (by decide);have h2:sees s.tok Ck=false:=h 2 (by decide);have h3:sees s.tok Kc=false:=h 3 (by decide);have h4:sees s.tok Ju=false:=h 4 (by decide);have h5:sees s.tok Jy=false:=h 5 (by decide);have h6:sees s.tok Ap=false:=h 6 (by decide);have h7:sees s.tok Bp=false:=h 7 (by decide);unfold Xc;rw [h0,h1,h2,h3,h4,h5,h6,h7];rfl
def Te (i:Nat):List UInt8:=[[],Qb7,Qdz,Qfe].getD i []
theorem Q2z (h: ∀j,1<=j->j<4->s.is (Te j)=false):Yt s.tok=0:=by have h1:sees s.tok Qb7=false:=h 1 (by decide) (by decide);have h2:sees s.tok Qdz=false:=h 2 (by decide) (by decide);have h3:sees s.tok Qfe=false:=h 3 (by decide) (by decide);unfold Yt;rw [h1,h2,h3];rfl
theorem Qfd {i:Nat} (h1:1<=i) (h4:i<4) (h:s.is (Te i)=true):Yt s.tok=i:=by
 have hh:sees s.tok (Te i)=true:=h;unfold Yt
 match i,h1,h4,hh with
 | 1,_,_,hh=>rw [show sees s.tok Qb7=true from hh];rfl
 | 2,_,_,hh=>rw [Zi hh (show _≠Qb7 by decide),show sees s.tok Qdz=true from hh];rfl
 | 3,_,_,hh=>rw [Zi hh (show _≠Qb7 by decide),Zi hh (show _≠Qdz by decide),show sees s.tok Qfe=true from hh];rfl
theorem Rn {X:Nat->Bool} {l i:Nat} (h: ∀j,l<=j->j<i->X j=false) (hi:X i=false): ∀j,l<=j->j<i+1->X j=false:=by
 intro j h1 h2;rcases V7 j i with h3 |h3
 ·exact h j h1 h3
 ·have:j=i:=by omega
  rw [this];exact hi
def Om (v:Out):Prop:= ∀l s',v= .ok (l,s')->0<=hd1 l
theorem Qle {e:Qq}:Om (.error e):=λl s' h=>by cases h
theorem Oc {x:Nd} (h:some (lay x s)=some v):Om v:=by
 injection h with h
 subst h;unfold lay;split
 ·exact Qle
 ·intro l s' e;injection e with e
  injection e with e1 e2
  subst e1;show (0:Int)<=((s.l.length:Nat):Int);omega
theorem M7 {f:PS->Option Out} (h:Qm b s f=some v) (g: ∀s1,f s1=some v->Om v):Om v:=by
 unfold Qm at h;split at h
 ·exact g _ h
 ·injection h with h;subst h;exact Qle
theorem Qqd {f:ByteArray->Nat->PS->Option Out} (h:Xf s f=some v) (g: ∀x y s1,f x y s1=some v->Om v):Om v:=by
 unfold Xf at h;split at h
 ·exact g _ _ _ h
 ·injection h with h;subst h;exact Qle
theorem Qdo {F:Option Out} {f:List Int->PS->Option Out} (h:Out.go F f=some v) (g: ∀p s1,f p s1=some v->Om v):Om v:=by
 rcases go_ok h with ⟨e,h1,rfl⟩ |⟨p,s1,h1,h2⟩
 ·exact Qle
 ·exact g _ _ h2
theorem Qan {n:Nat} {f:Int->PS->Option Out} (h:Wy n d s f=some v) (g: ∀a s1,f a s1=some v->Om v):Om v:=Qdo h (λp s1 h=>g _ _ h)
theorem Wob {n:Nat} (h:Qac n .stmt d s=some v):Om v:=by
 cases n with
 |zero=>cases h
 |succ n=>
  rw [Qac]at h;split at h
  ·exact Qqd h λ_ _ _ h=>M7 h λ_ h=>Qan h λ_ _ h=>M7 h λ_ h=>Oc h
  ·exact Qqd h λ_ _ _ h=>M7 h λ_ h=>Qan h λ_ _ h=>M7 h λ_ h=>Qan h λ_ _ h=>Qdo h λ_ _ h=>Oc h
  ·exact M7 h λ_ h=>Oc h
  ·exact M7 h λ_ h=>Oc h
  ·exact Qan h λ_ _ h=>M7 h λ_ h=>Oc h
  ·exact Qan h λ_ _ h=>M7 h λ_ h=>Oc h
  ·exact Qan h λ_ _ h=>Qdo h λ_ _ h=>Oc h
  ·refine Qan h λ_ _ h=>Qdo h λ_ _ h=> ?_;split at h
   ·exact Qdo h λ_ _ h=>Oc h
   ·exact Oc h
  ·refine Qqd h λ_ _ _ h=> ?_;split at h
   ·exact Qdo h λ_ _ h=>M7 h λ_ h=>Oc h
   ·split at h
    ·exact Qdo h λ_ _ h=>M7 h λ_ h=>Qan h λ_ _ h=>M7 h λ_ h=>Oc h
    ·exact M7 h λ_ h=>Qan h λ_ _ h=>M7 h λ_ h=>Oc h
theorem Does.Wk5 (h:Does o (λs n=>Qac n .stmt d s) u):Om u:=by
 cases o with
 |error f=>rw [show u=_ from h];exact Qle
 |ok s=>obtain ⟨n,hn⟩:=h;exact Wob (hn n (Qh _))
theorem Does.st {F:PS->Nat->Option Out} (hE: ∀s,o= .ok s-> ∀v,Ev (F s) v->Qs .stmt d s v) (h:Does o F u):Does o (λs n=>Qac n .stmt d s) u:=by
 cases o with
 |error f=>exact h
 |ok s=>exact (hE s rfl u h).ev
end
section
open Go.RowKit
variable {B g:Nat}{L:List Tk}{w:World}{R:Bx}{d:Nat}{o:Except Qq PS}{p:Nat}{dd e q:Int}{l:List Nd}{h:List Nat}
theorem Pz (x a:Nat) (hx:x≠0) (H:Qw B g L w R d o):
  Calls prog 33 #[.pointer (some ⟨g,0,none⟩),.int .i64 (x:Int),.int .i64 (a:Int)] w λen w'=>(∃v,en= .returned v)/\Qw B g L w' R d (Lu x a o)/\Fr g w w' R R:=by
 cases o with
 |ok s=>
  obtain ⟨p,l,H,hr,hl⟩:=H;have c5:=H.c5;have c6:=H.c6;have f5:=H.box.frozen 5;have f6:=H.box.frozen 6;have HH:=Qa H;have HX:=Qa hx;clear H hx;go_enter func33,ntmps33;go_wp2_with fail;go_end0;refine ⟨⟨_,rfl⟩,⟨p,l,s.h,(d:Int),?_,HX.out⟩,?_⟩
  ·have h1:=HH.out.store (i:=5) (u:=.int .i64 (x:Int)) (e':=(x:Int)) (q':=0) (d':=(d:Int)) (p':=p) rfl HH.out.here HH.out.few;exact h1.store (i:=6) (u:=.int .i64 (a:Int)) (e':=(x:Int)) (q':=(a:Int)) (d':=(d:Int)) (p':=p) rfl HH.out.here HH.out.few
  ·exact (Fr.store (B:=B) (L:=L) 5 _).trans (Fr.store (B:=B) (L:=L) 6 _)
 |error f=>
  obtain ⟨p,l,h,dd,H,hf⟩:=H;have c5:=H.c5;have hfb:((f.1:Int)==0)=false:=by simp;omega
  have HH:=Qa H;have HF:=Qa hf;clear H hf;go_enter func33,ntmps33;go_wp2_with fail;go_end0;exact ⟨⟨_,rfl⟩,⟨p,l,h,dd,HH.out,HF.out⟩,Fr.of_below R (Below.refl _ _)⟩
theorem Qs0 {t:Tk} (H:Km B g L w R p dd l h e q) (ht:L[p]? =some t):
  Calls prog 31 #[.pointer (some ⟨g,0,none⟩)] w λen w'=>en= .returned (.agg #[.int .i64 (t.kind:Int),.string ⟨t.text.toArray⟩,.int .i64 (t.n:Int),.int .i64 (t.place:Int)])/\Below w.heap.size w w':=by
 have hp:=H.here;have hm:=H.many;obtain ⟨W,hW⟩:=Qb (w.alloc (.cells #[.int .i64 0,.string ⟨#[]⟩,.int .i64 0,.int .i64 0] 69));have HB:Hid (Below w.heap.size w W):=by rw [hW];exact Qag
 obtain ⟨G,hG⟩:=Qb w.heap.size;have HG:Hid (Held W G 69 #[.int .i64 0,.string ⟨#[]⟩,.int .i64 0,.int .i64 0]):=by rw [hW,hG];exact Held.new _ _ _
 have HW:=H.below HB.out;obtain ⟨y0,y1,y2,y3⟩:=HW.toks.at_ ht;rw [Bq]at y0 y1 y2 y3;have c0:=HW.c0;have c1:=HW.c1;have z0:=HG.out.t0;have z1:=HG.out.t1;have z2:=HG.out.t2;have z3:=HG.out.t3;have f0:=HG.out.frozen 0;have f1:=HG.out.frozen 1;have f2:=HG.out.frozen 2;have f3:=HG.out.frozen 3;obtain ⟨n,hn⟩:=Qb L.length;rw [<-hn]at hp hm c0;obtain ⟨S,hS⟩:=Qb (⟨t.text.toArray⟩:ByteArray);rw [<-hS]at y1 ⊢;obtain ⟨tb,htb⟩:=Qb R.tb;rw [<-htb]at y0 y1 y2 y3 c0;have Fa:=Qa hG;have hpi:(p:Int)<(n:Int):=by omega
 clear H HW ht hn hS htb hG;go_enter func31,ntmps31;go_wp2_with fail;rw [<-hW,<-Fa.out];clear hW;go_still_tail 10,(by kernel_rfl);change wpList _ _ _ _ _ W.drew;go_wp2_with fail;obtain ⟨W',hW',hH,hBel⟩:=Q43 HG.out HB.out (by rw [Fa.out];exact Qh _) (.int .i64 (t.kind:Int)) (.string S) (.int .i64 (t.n:Int)) (.int .i64 (t.place:Int));rw [<-hW'];have x0:W'.drew.cell? ⟨G,0,none⟩=some (.int .i64 (t.kind:Int)):=hH.t0;have x1:W'.drew.cell? ⟨G,1,none⟩=some (.string S):=hH.t1;have x2:W'.drew.cell? ⟨G,2,none⟩=some (.int .i64 (t.n:Int)):=hH.t2;have x3:W'.drew.cell? ⟨G,3,none⟩=some (.int .i64 (t.place:Int)):=hH.t3;clear hW' hH;exact bodyPost_ret (v:=.agg #[.int .i64 (t.kind:Int),.string S,.int .i64 (t.n:Int),.int .i64 (t.place:Int)]) (by simp [results,results31,go_sem,x0,x1,x2,x3]) rfl ⟨rfl,hBel.drew⟩
theorem Qwq (H:Qw B g L w R d o): ∃t:Tk,(∀s,o= .ok s->t=s.tok)/\
  Calls prog 31 #[.pointer (some ⟨g,0,none⟩)] w λen w'=>en= .returned (.agg #[.int .i64 (t.kind:Int),.string ⟨t.text.toArray⟩,.int .i64 (t.n:Int),.int .i64 (t.place:Int)])/\Below w.heap.size w w':=by
 cases o with
 |ok s=>
  obtain ⟨p,l,H,_,_,ht,_⟩:=Zu.tok H;exact ⟨s.tok,λs' e=>(by injection e with e;subst e;rfl),Qs0 H ht⟩
 |error f=>
  obtain ⟨p,l,h,dd,H,_⟩:=H;obtain ⟨t,ht,_⟩:=Qd4 H.here;exact ⟨t,λs' e=>(by cases e),Qs0 H ht⟩
theorem Wk1 {t:Tk} (b:List UInt8) (H:Km B g L w R p dd l h 0 q) (ht:L[p]? =some t):
  Calls prog 70 #[.pointer (some ⟨g,0,none⟩),.string ⟨b.toArray⟩] w λen w'=>en= .returned (.bool (sees t b))/\Below w.heap.size w w':=by
 have HN:Hid (∀w',Below w.heap.size w w'->Calls prog 31 #[.pointer (some ⟨g,0,none⟩)] w' λen w''=>en= .returned (.agg #[.int .i64 (t.kind:Int),.string ⟨t.text.toArray⟩,.int .i64 (t.n:Int),.int .i64 (t.place:Int)])/\Below w.heap.size w w''):=by intro w' hb;exact (Qs0 (H.below hb) ht).mono λen w'' ⟨h1,h2⟩=>⟨h1,hb.trans (h2.mono hb.size)⟩
 have c5:=H.c5;have HB0:Hid (Below w.heap.size w w):=Below.refl _ _;obtain ⟨S,hS⟩:=Qb (⟨t.text.toArray⟩:ByteArray);obtain ⟨X,hX⟩:=Qb (⟨b.toArray⟩:ByteArray);have hs2:(S.toList==X.toList)=(t.text==b):=by rw [hS,hX];exact Qou _ _
 have hk3:((t.kind:Int)==3)=(t.kind==3):=by rw [Bool.eq_iff_iff];simp;omega
 have hk4:((t.kind:Int)==4)=(t.kind==4):=by rw [Bool.eq_iff_iff];simp;omega
 have Xp:=Xm;have hf0: ∀(a b c x:Value) (w:World),(Instr.field 69 (.agg #[a,b,c,x]) 0).run prog w= .ok a w:=λ_ _ _ _ _=>by kernel_rfl
 have hf1: ∀(a b c x:Value) (w:World),(Instr.field 69 (.agg #[a,b,c,x]) 1).run prog w= .ok b w:=λ_ _ _ _ _=>by kernel_rfl
 rw [<-hS]at HN;rw [<-hX];clear hS hX H ht;obtain ⟨K,hK⟩:=Qb (t.kind:Int);obtain ⟨N,hN⟩:=Qb (t.n:Int);obtain ⟨P,hP⟩:=Qb (t.place:Int);rw [<-hK,<-hN,<-hP]at HN;rw [<-hK]at hk3 hk4;have M0:Hid (sees t b=((t.kind==3||t.kind==4)&&t.text==b)):=rfl;obtain ⟨V,hV⟩:=Qb (sees t b);rw [<-hV]at M0 ⊢;clear hK hN hP hV;obtain ⟨b3,hb3⟩:=Qb (t.kind==3);obtain ⟨b4,hb4⟩:=Qb (t.kind==4);obtain ⟨bs,hbs⟩:=Qb (t.text==b);rw [<-hb3,<-hb4,<-hbs]at M0;rw [<-hb3]at hk3;rw [<-hb4]at hk4;rw [<-hbs]at hs2;clear hb3 hb4 hbs;go_enter func70,ntmps70;go_wp2_with fail;refine (HN.out w HB0.out).mono ?_;rintro en w1 ⟨rfl,hb1⟩;have HB1:=Qa hb1;clear hb1;cases b3 with
 |true=>
  go_wp2_with fail;refine (HN.out w1 HB1.out).mono ?_;rintro en w2 ⟨rfl,hb2⟩;have HB2:=Qa hb2;clear hb2;cases bs<;>(go_wp2_with fail;go_ret;exact ⟨by rw [M0.out];rfl,HB2.out⟩)
 |false=>
  go_wp2_with fail;refine (HN.out w1 HB1.out).mono ?_;rintro en w2 ⟨rfl,hb2⟩;have HB2:=Qa hb2;clear hb2;cases b4 with
  |false=>go_wp2_with fail;go_ret;exact ⟨by rw [M0.out];rfl,HB2.out⟩
  |true=>
   go_wp2_with fail;refine (HN.out w2 HB2.out).mono ?_;rintro en w3 ⟨rfl,hb3⟩;have HB3:=Qa hb3;clear hb3;cases bs<;>(go_wp2_with fail;go_ret;exact ⟨by rw [M0.out];rfl,HB3.out⟩)
theorem Wme {f:Qq} (b:List UInt8) (H:Eu B g L w R f):
  Calls prog 70 #[.pointer (some ⟨g,0,none⟩),.string ⟨b.toArray⟩] w λen w'=>en= .returned (.bool false)/\w'=w:=by
 obtain ⟨p,l,h,dd,H,hf⟩:=H;have c5:=H.c5;have hfb:((f.1:Int)==0)=false:=by simp;omega
 clear H hf;go_enter func70,ntmps70;go_wp2_with fail;go_ret;exact ⟨rfl,rfl⟩
theorem Pj (b:List UInt8) (H:Qw B g L w R d o):
  Calls prog 70 #[.pointer (some ⟨g,0,none⟩),.string ⟨b.toArray⟩] w λen w'=> ∃c:Bool,en= .returned (.bool c)/\Below w.heap.size w w'/\((c=true/\ ∃s,o= .ok s/\s.is b=true)\/(c=false/\ ∀s,o= .ok s->s.is b=false)):=by
 cases o with
 |ok s=>
  obtain ⟨p,l,H,_,_,ht,_⟩:=Zu.tok H;refine (Wk1 b H ht).mono λen w' ⟨h1,h2⟩=>⟨s.is b,h1,h2,?_⟩;cases hb:s.is b with
  |true=>exact .inl ⟨rfl,s,rfl,hb⟩
  |false=>exact .inr ⟨rfl,λs' e=>by injection e with e;subst e;exact hb⟩
 |error f=>exact (Wme b H).mono λen w' ⟨h1,h2⟩=>⟨false,h1,by rw [h2];exact Below.refl _ _,.inr ⟨rfl,λs' e=>by cases e⟩⟩
theorem Zu.take {s:PS} (H:Zu B g L w R d s) (hk:s.tok.kind≠0): ∃p:Nat,w.cell? ⟨g,1,none⟩=Option.some (.int .i64 (p:Int))/\w.frozen? ⟨g,1,none⟩=false/\p<100000/\Zu B g L (w.setCell ⟨g,1,none⟩ (.int .i64 ((p:Int)+1))) R d s.next/\Fr g w (w.setCell ⟨g,1,none⟩ (.int .i64 ((p:Int)+1))) R R:=by obtain ⟨p,l,H,hr,hl,ht,hr2⟩:=Zu.tok H;have hfin:=H.fin p s.tok ht hk;have hm:=H.many;refine ⟨p,H.c1,H.box.frozen 1,by omega,⟨p+1,l,?_,hr2,hl⟩,Fr.store (B:=B) (L:=L) 1 _⟩;have:=H.store (i:=1) (u:=.int .i64 ((p:Int)+1)) (e':=0) (q':=0) (d':=(d:Int)) (p':=p+1) rfl hfin (by have:=H.few;omega);exact this
theorem Ub (b:List UInt8) (H:Qw B g L w R d o):
  Calls prog 69 #[.pointer (some ⟨g,0,none⟩),.string ⟨b.toArray⟩] w λen w'=> ∃(c:Bool) (o':Except Qq PS),en= .returned (.bool c)/\Qw B g L w' R d o'/\Fr g w w' R R/\
   ((c=true/\ ∃s,o= .ok s/\s.is b=true/\o'= .ok s.next)\/(c=false/\o'=o/\ ∀s,o= .ok s->s.is b=false)):=by
 have HA:=Qa H;clear H;go_enter func69,ntmps69;go_wp2_with fail;refine (Pj b HA.out).mono ?_;rintro en w1 ⟨c,rfl,hb,hc⟩;have HB:=Qa hb;have HA1:=Qa (HA.out.below hb);clear hb;rcases hc with ⟨rfl,s,hs,hb⟩ |⟨rfl,hb⟩
 ·have HS:=Qa hs;have Yx:=Qa hb;have HG:Hid (Zu B g L w1 R d s):=by have:=HA1.out;rw [hs]at this;exact this
  obtain ⟨p,c1,f1,hp,hg,hf⟩:=HG.out.take (Dc hb);have Vu:=Qa hg;have HF1:=Qa hf;clear hs hb hg hf;go_wp2_with fail;go_ret;exact ⟨true,.ok s.next,rfl,Vu.out,(Fr.of_below R HB.out).trans HF1.out,.inl ⟨rfl,s,HS.out,Yx.out,rfl⟩⟩
 ·have Yx:=Qa hb;clear hb;go_wp2_with fail;go_ret;exact ⟨false,o,rfl,HA1.out,Fr.of_below R HB.out,.inr ⟨rfl,rfl,Yx.out⟩⟩
theorem Kr (b:List UInt8) (H:Qw B g L w R d o):
  Calls prog 32 #[.pointer (some ⟨g,0,none⟩),.string ⟨b.toArray⟩] w λen w'=>(∃v,en= .returned v)/\Qw B g L w' R d (Yv b o)/\Fr g w w' R R:=by
 have HA:=Qa H;have Xp:=Xm;clear H;go_enter func32,ntmps32;go_wp2_with fail;refine (Ub b HA.out).mono ?_;rintro en w1 ⟨c,o',rfl,ha,hf,hc⟩;have HA1:=Qa ha;have HF1:=Qa hf;clear ha hf;rcases hc with ⟨rfl,s,hs,hb,ho⟩ |⟨rfl,ho,hb⟩
 ·have HZ:Hid (Yv b o=o'):=by rw [hs,ho];exact Oq hb
  clear hs hb ho;go_wp2_with fail;go_end0;exact ⟨⟨_,rfl⟩,by rw [HZ.out];exact HA1.out,HF1.out⟩
 ·rw [ho]at HA1;have Yx:=Qa hb;obtain ⟨t,ht,hcall⟩:=Qwq HA1.out;have HT:=Qa ht;have HC:=Qa hcall;clear ht hcall ho hb;obtain ⟨K,hK⟩:=Qb (t.kind:Nat);obtain ⟨X,hX⟩:=Qb (⟨t.text.toArray⟩:ByteArray);obtain ⟨N,hN⟩:=Qb (t.n:Nat);obtain ⟨P,hP⟩:=Qb (t.place:Nat);rw [<-hK,<-hX,<-hN,<-hP]at HC;have HP:=Qa hP;clear hK hX hN hP;go_wp2_with fail;refine HC.out.mono ?_;rintro en w2 ⟨rfl,hb2⟩;have HA2:=Qa (HA1.out.below hb2);have O9:=Qa (HF1.out.trans (Fr.of_below R hb2));clear hb2;go_wp2_with fail;refine (Pz 8 P (by decide) HA2.out).mono ?_;rintro en w3 ⟨⟨v,rfl⟩,ha,hf⟩;have HA3:=Qa ha;have HF3:=Qa (O9.out.trans hf);clear ha hf;go_wp2_with fail;go_end0;refine ⟨⟨_,rfl⟩,?_,HF3.out⟩;have h1:=HA3.out;cases o with
  |error f=>exact h1
  |ok s=>rw [Ov (Yx.out s rfl)];have h2:=HT.out s rfl;rw [<-h2,<-HP.out];exact h1
theorem Wms {s:PS} (a:Nat) (H:Zu B g L w R d s) (hd:d<=1000):
  Calls prog 71 #[.pointer (some ⟨g,0,none⟩),.int .i64 (a:Int)] w λen w'=>(∃v,en= .returned v)/\Qw B g L w' R (d+1) (Gy d a (.ok s))/\Fr g w w' R R:=by
 obtain ⟨p,l,H,hr,hl⟩:=H;have c2:=H.c2;have f2:=H.box.frozen 2;obtain ⟨W,hW⟩:=Qb (w.setCell ⟨g,2,none⟩ (.int .i64 ((d:Int)+1)));have hst:=H.store (i:=2) (u:=.int .i64 ((d:Int)+1)) (e':=0) (q':=0) (d':=(d:Int)+1) (p':=p) rfl H.here H.few;rw [<-hW]at hst;have HG:Hid (Zu B g L W R (d+1) s):=⟨p,l,hst,hr,hl⟩;have HF:Hid (Fr g w W R R):=by rw [hW];exact Fr.store (B:=B) (L:=L) 2 _
 have d2:=hst.c2;clear H hst;go_enter func71,ntmps71;rw [Qz 1];by_cases h2:200<=d
 ·have h2i:(200:Int)<(d:Int)+1:=by omega
  go_wp2_with fail;rw [<-hW];clear hW c2 f2;refine Qn ?_;go_wp2_with fail;refine (Pz 4 a (by decide) (show Qw B g L W R (d+1) (.ok s)from HG.out)).mono ?_;rintro en w3 ⟨⟨v,rfl⟩,ha,hf⟩;have HA3:=Qa ha;have HF3:=Qa (HF.out.trans hf);clear ha hf;go_wp2_with fail;go_end0;exact ⟨⟨_,rfl⟩,by rw [Ry h2];exact HA3.out,HF3.out⟩
 ·have h2i: ¬(200:Int)<(d:Int)+1:=by omega
  go_wp2_with fail;rw [<-hW];clear hW c2 f2;refine Qn ?_;go_wp2_with fail;go_end0;exact ⟨⟨_,rfl⟩,by rw [Un h2];exact HG.out,HF.out⟩
end
section
open Go.RowKit
variable {B g:Nat}{L:List Tk}{w:World}{R:Bx}{p d:Nat}{l:List Nd}{h:List Nat}
theorem Qql (W:World) (a b:Nat):(W.drewN a).drewN b=W.drewN (a+b):=by
 cases W;simp [World.drewN,La]
def Wko (B g:Nat) (L:List Tk) (w:World) (R:Bx) (p:Nat) (d:Nat) (l:List Nd) (h:List Nat) (x:Nd) (at0:Nat) (en:Ending) (w':World):Prop:=
 (high h x.kids<=200/\en= .returned (.int .i64 (l.length:Int))/\ ∃R' y,R'.Z=R.Z/\bare y=bare x/\Km B g L w' R' p (d:Int) (l++[y]) (h++[high h x.kids]) 0 0/\Fr g w w' R R')\/
 (200<high h x.kids/\en= .returned (.int .i64 (-1))/\Eu B g L w' R (4,at0)/\Fr g w w' R R)
theorem Whm (x:Nd) (at0:Nat) (H:Km B g L w R p (d:Int) l h 0 0) (hk:Now B w (Y5 x) x.kids) (hoff:(Y5 x).ownBlock=none\/(Y5 x).ownBlock≠R.vh.ownBlock) (hz: ∀k,R.Z k->(Y5 x).ownBlock≠some k) (hval: ∀k∈x.kids,0<=k/\k<(h.length:Int)) (hf:l.length<=p) (hn:x.kids.length<=100000) (ha:x.at_=(at0:Int)):
  Calls prog 38 #[.pointer (some ⟨g,0,none⟩),.agg #[.int .i64 x.kind,.slice x.ka x.kids.length x.kc,.int .i64 x.n,.string x.s,.int .i64 x.at_]] w (Wko B g L w R p d l h x at0):=by
 have hpm:p<100000:=by have:=H.here;have:=H.many;omega
 have hlen:=H.len;have HH:=Qa H;have HK:=Qa hk;have Qdg:=Qa hoff;have Qty:=Qa hz;have Q2t:=Qa hval;have Wd3:=Qa ha;have Qee:=Qa H.low;have HLEN:=Qa hlen;obtain ⟨ka,cap,hkv,hrow,_⟩:=hk.shape;have hka:x.ka=ka:=by unfold Y5 at hkv;injection hkv
 rw [<-hka]at hrow;have Qed:=Qa hrow;obtain ⟨ha',hc,I7,hhr,_⟩:=H.hts.shape;rw [Zr]at I7 hhr;have Rv:=Qa I7;have HHR:=Qa hhr;clear H hk hkv hrow hka I7 hhr hlen hoff hz hval ha;obtain ⟨M,hM⟩:=Qb x.kids.length;rw [<-hM]at hn Qed ⊢;have HM:=Qa hM;clear hM;obtain ⟨hl,hhl⟩:=Qb h.length;rw [<-hhl]at Rv HHR Q2t;have HHL:=Qa hhl;have Qrs:hl<=100000:=by have:=HLEN.out;omega
 clear hhl;obtain ⟨Z,hZ⟩:=Qb (high h x.kids);have HZ:Hid (Z=x.kids.foldl (hstep h) 1):=hZ;have HZ':=Qa hZ;clear hZ;go_enter func38,ntmps38;rw [Qz 1,Qz 12];go_wp2_with fail;obtain ⟨W,hW⟩:=Qb (w.alloc (.cells #[.int .i64 x.kind,.slice x.ka M x.kc,.int .i64 x.n,.string x.s,.int .i64 x.at_] 37));have HB:Hid (Below w.heap.size w W):=by rw [hW];exact Qag
 obtain ⟨G,hG⟩:=Qb w.heap.size;have HG:Hid (Held W G 37 #[.int .i64 x.kind,.slice x.ka M x.kc,.int .i64 x.n,.string x.s,.int .i64 x.at_]):=by rw [hW,hG];exact Held.new _ _ _
 rw [<-hW,<-hG];have HGE:=Qa hG;clear hW hG;refine Qn ?_;go_wp2_with fail;go_loopw [5,6] (λt5 t6 wr=> ∃i a n:Nat,i<=M/\a<=201/\t6= .int .i64 (i:Int)/\t5= .int .i64 (a:Int)/\wr=W.drewN n/\Hid (a=(x.kids.take i).foldl (hstep h) 1)) (λ_ t6 _=>M-(intOf t6).toNat)
 case atStart=>exact ⟨0,1,0,by omega,by omega,rfl,rfl,rfl,rfl⟩
 case round=>
  obtain ⟨i,a,n0,hi,ha1,rfl,rfl,hwr,HA⟩:=hrel;have HWR:=Qa hwr;have HBR:Hid (Below w.heap.size w wr):=by rw [hwr];exact HB.out.trans ((Wq W n0 _).mono HB.out.size)
  have Jm:Hid (Held wr G 37 #[.int .i64 x.kind,.slice x.ka M x.kc,.int .i64 x.n,.string x.s,.int .i64 x.at_]):=by rw [hwr];exact HG.out.block rfl
  have z1:wr.cell? ⟨G,1,none⟩=some (.slice x.ka M x.kc):=Jm.out.at_ rfl;have c5:=(HH.out.below HBR.out).c5;clear hwr;by_cases him:i<M
  ·have Qwo:(i:Int)<(M:Int):=(by omega);obtain ⟨kb,ko,hka,hkb,hkc⟩:=(Qed.out.below HBR.out) (by omega);have hci:=hkc i him;simp only at hci;rw [hka]at z1 ⊢;have HX:Hid (i<x.kids.length):=(by show i<_;rw [<-HM.out];exact him);obtain ⟨k,hkk⟩:=Qb (x.kids.getD i 0);rw [<-hkk]at hci;have HKK:=Qa hkk;have hkm:k∈x.kids:=(by rw [hkk,Yc,Y3 HX.out];exact F5 _);obtain ⟨hk0,Wsi⟩:=Q2t.out k hkm;clear hkk hkc hka hkb hkm;have HA2:Hid (hstep h a k=(x.kids.take (i+1)).foldl (hstep h) 1):=(by show _=_;rw [Q4x HX.out,<-HA.out,HKK.out]);have HA3:=Qa (Q22 Qee.out ha1 k);obtain ⟨u,hu⟩: ∃u:Nat,k=u:=⟨k.toNat,by omega⟩;subst hu;have hkl:u<hl:=(by omega);have c4:=(HH.out.below HBR.out).c4;rw [Rv.out]at c4;obtain ⟨hb,ho,hha,hhb,hhc⟩:=(HHR.out.below HBR.out) (by omega);have hcu:=hhc u hkl;simp only at hcu;obtain ⟨v,hv⟩:=Qb (h.getD u 0);have Oy:u<h.length:=(by rw [<-HHL.out];exact hkl);have hv2:(h.map Int.ofNat).getD u 0=(v:Int):=by rw [hv,Yc,Ng,Y3 Oy,Yc,Y3 Oy];rfl
   rw [hv2]at hcu;have hvl:v<=200:=by rw [hv,Yc,Y3 Oy];exact Qee.out _ (F5 _)
   have HS:Hid (hstep h a (u:Int)=max a (v+1)):=by show hstep h a (u:Int)=max a (v+1);unfold hstep;rw [Qk ⟨by omega,by omega⟩,hv];rfl
   rw [hha]at c4;have hwv:IntKind.i64.wrap (1+(v:Int))=1+(v:Int):=Go.IntWalk.i64_in _ (by omega);clear hv hv2 Oy hhc hha hhb;rcases (show a<v+1\/v+1<a\/a=v+1 by omega)with hlt |hgt |heq
   ·have h1:(a:Int)<1+(v:Int):=(by omega);go_wp2_with fail;go_quiet (fail);go_wp2_with fail;go_roundw
    case rel=>exact ⟨i+1,v+1,n0+nq,by omega,by omega,by go_num,by go_num,by rw [HWR.out];exact Qql _ _ _,(by show _=_;rw [<-HA2.out,HS.out];omega)⟩
    case measure=>simp [intOf];omega
   ·have h1: ¬(a:Int)<1+(v:Int):=(by omega);have h2:1+(v:Int)<(a:Int):=(by omega);go_wp2_with fail;go_quiet (fail);go_wp2_with fail;go_roundw
    case rel=>exact ⟨i+1,a,n0+nq,by omega,by omega,by go_num,by go_num,by rw [HWR.out];exact Qql _ _ _,(by show _=_;rw [<-HA2.out,HS.out];omega)⟩
    case measure=>simp [intOf];omega
   ·subst heq;have e1:((v+1:Nat):Int)=1+(v:Int):=(by omega);go_wp2_with fail;go_quiet (fail);go_wp2_with fail;go_roundw
    case rel=>exact ⟨i+1,v+1,n0+nq,by omega,by omega,by go_num,by go_num,by rw [HWR.out];exact Qql _ _ _,(by show _=_;rw [<-HA2.out,HS.out];omega)⟩
    case measure=>simp [intOf];omega
  ·obtain ⟨ei⟩:Nonempty (i=M):=⟨by omega⟩;have Qwo: ¬(i:Int)<(M:Int):=(by omega);have HAZ:Hid (a=Z):=by show a=Z;rw [HA.out,HZ.out,ei,HM.out,List.take_length]
   clear ei;by_cases hbig:200<a
   ·have Qrt:(200:Int)<(a:Int):=(by omega);have z4:wr.cell? ⟨G,4,none⟩=some (.int .i64 (at0:Int)):=(by rw [<-Wd3.out];exact Jm.out.at_ rfl);have HQ:Hid (Qw B g L wr R d (.ok ⟨L.drop p,l.map bare,h⟩)):=⟨p,l,HH.out.below HBR.out,rfl,rfl⟩;go_wp2_with fail;refine (Pz 4 at0 (by decide) HQ.out).mono ?_;rintro en w3 ⟨⟨v,rfl⟩,hbd,hfr⟩;have HBD:Hid (Eu B g L w3 R (4,at0)):=hbd;have HFR:=Qa ((Fr.of_below R HBR.out).trans hfr);clear hbd hfr c5;obtain ⟨p1,l1,h1,dd1,H1,_⟩:=HBD.out;have c5:w3.cell? ⟨g,5,none⟩=some (.int .i64 4):=H1.c5;clear H1;go_wp2_with fail;go_ret;exact .inr ⟨by rw [<-HZ'.out,<-HAZ.out];exact hbig,rfl,HBD.out,HFR.out⟩
   ·have Qrt: ¬(200:Int)<(a:Int):=(by omega);obtain ⟨W2,hW2⟩:=Qb wr;have HB2:Hid (Below w.heap.size w W2):=(by rw [hW2];exact HBR.out);have HG2:Hid (Held W2 G 37 #[.int .i64 x.kind,.slice x.ka M x.kc,.int .i64 x.n,.string x.s,.int .i64 x.at_]):=(by rw [hW2];exact Jm.out);rw [<-hW2]at c5 z1 ⊢;clear hW2;have HYC:Hid (x.cs.toList=[.int .i64 x.kind,.slice x.ka M x.kc,.int .i64 x.n,.string x.s,.int .i64 x.at_]):=(by rw [HM.out];rfl);have HNK:Hid (Now B w (Y5 x) x.kids):=HK.out;have Y1:=Qa (HH.out.toQCore.below HB2.out);have Wjo:Hid (Now B W2 (Y5 x) x.kids):=Dr HK.out HB2.out;have c3:=Y1.out.c3;have f3:=Y1.out.box.frozen 3;obtain ⟨vn,L6⟩:=Qb R.vn;have Qea:=Y1.out.own;rw [<-L6]at c3 Qea;have HOWN:=Qa Qea;have HVN:=Qa L6;have y0:W2.cell? ⟨G,0,none⟩=some (.int .i64 x.kind):=HG2.out.at_ rfl;have y1:W2.cell? ⟨G,1,none⟩=some (.slice x.ka M x.kc):=HG2.out.at_ rfl;have y2:W2.cell? ⟨G,2,none⟩=some (.int .i64 x.n):=HG2.out.at_ rfl;have y3:W2.cell? ⟨G,3,none⟩=some (.string x.s):=HG2.out.at_ rfl;have y4:W2.cell? ⟨G,4,none⟩=some (.int .i64 x.at_):=HG2.out.at_ rfl;have hB2:B<=W2.heap.size:=(by have h1:=Y1.out.old;have h2:=Y1.out.box.lt;omega);have Uz:g<W2.heap.size:=Y1.out.box.lt;have Qrk:G<W2.heap.size:=HG2.out.lt;clear Qea L6 z1;obtain ⟨i0,hi0,hz0,hz1,hz2⟩:=info_parts Qvm;have HI0:=Qa hi0;have HZ0:=Qa hz0;have HZ1:=Qa hz1;have HZ2:=Qa hz2;clear hi0 hz0 hz1 hz2;go_wp2_with fail;go_region_law ((refine step_append_lies _ (by rfl) _ _ _ (by rfl) B 37 i0 (.agg #[.int .i64 0,.slice none 0 0,.int .i64 0,.string ⟨#[]⟩,.int .i64 0]) 5 64 underlying22 HI0.out HZ0.out HZ1.out HZ2.out rfl (by omega) vn l.length (Ay l) (by rfl) ((HOWN.out.alloc _).drew) ⟨W2.heap.size,0,none⟩ 1 1 [.int .i64 x.kind,.slice x.ka M x.kc,.int .i64 x.n,.string x.s,.int .i64 x.at_] (by rfl) (by rfl) (World.news_of_block (cs:= #[.int .i64 x.kind,.slice x.ka M x.kc,.int .i64 x.n,.string x.s,.int .i64 x.at_]) (t:=37) (fr:=(0,0)) (heap_alloc_new W2 _)) (by simp [Value.oneCell']) (by omega) (by unfold maxLen;omega) (by omega) (by simp;omega) (W2.heap.size+1) (by simp) ?_;intro gg cap w3 hown3 hgrow hat hlt;have V5:=Qa hgrow;have Ab:=Qa hown3;have HAT:=Qa hat;have hbx:=Y1.out.box.block (w':=w3) ((hgrow.block g (by have:=Y1.out.box.lt;simp;omega) (λe=>Yr HOWN.out Y1.out.box (by decide) e.symm)).trans (heap_alloc_old W2 _ Y1.out.box.lt));have b3:w3.cell? ⟨g,3,none⟩=some R.vn:=hbx.at_ rfl;have f3:=hbx.frozen 3;clear hbx hown3 hgrow hat hlt))
    all_goals
     have hPN:=Y1.out.node (W1:=(W2.alloc (.cells #[.int .i64 x.kind,.slice x.ka M x.kc,.int .i64 x.n,.string x.s,.int .i64 x.at_] 37)).drew) (y:=x) (v3:=.slice (some ⟨gg,0,none⟩) (l.length+1) cap) Qag.drew (by rw [HYC.out];exact Ab.out) (by rw [<-HVN.out];exact V5.out) (λk hk=>by
      have e:gg=k:=(by simpa [Value.ownBlock] using hk);subst e;rcases HAT.out with h1 |h1
      ·exact .inl (by rw [<-HVN.out];exact h1)
      ·exact .inr (by omega)) Wjo.out Qdg.out Qty.out;obtain ⟨W4,Bt⟩:=Qb (w3.setCell ⟨g,3,none⟩ (.slice (some ⟨gg,0,none⟩) (l.length+1) cap));rw [<-Bt]at hPN ⊢;have Gd:=Qa hPN.1;have Ez:=Qa ((Fr.of_below R HB2.out).trans hPN.2);clear hPN Bt b3 f3 c3 y0 y1 y2 y3 y4 Uz Qrk V5 Ab HAT;have c4:=Gd.out.c4;have f4:=Gd.out.box.frozen 4;obtain ⟨vh,I7⟩:=Qb R.vh;have hHT:=Gd.out.hts;rw [<-I7]at c4 hHT;have HHT:=Qa hHT;have Fv:=Qa I7;have Uz:g<W4.heap.size:=Gd.out.box.lt;have hB4:B<=W4.heap.size:=(by have h4:=Gd.out.old;omega);clear hHT I7;have HHM:Hid ((h.map Int.ofNat).length<=100000):=(by show _<=_;rw [Zr,<-HHL.out];exact Qrs);rw [Rv.out]at Fv;go_wp2_with (at_builtin;refine Hf rfl (.tmp 62) (.tmp 64) rfl B W4 vh (h.map Int.ofNat) (a:Int) rfl rfl HHT.out hB4 (by have:=HHM.out;omega) ?_;intro v5 w5 Aj hg5 K8;have hbx:=Gd.out.box.block (w':=w5) ((hg5.block g (by simp;omega) (λe=>Yr HHT.out Gd.out.box (by decide) e.symm)).trans (heap_alloc_old W4 _ (by omega)));have b4:w5.cell? ⟨g,4,none⟩=some R.vh:=hbx.at_ rfl;have f4:=hbx.frozen 4;have HR5:=Qa Aj;have E8:=Qa hg5;have HW5:=Qa K8;obtain ⟨ga,gc,hv5⟩:=Zq Aj;rw [Qf,Zr,<-HHL.out,Yw]at hv5;subst hv5;clear hbx Aj hg5 K8);have hPH:=Gd.out.height (W1:=W4.alloc (.cells #[.int .i64 (a:Int)] 3)) (z:=a) (v3:=.slice ga (hl+1) gc) Qag (by rw [Zp];exact HR5.out) (by show World.grownBy _ _ R.vh.ownBlock;rw [Rv.out,<-Fv.out];exact E8.out) (λk hk=>by
      rcases HW5.out k hk with h1 |h1
      ·exact .inl (by show R.vh.ownBlock=_;rw [Rv.out,<-Fv.out];exact h1)
      ·exact .inr (by rw [h1];simp));obtain ⟨W6,Va⟩:=Qb (w5.setCell ⟨g,4,none⟩ (.slice ga (hl+1) gc));rw [<-Va]at hPH ⊢;have HC6:=Qa hPH.1;have Ph:=Qa (Ez.out.trans hPH.2);have c3:=HC6.out.c3;clear hPH Va b4 f4 c4 E8 HR5 HW5;simp only at c3;refine Qn ?_;go_wp2_with fail;go_ret;refine .inl ⟨by rw [<-HZ'.out,<-HAZ.out];omega,by first |rfl |(congr 2;omega),⟨R.tb,R.tc,.slice (some ⟨gg,0,none⟩) (l.length+1) cap,.slice ga (hl+1) gc,R.Z⟩,x,rfl,rfl,⟨?_,?_,HH.out.here,?_,?_⟩,Ph.out⟩
     ·rw [<-HZ'.out,<-HAZ.out];exact HC6.out
     ·rw [Qf,Qf,HLEN.out];rfl
     ·rw [Qf];show l.length+1<=p+1;omega
     ·intro u hu;rcases List.mem_append.1 hu with hu |hu
      ·exact Qee.out u hu
      ·rw [List.mem_singleton.1 hu,<-HZ'.out,<-HAZ.out];omega
end
section
open Go.RowKit
def Qml (P:Nat):Array Value:=
 #[.string ⟨#[118,97,114]⟩,.int .i64 12,.func (.func 53) #[.pointer (some ⟨P,0,none⟩)] #[],
  .string ⟨#[105,102]⟩,.int .i64 15,.func (.func 54) #[.pointer (some ⟨P,0,none⟩)] #[],
  .string ⟨#[119,104,105,108,101]⟩,.int .i64 16,.func (.func 55) #[.pointer (some ⟨P,0,none⟩)] #[],
  .string ⟨#[102,111,114]⟩,.int .i64 17,.func (.func 56) #[.pointer (some ⟨P,0,none⟩)] #[],
  .string ⟨#[98,114,101,97,107]⟩,.int .i64 18,.func (.func 57) #[.pointer (some ⟨P,0,none⟩)] #[],
  .string ⟨#[99,111,110,116,105,110,117,101]⟩,.int .i64 19,.func (.func 57) #[.pointer (some ⟨P,0,none⟩)] #[],
  .string ⟨#[114,101,116,117,114,110]⟩,.int .i64 20,.func (.func 58) #[.pointer (some ⟨P,0,none⟩)] #[],
  .string ⟨#[112,114,105,110,116]⟩,.int .i64 21,.func (.func 58) #[.pointer (some ⟨P,0,none⟩)] #[]]
def Qow:Array Value:= #[.string ⟨#[]⟩,.string ⟨#[105,110,116]⟩,.string ⟨#[98,111,111,108]⟩,.string ⟨#[97,114,114]⟩]
def Qcj (w:World):Prop:= ∃t fr,w.heap[5]? =some (.cells Qow t fr)
theorem Qog:5<Vw:=by decide
structure Ke (w:World) (g P T:Nat):Prop where
 box:Held w P 62 #[.pointer (some ⟨g,0,none⟩),.slice (some ⟨T,0,none⟩) 8 8]
 tab:Held w T 95 (Qml P)
 kw:Qcj w
variable {B g P T N:Nat}{L:List Tk}{w0 w w':World}{R0 R R':Bx}{d d':Nat}{o o':Except Qq PS}{v:Value}{acc:List Int}{K n a:Int}{S:ByteArray}
theorem Ke.keep (H:Any B g L w R d o) (F:Fr g w w' R R') (h:Ke w g P T):Ke w' g P T:=by refine ⟨H.held F h.box (by decide) (by decide) (H.Lj h.box (by decide)),H.held F h.tab (by decide) (by decide) (H.Lj h.tab (by decide)),?_⟩;obtain ⟨t,fr,hk⟩:=h.kw;exact ⟨t,fr,(H.low F Qog).trans hk⟩
theorem Ke.c0 (h:Ke w g P T):w.cell? ⟨P,0,none⟩=some (.pointer (some ⟨g,0,none⟩)):=h.box.at_ rfl
theorem Ke.c1 (h:Ke w g P T):w.cell? ⟨P,1,none⟩=some (.slice (some ⟨T,0,none⟩) 8 8):=h.box.at_ rfl
structure Pre (B g P T:Nat) (L:List Tk) (w0:World) (R0:Bx) (d:Nat) (w:World) (R:Bx) (o:Except Qq PS) (v:Value) (acc:List Int):Prop where
 any:Any B g L w R d o
 fr:Fr g w0 w R0 R
 z0: ∀k,R0.Z k->R.Z k
 zv: ∀k,v.ownBlock=some k->R.Z k
 now:Now w0.heap.size w v acc
 par:Ke w g P T
 base:Vw<=w0.heap.size
structure Run (B g P T:Nat) (L:List Tk) (w0:World) (R0:Bx) (d:Nat) (w:World) (R:Bx) (o:Except Qq PS) (N:Nat) (K:Int) (v:Value) (acc:List Int) (n:Int) (S:ByteArray) (a:Int):Prop extends Pre B g P T L w0 R0 d w R o v acc where
 box:Held w N 37 #[.int .i64 K,v,.int .i64 n,.string S,.int .i64 a]
 off:R.vn.ownBlock≠some N
 new:w0.heap.size<=N
theorem Any.Qq1 (h:Now B w v acc) {B1:Nat} (H:Any B1 g L w R d o) (hz: ∀k,v.ownBlock=some k->R.Z k) (F:Fr g w w' R R'):Now B w' v acc:=by
 obtain ⟨p,l,hh,e,q,H⟩:=H.core;refine h.Qt2 (λk hk=> ?_);have hlt:=(World.ownsRow.lt h k hk).2;refine F.block k hlt ?_ ?_ ((H.zone k (hz k hk)).2.1)
 ·intro e;subst e;exact Yr h H.box (by decide) hk
 ·intro e;rcases Nr h H.own (by decide)with h1 |h1
  ·rw [h1]at hk;cases hk
  ·exact h1 (hk.trans e.symm)
theorem Pre.step (H:Pre B g P T L w0 R0 d w R o v acc) (hA:Any B g L w' R' d' o') (F:Fr g w w' R R') (hz:R'.Z=R.Z):Pre B g P T L w0 R0 d' w' R' o' v acc:=
 ⟨hA,H.fr.trans F,λk hk=>by rw [hz];exact H.z0 k hk,λk hk=>by rw [hz];exact H.zv k hk,Any.Qq1 H.now H.any H.zv F,H.par.keep H.any F,H.base⟩
theorem Run.step (H:Run B g P T L w0 R0 d w R o N K v acc n S a) (hA:Any B g L w' R' d' o') (F:Fr g w w' R R') (hz:R'.Z=R.Z):Run B g P T L w0 R0 d' w' R' o' N K v acc n S a:=by
 refine ⟨H.toPre.step hA F hz,H.any.held F H.box (by decide) (by decide) H.off,λe=> ?_,H.new⟩;rcases F.vn N e with h |h
 ·exact H.off h
 ·have:=H.box.lt;omega
theorem Pre.below (H:Pre B g P T L w0 R0 d w R o v acc) (hb:Below w.heap.size w w'):Pre B g P T L w0 R0 d w' R o v acc:=H.step (H.any.below hb) (Fr.of_below R hb) rfl
theorem Run.below (H:Run B g P T L w0 R0 d w R o N K v acc n S a) (hb:Below w.heap.size w w'):Run B g P T L w0 R0 d w' R o N K v acc n S a:=H.step (H.any.below hb) (Fr.of_below R hb) rfl
theorem Zk (w:World):Below w.heap.size w w.drew:=(Wq w 1 _)
theorem Pre.start (H:Any B g L w R d o) (hP:Ke w g P T):Pre B g P T L w R d w R o (.slice none 0 0) []:=
 ⟨H,Fr.of_below R (Below.refl _ _),λk hk=>hk,λk hk=>by simp [Value.ownBlock]at hk,⟨rfl,.inl ⟨rfl,rfl⟩⟩,hP,H.tabs.size⟩
theorem Any.Q1s (H:Any B g L w R d o):R.vn.ownBlock≠some w.heap.size:=by obtain ⟨p,l,hh,e,q,H⟩:=H.core;exact λe=>by have:=(H.own.lt _ e).2;omega
theorem Pre.node (H:Pre B g P T L w0 R0 d w R o v acc) (K n:Int) (S:ByteArray) (a:Int):Run B g P T L w0 R0 d (w.alloc (.cells #[.int .i64 K,v,.int .i64 n,.string S,.int .i64 a] 37)) R o w.heap.size K v acc n S a:=
 ⟨H.below Qag,Held.new _ _ _,H.any.Q1s,H.fr.size⟩
theorem Pre.Qcg (H:Pre B g P T L w0 R0 d w R o v acc) {cs:Array Value} (Lb:Held w N 37 cs) (off:R.vn.ownBlock≠some N) (new:w0.heap.size<=N) (i:Nat) (u:Value):Pre B g P T L w0 R0 d (w.setCell ⟨N,i,none⟩ u) R o v acc:=by
 have hN:Vw<=N:=F7 H.base new;have gr:=Gv w N i u;refine ⟨H.any.other Lb off hN gr,H.fr.other new gr,H.z0,H.zv,World.ownsRow.kept H.now gr (.inr (Yr H.now Lb (by decide))),?_,H.base⟩;have K1: ∀k,k≠N->(w.setCell ⟨N,i,none⟩ u).heap[k]? =w.heap[k]?:=λk hk=>Below.heap_setCell w ⟨N,i,none⟩ u k hk;have hne: ∀{G t cs},Held w G t cs->t≠37->G≠N:=by
  intro G t cs hG ht e;subst e;have h5:w.heap[G]? =_:=hG;have h6:w.heap[G]? =_:=Lb;rw [h5]at h6;injection h6 with h6
  injection h6 with _ h7
  exact ht h7
 refine ⟨H.par.box.block (K1 P (hne H.par.box (by decide))),H.par.tab.block (K1 T (hne H.par.tab (by decide))),?_⟩;obtain ⟨t,fr,hk⟩:=H.par.kw;exact ⟨t,fr,(K1 _ (by have:=Qog;omega)).trans hk⟩
theorem Run.Qmi (H:Run B g P T L w0 R0 d w R o N K v acc n S a) (n':Int):Run B g P T L w0 R0 d (w.setCell ⟨N,2,none⟩ (.int .i64 n')) R o N K v acc n' S a:=
 ⟨H.toPre.Qcg H.box H.off H.new 2 _,H.box.set 2 _,H.off,H.new⟩
theorem Pre.Qx3 {u:Value} (H:Pre B g P T L w0 R0 d w R o v acc) (Lb:Held w N 37 #[.int .i64 K,u,.int .i64 n,.string S,.int .i64 a]) (off:R.vn.ownBlock≠some N) (new:w0.heap.size<=N):Run B g P T L w0 R0 d (w.setCell ⟨N,1,none⟩ v) R o N K v acc n S a:=
 ⟨H.Qcg Lb off new 1 _,Lb.set 1 _,off,new⟩
theorem Run.Qy9 (H:Run B g P T L w0 R0 d w R o N K v acc n S a) (K' n':Int) (S':ByteArray) (a':Int):Run B g P T L w0 R0 d (((((w.setCell ⟨N,0,none⟩ (.int .i64 K')).setCell ⟨N,1,none⟩ (.slice none 0 0)).setCell ⟨N,2,none⟩ (.int .i64 n')).setCell ⟨N,3,none⟩ (.string S')).setCell ⟨N,4,none⟩ (.int .i64 a')) R o N K' (.slice none 0 0) [] n' S' a':=by have h0:Pre B g P T L w0 R0 d w R o (.slice none 0 0) []:=⟨H.any,H.fr,H.z0,λk hk=>by simp [Value.ownBlock]at hk,⟨rfl,.inl ⟨rfl,rfl⟩⟩,H.par,H.base⟩;have b0:=H.box;have h1:=h0.Qcg b0 H.off H.new 0 (.int .i64 K');have b1:=b0.set 0 (.int .i64 K');have h2:=h1.Qcg b1 H.off H.new 1 (.slice none 0 0);have b2:=b1.set 1 (.slice none 0 0);have h3:=h2.Qcg b2 H.off H.new 2 (.int .i64 n');have b3:=b2.set 2 (.int .i64 n');have h4:=h3.Qcg b3 H.off H.new 3 (.string S');have b4:=b3.set 3 (.string S');have h5:=h4.Qcg b4 H.off H.new 4 (.int .i64 a');have b5:=b4.set 4 (.int .i64 a');exact ⟨h5,b5,H.off,H.new⟩
theorem Pre.push (H:Pre B g P T L w0 R0 d w R o v acc) {w3:World} {v3:Value} {k:Int} {cs:Array Value} (h3:Now w0.heap.size w3 v3 (acc++[k])) (hg:(w.alloc (.cells cs 3)).grownBy w3 v.ownBlock) (hw: ∀j,v3.ownBlock=some j->v.ownBlock=some j\/j=(w.alloc (.cells cs 3)).heap.size):
  ∃R3,Pre B g P T L w0 R0 d w3 R3 o v3 (acc++[k])/\R3.vn=R.vn:=by
 have hB:Below w.heap.size w (w.alloc (.cells cs 3)):=Qag;have hv:=Dr H.now hB;have K1: ∀G t cs',Held w G t cs'->t≠3->w3.heap[G]? =w.heap[G]?:=by intro G t cs' hG ht;rw [hg.block G (by have:=hG.lt;have:=hB.size;omega) (λe=>Yr H.now hG (λe=>ht e.symm) e.symm),hB.block G hG.lt]
 refine ⟨{R with Z:=λk=>R.Z k\/v3.ownBlock=some k},⟨H.any.wider hB hv H.base H.zv hg _ (λk hk=> ?_),Qmb H.fr hB hv hg _,λk hk=>.inl (H.z0 k hk),λk hk=>.inr hk,h3,⟨H.par.box.block (K1 _ _ _ H.par.box (by decide)),H.par.tab.block (K1 _ _ _ H.par.tab (by decide)),?_⟩,H.base⟩,rfl⟩
 ·rcases hk with hk |hk
  ·exact .inl hk
  ·rcases hw k hk with h1 |h1
   ·exact .inl (H.zv k h1)
   ·exact .inr ⟨by rw [h1];simp,(World.ownsRow.lt h3 k hk).2⟩
 ·obtain ⟨t,fr,hk⟩:=H.par.kw;have hlt:=(Array.getElem?_eq_some_iff.1 hk).1;have hl:=Qog;have hb:=H.base;exact ⟨t,fr,(hg.block _ (by have:=hB.size;omega) (λe=>by have:=(World.ownsRow.lt H.now _ e.symm).1;omega)).trans ((hB.block _ hlt).trans hk)⟩
theorem Run.push (H:Run B g P T L w0 R0 d w R o N K v acc n S a) {w3:World} {v3:Value} {k:Int} {cs:Array Value} (h3:Now w0.heap.size w3 v3 (acc++[k])) (hg:(w.alloc (.cells cs 3)).grownBy w3 v.ownBlock) (hw: ∀j,v3.ownBlock=some j->v.ownBlock=some j\/j=(w.alloc (.cells cs 3)).heap.size):
  ∃R3,Run B g P T L w0 R0 d (w3.setCell ⟨N,1,none⟩ v3) R3 o N K v3 (acc++[k]) n S a/\w3.cell? ⟨N,1,none⟩=some v/\w3.frozen? ⟨N,1,none⟩=false:=by
 obtain ⟨R3,h1,h2⟩:=H.toPre.push h3 hg hw;have hB:Below w.heap.size w (w.alloc (.cells cs 3)):=Qag;have Lb:Held w3 N 37 _:=H.box.block (by rw [hg.block N (by have:=H.box.lt;have:=hB.size;omega) (λe=>Yr H.now H.box (by decide) e.symm),hB.block N H.box.lt]);exact ⟨R3,h1.Qx3 Lb (by rw [h2];exact H.off) H.new,Lb.at_ rfl,Lb.frozen 1⟩
end
section
open Go.RowKit
variable {B g:Nat}{L:List Tk}{w w':World}{R R':Bx}{d:Nat}{o:Except Qq PS}{f:Qq}
structure Cc (o:Except Qq PS) (u:Out):Prop where
 kid: ∀s',toO u= .ok s'->0<=Qt u/\Qt u<(s'.l.length:Int)
 grow: ∀s',toO u= .ok s'-> ∃s,o= .ok s/\s.l.length<=s'.l.length
def Grow (o o':Except Qq PS):Prop:= ∀s',o'= .ok s'-> ∃s,o= .ok s/\s.l.length<=s'.l.length
theorem Grow.refl (o:Except Qq PS):Grow o o:=λs' e=>⟨s',e,Qh _⟩
theorem Grow.trans {o1 o2:Except Qq PS} (h:Grow o o1) (k:Grow o1 o2):Grow o o2:=λs' e=>by obtain ⟨s1,h1,h2⟩:=k s' e;obtain ⟨s0,h3,h4⟩:=h s1 h1;exact ⟨s0,h3,F7 h4 h2⟩
theorem Grow.need (b:List UInt8):Grow o (Yv b o):=λs' e=>by
 cases o with
 |error f=>cases e
 |ok s=>
  cases hb:s.is b with
  |true=>rw [Oq hb]at e;injection e with e;subst e;exact ⟨s,rfl,Qh _⟩
  |false=>rw [Ov hb]at e;cases e
theorem Grow.open_ (d a:Nat):Grow o (Gy d a o):=λs' e=>by
 cases o with
 |error f=>cases e
 |ok s=>
  by_cases hd:200<=d
  ·rw [Ry hd]at e;cases e
  ·rw [Un hd]at e;injection e with e;subst e;exact ⟨s,rfl,Qh _⟩
structure Q8u (B g:Nat) (L:List Tk) (w:World) (R:Bx) (d:Nat) (u:Out) (en:Ending) (w':World) (R':Bx):Prop where
 fr:Fr g w w' R R'
 en:en= .returned (.int .i64 (Qt u))
 any:Qw B g L w' R' d (toO u)
theorem Gb (H:Qw B g L w R d (.error f)): ∃e:Int,w.cell? ⟨g,5,none⟩=some (.int .i64 e)/\e≠0:=by obtain ⟨p,l,h,dd,H,hf⟩:=H;exact ⟨(f.1:Int),H.c5,by omega⟩
theorem Hl {s:PS} (H:Qw B g L w R d (.ok s)):w.cell? ⟨g,5,none⟩=some (.int .i64 0):=by obtain ⟨p,l,H,_⟩:=H;exact H.c5
theorem Wnn (c0 c2 c3 c4:Value) (ka:Option Addr) (M kc:Nat) (H:Eu B g L w R f):
  Calls prog 38 #[.pointer (some ⟨g,0,none⟩),.agg #[c0,.slice ka M kc,c2,c3,c4]] w λen w'=>en= .returned (.int .i64 (-1))/\Below w.heap.size w w':=by
 obtain ⟨W,hW⟩:=Qb (w.alloc (.cells #[c0,.slice ka M kc,c2,c3,c4] 37));have HB:Hid (Below w.heap.size w W):=by rw [hW];exact Qag
 obtain ⟨G,hG⟩:=Qb w.heap.size;have HG:Hid (Held W G 37 #[c0,.slice ka M kc,c2,c3,c4]):=by rw [hW,hG];exact Held.new _ _ _
 obtain ⟨e,c5,he⟩:=Gb (d:=0) (show Qw B g L W R 0 (.error f)from Qw.below (show Qw B g L w R 0 (.error f)from H) HB.out);have heb:(e==0)=false:=by simpa using he
 have hen:(e != 0)=true:=by simpa using he
 have z1:W.cell? ⟨G,1,none⟩=some (.slice ka M kc):=HG.out.at_ rfl;clear H he;go_enter func38,ntmps38;rw [Qz 1];go_wp2_with fail;rw [<-hW,<-hG];clear hW hG;refine Qn ?_;go_wp2_with fail;go_loop [5,6] (λt5 t6=>t6= .int .i64 0/\t5= .int .i64 1) (λ_ _=>0)
 case atStart=>exact ⟨rfl,rfl⟩
 case round=>
  obtain ⟨rfl,rfl⟩:=hrel;by_cases h0:0<M
  ·have h0i:(0:Int)<(M:Int):=(by omega);go_wp2_with fail;go_ret;exact ⟨rfl,HB.out⟩
  ·have h0i: ¬(0:Int)<(M:Int):=(by omega);go_wp2_with fail;go_ret;exact ⟨rfl,HB.out⟩
theorem Qtz {B':Nat} (K:Int) (v:Value) (acc:List Int) (n:Int) (S:ByteArray) (a:Nat) (H:Qw B g L w R d o) (hk:Now B' w v acc) (hB:B<=B') (hz: ∀k,v.ownBlock=some k->R.Z k) (hv: ∀s,o= .ok s-> ∀k∈acc,0<=k/\k<(s.l.length:Int)) (hl:Qc o L.length L.length) (hn:acc.length<=100000):
  Calls prog 38 #[.pointer (some ⟨g,0,none⟩),.agg #[.int .i64 K,v,.int .i64 n,.string S,.int .i64 (a:Int)]] w λen w'=> ∃u R',Does o (λs _=>some (lay (En K acc n S (a:Int)) s)) u/\Q8u B g L w R d u en w' R'/\Cc o u/\(∀k,R.Z k->v.ownBlock≠some k->R'.Z k)/\ ∀n m,Qc o n m->Qc (toO u) (n+1) m:=by
 obtain ⟨ka,kc,rfl⟩:=Zq hk;cases o with
 |ok s=>
  have H0:=H.less (λk=>R.Z k/\(Value.slice ka acc.length kc).ownBlock≠some k) (λk hk=>hk.1);obtain ⟨p,l,H1,hr,hls⟩:=(show Zu B g L w _ d s from H0);have hll:s.l.length=l.length:=by rw [hls,Zr]
  have hh:=H1.here;have hlim:=(hl s rfl).1;have hoff:(Value.slice ka acc.length kc).ownBlock=none\/(Value.slice ka acc.length kc).ownBlock≠R.vh.ownBlock:=by
   obtain ⟨p',l',H',_⟩:=(show Zu B g L w R d s from H);cases hb:(Value.slice ka acc.length kc).ownBlock with
   |none=>exact .inl rfl
   |some b=>exact .inr (λe=>(H'.zone b (hz b hb)).2.1 e.symm)
  refine (Whm ⟨K,ka,kc,acc,n,S,(a:Int)⟩ a H1 (Qb1 hk hB) hoff (λk hk=>hk.2) (λk hk=>by have:=hv s rfl k hk;rw [hll]at this;rw [H1.len];exact this) (by rw [hr,Vf]at hlim;omega) hn rfl).mono ?_;rintro en w' (⟨h1,h2,R',y,hzz,hy,hR,hF⟩ |⟨h1,h2,hB,hF⟩)
  ·have Y2:lay (En K acc n S (a:Int)) s= .ok ([(s.l.length:Int)],⟨s.r,s.l++[En K acc n S (a:Int)],s.h++[high s.h acc]⟩):=Qd (by show¬200<high s.h acc;have:high s.h acc<=200:=h1;omega);refine ⟨_,R',Ev.const,⟨⟨hF.os,hF.tape,hF.output,hF.size,hF.block,hF.vn,hF.vh⟩,?_,?_⟩,⟨λs' e=> ?_,λs' e=> ?_⟩,λk h3 h4=>by rw [hzz];exact ⟨h3,h4⟩,λn' m h3=> ?_⟩
   ·rw [Y2,h2];show _=Ending.returned (.int .i64 ((s.l.length:Nat):Int));rw [hll]
   ·rw [Y2];refine ⟨p,l++[y],hR,hr,?_⟩;show s.l++[_]=_;rw [Zp,hls,<-show bare y=En K acc n S (a:Int)from hy];rfl
   ·rw [Y2]at e ⊢;injection e with e
    subst e;show (0:Int)<=((s.l.length:Nat):Int)/\((s.l.length:Nat):Int)<(((s.l++[_]).length:Nat):Int);rw [Qf,Yw];exact ⟨by omega,by omega⟩
   ·rw [Y2]at e;injection e with e
    subst e;exact ⟨s,rfl,by show s.l.length<=(s.l++[_]).length;rw [Qf];omega⟩
   ·rw [Y2];intro s' e;injection e with e
    subst e;have h5:=h3 s rfl;exact ⟨by show (s.l++[_]).length+s.r.length<=_;rw [Qf,Yw];omega,h5.2⟩
  ·have Y2:lay (En K acc n S (a:Int)) s= .error (4,a):=(Qk (by show 200<high s.h acc;exact h1)).trans rfl;refine ⟨_,_,Ev.const,⟨⟨hF.os,hF.tape,hF.output,hF.size,hF.block,hF.vn,hF.vh⟩,?_,?_⟩,⟨λs' e=> ?_,λs' e=> ?_⟩,λk h3 h4=>⟨h3,h4⟩,λn' m h3=> ?_⟩
   ·rw [Y2];exact h2
   ·rw [Y2];exact hB
   ·rw [Y2]at e;cases e
   ·rw [Y2]at e;cases e
   ·rw [Y2];exact Qc.err
 |error f=>
  refine (Wnn _ _ _ _ _ _ _ H).mono ?_;rintro en w' ⟨rfl,hb⟩;exact ⟨.error f,R,rfl,⟨Fr.of_below R hb,rfl,Qw.below H hb⟩,⟨(λs' e=>by cases e),(λs' e=>by cases e)⟩,λk h3 _=>h3,λn m _=>Qc.err⟩
theorem Q83 (a:Nat) (H:Eu B g L w R f):
  Calls prog 71 #[.pointer (some ⟨g,0,none⟩),.int .i64 (a:Int)] w λen w'=>(∃v,en= .returned v)/\Eu B g L w' R f/\Fr g w w' R R:=by
 obtain ⟨p,l,h,dd,H,hf⟩:=H;have c2:=H.c2;have f2:=H.box.frozen 2;obtain ⟨V,hV⟩:=Qb (wrap64 (dd+1));obtain ⟨W,hW⟩:=Qb (w.setCell ⟨g,2,none⟩ (.int .i64 V));have hst:=H.store (i:=2) (u:=.int .i64 V) (e':=(f.1:Int)) (q':=(f.2:Int)) (d':=V) (p':=p) rfl H.here H.few;rw [<-hW]at hst;have HG:Hid (Eu B g L W R f):=⟨p,l,h,V,hst,hf⟩;have HF:Hid (Fr g w W R R):=by rw [hW];exact Fr.store (B:=B) (L:=L) 2 _
 have d2:=hst.c2;clear H hst hf;go_enter func71,ntmps71;rw [Qz 1];go_wp2_with fail;rw [<-hV,<-hW];clear hV hW c2 f2;refine Qn ?_;by_cases h2:200<V
 ·go_wp2_with fail;refine (Pz 4 a (by decide) (show Qw B g L W R 0 (.error f)from HG.out)).mono ?_;rintro en w3 ⟨⟨v,rfl⟩,ha,hf⟩;have HA3:=Qa ha;have HF3:=Qa (HF.out.trans hf);clear ha hf;go_wp2_with fail;go_end0;exact ⟨⟨_,rfl⟩,HA3.out,HF3.out⟩
 ·go_wp2_with fail;go_end0;exact ⟨⟨_,rfl⟩,HG.out,HF.out⟩
theorem Qfj (a:Nat) (H:Qw B g L w R d o) (hd: ∀s,o= .ok s->d<=1000):
  Calls prog 71 #[.pointer (some ⟨g,0,none⟩),.int .i64 (a:Int)] w λen w'=>(∃v,en= .returned v)/\Qw B g L w' R (d+1) (Gy d a o)/\Fr g w w' R R:=by
 cases o with
 |ok s=>exact Wms a H (hd s rfl)
 |error f=>exact Q83 a H
theorem Qw.close (H:Qw B g L w R (d+1) o) (hd:d<=1000): ∃dd V:Int,w.cell? ⟨g,2,none⟩=some (.int .i64 dd)/\w.frozen? ⟨g,2,none⟩=false/\V=wrap64 (dd-1)/\Qw B g L (w.setCell ⟨g,2,none⟩ (.int .i64 V)) R d o/\Fr g w (w.setCell ⟨g,2,none⟩ (.int .i64 V)) R R:=by
 cases o with
 |ok s=>
  obtain ⟨p,l,H,hr,hl⟩:=H;have hV:wrap64 (((d+1:Nat):Int)-1)=(d:Int):=by rw [Go.IntWalk.wrap64_in _ (by omega)];omega
  refine ⟨((d+1:Nat):Int),(d:Int),H.c2,H.box.frozen 2,hV.symm,⟨p,l,?_,hr,hl⟩,Fr.store (B:=B) (L:=L) 2 _⟩;exact H.store (i:=2) (u:=.int .i64 (d:Int)) (d':=(d:Int)) (e':=0) (q':=0) (p':=p) rfl H.here H.few
 |error f=>
  obtain ⟨p,l,h,dd,H,hf⟩:=H;refine ⟨dd,wrap64 (dd-1),H.c2,H.box.frozen 2,rfl,⟨p,l,h,wrap64 (dd-1),?_,hf⟩,Fr.store (B:=B) (L:=L) 2 _⟩;exact H.store (i:=2) (u:=.int .i64 (wrap64 (dd-1))) (d':=wrap64 (dd-1)) (e':=(f.1:Int)) (q':=(f.2:Int)) (p':=p) rfl H.here H.few
end
section
open Go.RowKit
variable {B g:Nat}{L:List Tk}{w0 w w':World}{R0 R R':Bx}{d d':Nat}{o o':Except Qq PS}{v:Value}{acc:List Int}
structure QRun (B g:Nat) (L:List Tk) (w0:World) (R0:Bx) (d:Nat) (w:World) (R:Bx) (o:Except Qq PS):Prop where
 any:Qw B g L w R d o
 fr:Fr g w0 w R0 R
 z: ∀k,R0.Z k->R.Z k
theorem QRun.start (H:Qw B g L w R d o):QRun B g L w R d w R o:=⟨H,Fr.of_below R (Below.refl _ _),λ_ h=>h⟩
theorem QRun.step (H:QRun B g L w0 R0 d w R o) (hA:Qw B g L w' R' d' o') (F:Fr g w w' R R') (hz: ∀k,R.Z k->R'.Z k):QRun B g L w0 R0 d' w' R' o':=⟨hA,H.fr.trans F,λk h=>hz k (H.z k h)⟩
theorem QRun.then_ (H:QRun B g L w0 R0 d w R o) (K:QRun B g L w R d' w' R' o'):QRun B g L w0 R0 d' w' R' o':=H.step K.any K.fr K.z
theorem QRun.below (H:QRun B g L w0 R0 d w R o) (hb:Below w.heap.size w w'):QRun B g L w0 R0 d w' R o:=H.step (H.any.below hb) (Fr.of_below R hb) (λ_ h=>h)
structure Qfr (B g:Nat) (L:List Tk) (w0:World) (R0:Bx) (d:Nat) (o:Except Qq PS) (u:Out) (en:Ending) (w':World) (R':Bx):Prop where
 run:QRun B g L w0 R0 d w' R' (toO u)
 en:en= .returned (.int .i64 (Qt u))
 tell:Cc o u
def Jp (B g:Nat) (L:List Tk) (w:World) (R:Bx) (d:Nat) (o:Except Qq PS) (F:PS->Nat->Option Out) (en:Ending) (w':World):Prop:= ∃u R',Does o F u/\Qfr B g L w R d o u en w' R'
theorem QRun.got (H:QRun B g L w0 R0 d w R o) {u:Out} {en:Ending} (K:Qfr B g L w R d' o u en w' R'):Qfr B g L w0 R0 d' o u en w' R':=⟨H.then_ K.run,K.en,K.tell⟩
theorem Cc.back {u:Out} (h:Grow o o') (k:Cc o' u):Cc o u:=⟨k.kid,h.trans k.grow⟩
theorem Cc.err {f:Qq}:Cc o (.error f):=⟨λs' e=>(by cases e),λs' e=>(by cases e)⟩
theorem Grow.err {f:Qq}:Grow o (.error f):=λs' e=>by cases e
theorem Grow.next {s:PS}:Grow (.ok s) (.ok s.next):=λs' e=>by injection e with e;subst e;exact ⟨s,rfl,Qh _⟩
theorem Grow.fail (x a:Nat):Grow o (Lu x a o):=λs' e=>by cases o<;>cases e
theorem Grow.name:Grow o (Vg o):=λs' e=>by
 cases o with
 |error f=>cases e
 |ok s=>
  by_cases hb:s.tok.kind=1
  ·rw [Qkd hb]at e;injection e with e;subst e;exact ⟨s,rfl,Qh _⟩
  ·rw [Qcr hb]at e;cases e
theorem Grow.kind:Grow o (F3 o):=λs' e=>by
 cases o with
 |error f=>cases e
 |ok s=>
  by_cases hb:Yt s.tok=0
  ·rw [Qd5 hb]at e;cases e
  ·rw [U4 hb]at e;injection e with e;subst e;exact ⟨s,rfl,Qh _⟩
def Js (o:Except Qq PS) (k:Int):Prop:= ∀s,o= .ok s->0<=k/\k<(s.l.length:Int)
theorem Js.grow {k:Int} (h:Js o k) (hg:Grow o o'):Js o' k:=λs' e=>by obtain ⟨s,h1,h2⟩:=hg s' e;have:=h s h1;exact ⟨this.1,by omega⟩
theorem Cc.Xd {u:Out} (h:Cc o u):Js (toO u) (Qt u):=h.kid
theorem Qw.old (H:Qw B g L w R d o):B<=w.heap.size:=by obtain ⟨p,l,hh,dd,e,q,H⟩:=H.core;have h1:=H.old;have h2:=H.box.lt;omega
theorem Qw.zlt (H:Qw B g L w R d o) {k:Nat} (hk:R.Z k):k<w.heap.size:=by obtain ⟨p,l,hh,dd,e,q,H⟩:=H.core;exact (H.zone k hk).1
theorem Ie (K:Int) (acc:List Int) (n:Int) (S:ByteArray) (a:Nat) (cs:Array Value) (hcs:cs=(acc.map (Value.int .i64)).toArray) (m:Nat) (hm:m=acc.length) (H:Qw B g L w R d o) (hv: ∀k∈acc,Js o k) (hl:Qc o L.length L.length) (hn:acc.length<=100000):
  Calls prog 38 #[.pointer (some ⟨g,0,none⟩),.agg #[.int .i64 K,.slice (some ⟨w.heap.size,0,none⟩) m m,.int .i64 n,.string S,.int .i64 (a:Int)]] (w.alloc (.cells cs 3)) λen w'=> ∃u R',Does o (λs _=>some (lay (En K acc n S (a:Int)) s)) u/\Qfr B g L w R d o u en w' R'/\ ∀n m,Qc o n m->Qc (toO u) (n+1) m:=by
 have hW1:Below w.heap.size w (w.alloc (.cells cs 3)):=Qag;have H1:=H.widen hW1 (λk=>R.Z k\/k=w.heap.size) (λk hk=>by
  rcases hk with hk |hk
  ·exact .inl hk
  ·exact .inr ⟨by omega,by rw [hk];simp⟩);refine (Qtz (B':=w.heap.size) K _ acc n S a H1 (Qex w acc cs hcs hn m hm) H.old (λk hk=> ?_) (λs hs k hk=>hv k hk s hs) hl hn).mono ?_
 ·have e:w.heap.size=k:=by simpa [Value.ownBlock] using hk
  exact .inr e.symm
 ·rintro en w' ⟨u,R',h1,h2,h3,h4,h5⟩;refine ⟨u,R',h1,⟨⟨h2.any,(Fr.of_below R hW1).trans ⟨h2.fr.os,h2.fr.tape,h2.fr.output,h2.fr.size,h2.fr.block,h2.fr.vn,h2.fr.vh⟩,λk hk=>h4 k (.inl hk) (λe=> ?_)⟩,h2.en,h3⟩,h5⟩;have e:w.heap.size=k:=by simpa [Value.ownBlock] using e
  have:=H.zlt hk;omega
theorem Qav (K:Int) (n:Int) (S:ByteArray) (a:Nat) (H:Qw B g L w R d o) (hl:Qc o L.length L.length):
  Calls prog 38 #[.pointer (some ⟨g,0,none⟩),.agg #[.int .i64 K,.slice none 0 0,.int .i64 n,.string S,.int .i64 (a:Int)]] w λen w'=> ∃u R',Does o (λs _=>some (lay (En K [] n S (a:Int)) s)) u/\Qfr B g L w R d o u en w' R'/\ ∀n m,Qc o n m->Qc (toO u) (n+1) m:=by
 refine (Qtz (B':=w.heap.size) K (.slice none 0 0) [] n S a H ⟨rfl,.inl ⟨rfl,rfl⟩⟩ H.old (λk hk=>by simp [Value.ownBlock]at hk) (λs hs k hk=>absurd hk (Ef)) hl (by simp)).mono ?_;rintro en w' ⟨u,R',h1,h2,h3,h4,h5⟩;exact ⟨u,R',h1,⟨⟨h2.any,h2.fr,λk hk=>h4 k hk (λe=>by simp [Value.ownBlock]at e)⟩,h2.en,h3⟩,h5⟩
structure Ar (B g:Nat) (L:List Tk) (w0:World) (R0:Bx) (d:Nat) (w:World) (R:Bx) (o:Except Qq PS) (v:Value) (acc:List Int):Prop extends QRun B g L w0 R0 d w R o where
 zv: ∀k,v.ownBlock=some k->R.Z k
 now:Now w0.heap.size w v acc
 kids: ∀k∈acc,Js o k
 base:Vw<=w0.heap.size
 z00: ∀k,R0.Z k->k<w0.heap.size
theorem QRun.pre (H:QRun B g L w0 R0 d w R o) (H0:Qw B g L w0 R0 d' o'):Ar B g L w0 R0 d w R o (.slice none 0 0) []:=
 ⟨H,λk hk=>by simp [Value.ownBlock]at hk,⟨rfl,.inl ⟨rfl,rfl⟩⟩,λk hk=>absurd hk (Ef),H0.tabs.size,λk hk=>H0.zlt hk⟩
theorem Ar.step (H:Ar B g L w0 R0 d w R o v acc) (hA:Qw B g L w' R' d' o') (F:Fr g w w' R R') (hz: ∀k,R.Z k->R'.Z k) (hg:Grow o o'):Ar B g L w0 R0 d' w' R' o' v acc:=
 ⟨H.toQRun.step hA F hz,λk hk=>hz k (H.zv k hk),Qw.Qq1 H.now H.any H.zv F,λk hk=>(H.kids k hk).grow hg,H.base,H.z00⟩
theorem Ar.then_ (H:Ar B g L w0 R0 d w R o v acc) (K:QRun B g L w R d' w' R' o') (hg:Grow o o'):Ar B g L w0 R0 d' w' R' o' v acc:=H.step K.any K.fr K.z hg
theorem Ar.below (H:Ar B g L w0 R0 d w R o v acc) (hb:Below w.heap.size w w'):Ar B g L w0 R0 d w' R o v acc:=H.step (H.any.below hb) (Fr.of_below R hb) (λ_ h=>h) (Grow.refl o)
theorem Ar.push (H:Ar B g L w0 R0 d w R o v acc) {w3:World} {v3:Value} {k:Int} {cs:Array Value} (hk:Js o k) (h3:Now w0.heap.size w3 v3 (acc++[k])) (hg:(w.alloc (.cells cs 3)).grownBy w3 v.ownBlock) (hw: ∀j,v3.ownBlock=some j->v.ownBlock=some j\/j=(w.alloc (.cells cs 3)).heap.size):
  ∃R3,Ar B g L w0 R0 d w3 R3 o v3 (acc++[k]):=by
 have hB:Below w.heap.size w (w.alloc (.cells cs 3)):=Qag;have hv:=Dr H.now hB;refine ⟨{R with Z:=λk=>R.Z k\/v3.ownBlock=some k},⟨⟨H.any.wider hB hv H.base H.zv hg _ (λk hk=> ?_),Qmb H.fr hB hv hg _,λk hk=>.inl (H.z k hk)⟩,λk hk=>.inr hk,h3,λj hj=> ?_,H.base,H.z00⟩⟩
 ·rcases hk with hk |hk
  ·exact .inl hk
  ·rcases hw k hk with h1 |h1
   ·exact .inl (H.zv k h1)
   ·exact .inr ⟨by rw [h1];simp,(World.ownsRow.lt h3 k hk).2⟩
 ·rcases List.mem_append.1 hj with hj |hj
  ·exact H.kids j hj
  ·rw [List.mem_singleton.1 hj];exact hk
theorem Ar.lay (K:Int) (n:Int) (S:ByteArray) (a:Nat) (H:Ar B g L w0 R0 d w R o v acc) (hB:B<=w0.heap.size) (hl:Qc o L.length L.length) (hn:acc.length<=100000):
  Calls prog 38 #[.pointer (some ⟨g,0,none⟩),.agg #[.int .i64 K,v,.int .i64 n,.string S,.int .i64 (a:Int)]] w λen w'=> ∃u R',Does o (λs _=>some (Go.Proofs.YtdncpkkhkbijfaaGreatDoor.lay (En K acc n S (a:Int)) s)) u/\Qfr B g L w0 R0 d o u en w' R'/\ ∀n m,Qc o n m->Qc (toO u) (n+1) m:=by
 refine (Qtz (B':=w0.heap.size) K v acc n S a H.any H.now hB H.zv (λs hs k hk=>H.kids k hk s hs) hl hn).mono ?_;rintro en w' ⟨u,R',h1,h2,h3,h4,h5⟩;refine ⟨u,R',h1,⟨⟨h2.any,H.fr.trans h2.fr,λk hk=>h4 k (H.z k hk) (λe=> ?_)⟩,h2.en,h3⟩,h5⟩;have h6:=(World.ownsRow.lt H.now k e).1;have:=H.z00 k hk;omega
theorem Does.Af {m:Md} {u:Out} (h:Does o (λs n=>Qg n m d s) u) (n k:Nat) (hl:Qc o n k):Qc (toO u) n k:=by
 cases o with
 |error f=>rw [show u=_ from h];exact Qc.err
 |ok s=>
  match u,h with
  | .error f,_=>exact Qc.err
  | .ok (p,s1),h=>
   intro s' e;injection e with e
   subst e;obtain ⟨n0,hn⟩:=h;have h1:Reads m d s (.ok (p,s1)):=⟨n0,hn n0 (Qh _)⟩;have h2:=hl s rfl;have h3:=h1.N7;exact ⟨by omega,by omega⟩
end
end Go.Proofs.YtdncpkkhkbijfaaGreatDoor
