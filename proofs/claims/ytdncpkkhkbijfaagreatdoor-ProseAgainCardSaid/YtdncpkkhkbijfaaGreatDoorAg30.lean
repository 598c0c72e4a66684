import Derived.Test.YtdncpkkhkbijfaaGreatDoorAg14
import Derived.Test.YtdncpkkhkbijfaaGreatDoorAg29
open Go.Proofs.Tryz
set_option linter.all false
set_option maxHeartbeats 0
set_option maxRecDepth 100000
namespace Go.Proofs.YtdncpkkhkbijfaaGreatDoor
theorem Qk5 (c:Bool) (t:List UInt8):(K6 c t).length<=t.length+2:=by
 cases c with
 |true=>rw [Q72,Qp,Qf];simp
 |false=>rw [Q6j];omega
theorem Wi1 (op:Nat):(Xu.getD op []).length<=2:=by
 rcases V7 op 17 with h |h
 ·exact (by decide: ∀op,op<17->(Xu.getD op []).length<=2) op h
 ·rw [Yc,Qbz (by show 17<=op;exact h)];exact Vh _
mutual
theorem Cq: ∀e:Ex,e.fin->e.txt.length+4<=48*e.size
 | .num n,h=>by rw [Ex.fin]at h;have:=Lib.itoa_length_le (n:Int) (by omega) (by omega);rw [Ex.txt,show (Ex.num n).size=1 from rfl];omega
 | .bool b,h=>by rw [Ex.txt,show (Ex.bool b).size=1 from rfl];cases b<;>decide
 | .nil,h=>by rw [Ex.txt,show Ex.nil.size=1 from rfl];decide
 | .var s,h=>by rw [Ex.fin]at h;have:=h.short;rw [Ex.txt,show (Ex.var s).size=1 from rfl];omega
 | .bin op a b,h=>by rw [Ex.fin]at h;have h1:=Cq a h.2.2.1;have h2:=Cq b h.2.2.2;have h3:=Wi1 op;have h4:=Qk5 (decide (a.st<=Ld op)) a.txt;have h5:=Qk5 (decide (b.st<=stOp op)) b.txt;rw [Ex.txt,Ex.size,Qf,Qp,Qf,Qp];omega
 | .neg a,h=>by rw [Ex.fin]at h;have h1:=Cq a h;have h4:=Qk5 (decide (a.st<=5)) a.txt;rw [Ex.txt,Ex.size,Qp];omega
 | .not a,h=>by rw [Ex.fin]at h;have h1:=Cq a h;have h4:=Qk5 (decide (a.st<=5)) a.txt;rw [Ex.txt,Ex.size,Qp];omega
 | .index a b,h=>by rw [Ex.fin]at h;have h1:=Cq a h.1;have h2:=Cq b h.2;have h4:=Qk5 (decide (a.st<=6)) a.txt;rw [Ex.txt,Ex.size,Qf,Qp,Qf,Yw];omega
 | .len a,h=>by rw [Ex.fin]at h;have h1:=Cq a h;rw [Ex.txt,Ex.size,Qf,Qp,Qf,Yw,show Ky.length=3 from rfl];omega
 | .new a,h=>by rw [Ex.fin]at h;have h1:=Cq a h;rw [Ex.txt,Ex.size,Qf,Qp,Qf,Yw,show Ah.length=3 from rfl];omega
 | .call s xs,h=>by rw [Ex.fin]at h;have h1:=Q28 xs h.2.2 true;have:=h.1.short;rw [Ex.txt,Ex.size,Qf,Qp,Qf,Yw];omega
theorem Q28: ∀xs:List Ex,Pq xs-> ∀f:Bool,(Zo f xs).length<=48*sizes xs
 | [],_,f=>by rw [Zo];exact Vh _
 |a::xs,h,f=>by
  rw [Pq]at h;have h1:=Cq a h.1;have h2:=Q28 xs h.2 false;have h3:((if f=true then []else [44,32]:List UInt8)).length<=2:=by cases f<;>decide
  rw [Zo,sizes,Qf,Qf];omega
end
def Nt (b:List St):Nat:=Zg (Zl b)+1
theorem Woz (e:Ex) (b:List St):(St.if_ e b).part.size=e.size+(Nt b+0)+1:=by rw [St.part];rfl
theorem Wol (e:Ex) (b c:List St):(St.Cz e b c).part.size=e.size+(Nt b+(Nt c+0))+1:=by rw [St.part];rfl
theorem Wi8 (e:Ex) (b:List St):(St.Kl e b).part.size=e.size+(Nt b+0)+1:=by rw [St.part];rfl
theorem Wnt (s:List UInt8) (a b:Ex) (c:List St):(St.for_ s a b c).part.size=a.size+(b.size+(Nt c+0))+1:=by rw [St.part];rfl
theorem Wku (s:List UInt8) (e:Ex):(St.let_ s e).part.size=e.size+0+1:=by rw [St.part];rfl
theorem Wq7 (s:List UInt8) (e:Ex):(St.set s e).part.size=e.size+0+1:=by rw [St.part];rfl
theorem Wam (s:List UInt8) (i e:Ex):(St.put s i e).part.size=i.size+(e.size+0)+1:=by rw [St.part];rfl
theorem Wk8 (e:Ex):(St.ret e).part.size=e.size+0+1:=by rw [St.part];rfl
theorem Wen (e:Ex):(St.print e).part.size=e.size+0+1:=by rw [St.part];rfl
theorem Wa7 (s:List UInt8) (xs:List Ex):(St.do_ s xs).part.size=(Ex.call s xs).size+0+1:=by rw [St.part];rfl
theorem Wi5 (a:St) (b:List St):Zg (Zl (a::b))=a.part.size+Zg (Zl b):=by rw [Zl];rfl
theorem Qf9 (n:Nat):(tabs n).length=n:=List.length_replicate
theorem Nh {B n:Nat} (h:48<=B):48*n<=B*n:=Nat.mul_le_mul_right n h
mutual
theorem Wio: ∀(a:St) (d K B:Nat),a.fin->d+a.part.size<=K->B=2*K+60->(a.txt d).length+d+2<=B*a.part.size
 | .let_ s e,d,K,B,h,hK,hB=>by rw [St.fin]at h;have h1:=Cq e h.2;have h2:=h.1.short;have h3:=Nh (B:=B) (n:=e.size) (by omega);rw [Wku]at hK ⊢;rw [St.txt,Cu,Cu];simp only [Qf,Qp,Q8,show Jj.length=3 from rfl,show eqs.length=1 from rfl];omega
 | .set s e,d,K,B,h,hK,hB=>by rw [St.fin]at h;have h1:=Cq e h.2;have h2:=h.1.short;have h3:=Nh (B:=B) (n:=e.size) (by omega);rw [Wq7]at hK ⊢;rw [St.txt,Cu,Cu];simp only [Qf,Qp,Q8,show eqs.length=1 from rfl];omega
 | .put s i e,d,K,B,h,hK,hB=>by rw [St.fin]at h;have h1:=Cq e h.2.2;have h0:=Cq i h.2.1;have h2:=h.1.short;have h3:=Nh (B:=B) (n:=e.size) (by omega);have h4:=Nh (B:=B) (n:=i.size) (by omega);rw [Wam]at hK ⊢;rw [St.txt,Cu,Cu,Cu];simp only [Qf,Qp,Q8,show eqs.length=1 from rfl];omega
 | .if_ e b,d,K,B,h,hK,hB=>by rw [St.fin]at h;rw [Woz,Nt]at hK ⊢;have h1:=Cq e h.1;have h2:=Qe0 b (d+1) K B h.2 (by omega) hB;have h3:=Nh (B:=B) (n:=e.size) (by omega);rw [St.txt,Cu,Cu,Cu,Cu];simp only [Qf,Qp,Q8,show Ae.length=2 from rfl,Qf9];omega
 | .Cz e b c,d,K,B,h,hK,hB=>by rw [St.fin]at h;rw [Wol,Nt,Nt]at hK ⊢;have h1:=Cq e h.1;have h2:=Qe0 b (d+1) K B h.2.1 (by omega) hB;have h4:=Qe0 c (d+1) K B h.2.2 (by omega) hB;have h3:=Nh (B:=B) (n:=e.size) (by omega);rw [St.txt];simp only [Cu,Qf,Qp,Q8,show Ae.length=2 from rfl,show X7.length=4 from rfl,Qf9];omega
 | .Kl e b,d,K,B,h,hK,hB=>by rw [St.fin]at h;rw [Wi8,Nt]at hK ⊢;have h1:=Cq e h.1;have h2:=Qe0 b (d+1) K B h.2 (by omega) hB;have h3:=Nh (B:=B) (n:=e.size) (by omega);rw [St.txt];simp only [Cu,Qf,Qp,Q8,show Ck.length=5 from rfl,Qf9];omega
 | .for_ s a b c,d,K,B,h,hK,hB=>by rw [St.fin]at h;rw [Wnt,Nt]at hK ⊢;have h0:=h.1.short;have h1:=Cq a h.2.1;have h5:=Cq b h.2.2.1;have h2:=Qe0 c (d+1) K B h.2.2.2 (by omega) hB;have h3:=Nh (B:=B) (n:=a.size) (by omega);have h4:=Nh (B:=B) (n:=b.size) (by omega);rw [St.txt];simp only [Cu,Qf,Qp,Q8,show Kc.length=3 from rfl,show eqs.length=1 from rfl,Qf9];omega
 | .brk,d,K,B,h,hK,hB=>by rw [show St.brk.part.size=1 by rw [St.part];rfl]at hK ⊢;rw [St.txt];simp only [Qf,Qp,Q8,show Ju.length=5 from rfl];omega
 | .cont,d,K,B,h,hK,hB=>by rw [show St.cont.part.size=1 by rw [St.part];rfl]at hK ⊢;rw [St.txt];simp only [Qf,Qp,Q8,show Jy.length=8 from rfl];omega
 | .ret e,d,K,B,h,hK,hB=>by rw [St.fin]at h;have h1:=Cq e h;have h3:=Nh (B:=B) (n:=e.size) (by omega);rw [Wk8]at hK ⊢;rw [St.txt];simp only [Cu,Qf,Qp,Q8,show Ap.length=6 from rfl];omega
 | .print e,d,K,B,h,hK,hB=>by rw [St.fin]at h;have h1:=Cq e h;have h3:=Nh (B:=B) (n:=e.size) (by omega);rw [Wen]at hK ⊢;rw [St.txt];simp only [Cu,Qf,Qp,Q8,show Bp.length=5 from rfl];omega
 | .do_ s xs,d,K,B,h,hK,hB=>by rw [St.fin]at h;have h1:=Cq (.call s xs) h;have h3:=Nh (B:=B) (n:=(Ex.call s xs).size) (by omega);rw [Wa7]at hK ⊢;rw [St.txt,Cu,Cu,Qf,Yw];omega
theorem Qe0: ∀(b:List St) (d K B:Nat),Fy b->d+Zg (Zl b)<=K->B=2*K+60->(Vk b d).length<=B*Zg (Zl b)
 | [],d,K,B,h,hK,hB=>by rw [Vk];exact Vh _
 |a::b,d,K,B,h,hK,hB=>by rw [Fy]at h;rw [Wi5]at hK ⊢;have h1:=Wio a d K B h.1 (by omega) hB;have h2:=Qe0 b d K B h.2 (by omega) hB;rw [Vk];simp only [Cu,Qf,Qp,Qf9];omega
end
theorem Qo6 (k:Nat):(Xh k).length<=4:=by
 rcases V7 k 4 with h |h
 ·exact (by decide: ∀k,k<4->(Xh k).length<=4) k h
 ·unfold Xh;rw [Yc,Qbz (by show 4<=k;exact h)];exact Vh _
theorem Qoo: ∀(ps:List (List UInt8×Nat)),(∀p∈ps,Qd0 p)-> ∀f:Bool,(Fj f ps).length<=48*Zg (ps.map Zb)
 | [],_,f=>Vh _
 |p::ps,h,f=>by
  have h1:=(h p (by simp)).1.short;have h2:=Qoo ps (λq hq=>h q (Iy _ hq)) false;have h3:((if f=true then []else [44,32]:List UInt8)).length<=2:=by cases f<;>decide
  have h4:=Qo6 p.2;have h5:Zg ((p::ps).map Zb)=1+Zg (ps.map Zb):=rfl;rw [Fj,h5];simp only [Qf,Qp];omega
theorem Wcd (ps qs:List Part):Zg (ps++qs)=Zg ps+Zg qs:=by rw [Qld,Qld,Qld,Zp,List.sum_append]
theorem Wp9 (f:Wm):f.part.size=Zg (f.ps.map Zb)+(Nt f.body+0)+1:=by show Zg f.parts+1=_;unfold Wm.parts;rw [Wcd];rfl
theorem Wkx {f:Wm} (h:f.Fin) {K B:Nat} (hK:f.part.size<=K) (hB:B=2*K+60):f.txt.length<=B*f.part.size:=by rw [Wp9,Nt]at hK ⊢;have h1:=Qe0 f.body (0+1) K B h.body (by omega) hB;have h2:=Qoo f.ps h.Qnb true;have h3:=Nh (B:=B) (n:=Zg (f.ps.map Zb)) (by omega);have h4:=h.name.short;have h5:=Qo6 f.k;unfold Wm.txt Bf;simp only [Cu,Qf,Qp,Q8,show Ki.length=2 from rfl,Qf9];omega
theorem Qsk: ∀(fs:List Wm) (K B:Nat),(∀f∈fs,f.Fin)->Zg (fs.map Wm.part)<=K->B=2*K+60->(Xv fs).length<=B*Zg (fs.map Wm.part)
 | [],K,B,_,_,_=>Vh _
 |f::fs,K,B,h,hK,hB=>by have e:Zg ((f::fs).map Wm.part)=f.part.size+Zg (fs.map Wm.part):=rfl;rw [e]at hK ⊢;have h1:=Wkx (h f (by simp)) (K:=K) (by omega) hB;have h2:=Qsk fs K B (λq hq=>h q (Iy _ hq)) (by omega) hB;rw [Xv,Qf,Cu];omega
section
open Go.RowKit
theorem Q8f {w:World} {w':World} (hb:Held w' w.heap.size 42 #[.pointer none,.slice none 0 0]):Bd w.heap.size w.heap.size [] w':=
 .inl ⟨Qh _,.slice none 0 0,hb,⟨rfl,.inl ⟨rfl,rfl⟩⟩,by simp [Value.ownBlock]⟩
theorem Wp4 {K n:Int} (h:Q6 K=true) (hop:K=5->1<=n/\n<=16):Jt K n≠0:=by
 unfold Jt;by_cases h5:K=5
 ·rw [Qk h5];have:=hop h5;rw [Qd (by omega)];have h1:=(by decide: ∀op,op<17->1<=op->1<=stOp op) n.toNat (by omega) (by omega);omega
 ·rw [Qd h5];by_cases h67:K=6\/K=7
  ·rw [Qk h67];decide
  ·rw [Qd h67,Qk h];decide
def Wq6 (l:List Nd) (w:World) (e:Ending) (w':World):Prop:=Below w.heap.size w w'/\
 ((Rt l/\Q6 (nd l (l.length-1)).kind=true/\ ∃x,XE l ((l.length-1:Nat):Int) x/\e= .returned (.tuple #[.string ⟨x.txt.toArray⟩,.bool true]))\/(¬(Rt l/\Q6 (nd l (l.length-1)).kind=true)/\e= .returned (.tuple #[.string ⟨#[]⟩,.bool false])))
theorem Wkz (a:Option Addr) (c n:Nat) (l:List Nd) (w:World) (hn:n=l.length) (hf:n<=1000000) (hc:n<=c) (hN:Nodes w a l) (hP:Ir w) (J5: ∀j,j<l.length->(nd l j).n<=9223372036854775807):
  Calls prog 14 #[.slice a n c] w (Wq6 l w):=by
 have hright:=Qsq a c l w hP.tabs hN (by omega);rw [<-hn]at hright;have HR:=Qa hright;have HN:=Qa hN;have HP:=Qa hP;have Zn:=Qa hn;have Qdw:=Qa J5;clear hright hN hP hn J5;go_enter func14,ntmps14;rw [Qz 3,Qz 4];go_wp2_with fail;refine HR.out.mono ?_;rintro e w1 ⟨b,rfl,hiff,hb1⟩;have HB1:=Qa hb1;have Ka:=Qa hiff;clear hb1 hiff;cases b with
 |false=>
  have V9:Hid (¬Rt l):=λh=>by cases Ka.out.2 h
  go_wp2_with fail;exact bodyPost_ret (v:=.tuple #[.string ⟨#[]⟩,.bool false]) (by simp [results,results14,go_sem]) rfl ⟨HB1.out,.inr ⟨λh=>V9.out h.1,rfl⟩⟩
 |true=>
  have Nf:Hid (Rt l):=Ka.out.1 rfl;have hpos:0<n:=by rw [Zn.out];exact Nf.out.1.1
  obtain ⟨p,rfl⟩: ∃p,n=p+1:=⟨n-1,by omega⟩;have hpl:p<l.length:=by rw [<-Zn.out];omega
  have HPE:Hid (l.length-1=p):=by show _=_;rw [<-Zn.out,Nat.add_sub_cancel]
  obtain ⟨nb,no,rfl,hnb,c0,c1,c2,c3,c4⟩:=(HN.out.below HB1.out).at_ hpl;obtain ⟨y,hy⟩:=Qb (nd l p);rw [<-hy]at c0 c1 c2 c3 c4;have HY:=Qa hy;have Jb:=Qa (Lm y.kind y.n y.ka y.kids.length y.kc y.s y.at_ w1 (HP.out.below HB1.out));have Wc7:=Qa ((Wz.of Nf.out Qdw.out).fit hpl);have hpi:(p:Int)<(p:Int)+1:=by omega
  have hwp:IntKind.i64.wrap (p:Int)=(p:Int):=Go.IntWalk.i64_in _ (by omega);clear hy;go_wp2_with fail;refine Jb.out.mono ?_;rintro e w2 ⟨rfl,hb2⟩;have HB2:Hid (Below w.heap.size w w2):=HB1.out.trans (hb2.mono HB1.out.size);clear hb2 c0 c1 c2 c3 c4;cases hx:Q6 y.kind with
  |false=>
   have V9:Hid (¬Q6 (nd l (l.length-1)).kind=true):=(by show¬_;rw [HPE.out,<-HY.out,hx];exact Bool.false_ne_true);have HS0:=Qa (Q30 (n:=y.n) hx);rw [HS0.out];clear hx;go_wp2_with fail;exact bodyPost_ret (v:=.tuple #[.string ⟨#[]⟩,.bool false]) (by simp [results,results14,go_sem]) rfl ⟨HB2.out,.inr ⟨λh=>V9.out h.2,rfl⟩⟩
  |true=>
   have Q4q:Hid (Q6 (nd l (l.length-1)).kind=true):=(by show _=_;rw [HPE.out,<-HY.out,hx]);have hst:Jt y.kind y.n≠0:=Wp4 hx (λh5=>by
    have h1:=Oz (show ownB y=true by rw [HY.out];exact Wc7.out.1) h5;have h2:(decide (1<=y.n)&&decide (y.n<=16))=true:=h1;rw [Yo,Wt,Wt]at h2;exact h2);have HXE:Hid (∃x,XE l ((p:Nat):Int) x/\x.txt.length<=48000000):=by
    obtain ⟨x,hX,_⟩:=((Wz.of Nf.out Qdw.out).is hpl).ex (by rw [<-HY.out];exact hx);refine ⟨x,hX,?_⟩;have h1:=Cq x hX.fin;have h2:x.size=sz l p:=hX.z;have h3:=Qlo Nf.out.1;rw [HPE.out]at h3;have h4:=Zn.out;omega
   obtain ⟨S,hS⟩:=Qb (Jt y.kind y.n);rw [<-hS]at hst ⊢;have hSi: ¬(S:Int)=0:=(by omega);clear hS hst hx;go_wp2_with fail;refine Qn ?_;go_wp2_with fail;obtain ⟨x,hX,hxl⟩:=HXE.out;have HX:=Qa hX;have HXL:=Qa hxl;clear hX hxl;obtain ⟨ob,Ip⟩:=Qb w2.heap.size;obtain ⟨w3,hw3⟩:=Qb (w2.alloc (.cells #[.pointer none,.slice none 0 0] 42));have Qur:Hid (Below w2.heap.size w2 w3):=(by rw [hw3];exact Qag);have Wja:Hid (Bd w2.heap.size ob [] w3):=by rw [Ip];exact Q8f (by rw [hw3];exact Held.new w2 _ _)
   rw [<-hw3,<-Ip];clear hw3 Ip;have Oo:=Qa (Wz.of Nf.out Qdw.out);have HN2:=Qa (HN.out.below HB2.out);have Gl:=Qa (HP.out.below HB2.out);refine Qn ?_;go_wp2_with fail;refine (Qw0 (c:=c) HN2.out Zn.out (by omega) hc Oo.out Gl.out Qur.out Wja.out).mono ?_;rintro e w4 ⟨Ho,Ih,G6,Gw,rfl,Yz,hb4⟩;have Ya:=Qa Yz;have Zv:Hid (Below w2.heap.size w2 w4):=Qur.out.trans (hb4.mono Qur.out.size);clear Yz hb4;have Df:=Qa (Q5t (P:=⟨w2,some ⟨nb,no,none⟩,l,p+1,c,ob,Ho,Ih,G6,Gw⟩) Oo.out (p+1) p (by omega) hpl (by show Q6 (nd l p).kind=true;rw [<-HPE.out];exact Q4q.out) x HX.out [] w4 Ya.out (by have:=HXL.out;simp;omega));go_wp2_with fail;refine Df.out.mono ?_;rintro e w5 ⟨rfl,Vv,hk5⟩;have Zz:=Qa Vv;have A9:Hid (Below w2.heap.size w2 w5):=Zv.out.trans hk5.below;clear Vv hk5;go_wp2_with fail;refine (Tryz.Builder_String_any_k w2.heap.size ob ([]++x.txt) w5 Zz.out.bd Zz.out.bd.size).mono ?_;rintro e w6 ⟨rfl,_,hb6,_⟩;have Br:Hid (Below w.heap.size w w6):=HB2.out.trans ((A9.out.trans hb6).mono HB2.out.size);clear hb6;go_wp2_with fail;exact bodyPost_ret (v:=.tuple #[.string ⟨x.txt.toArray⟩,.bool true]) (by simp [results,results14,go_sem]) rfl ⟨Br.out,.inl ⟨Nf.out,Q4q.out,x,by rw [HPE.out];exact HX.out,rfl⟩⟩
theorem Wm3:(prog.info? 9).map (λi=>(i.zero,i.size,i.bytes))=some (some (.string ⟨#[]⟩),1,16):=by kernel_rfl
theorem Wgh {ops:Array Oper} {o:Oper} {a:Act} {K:Act->World->Prop} {Q:Exit->Act->World->Prop} {E:Prop} (hgd:o.guard=none) (s x:Operand)
  (ho:o.op= .call {callee:=.builtin .append,args:= #[s,x],argTypes:= #[86,86]})
  (w0 w:World) (v:Value) (n:Nat) (xs:List Value) (z:ByteArray) (hs:a.eval s=v) (hx:a.eval x= .slice (some ⟨w.heap.size,0,none⟩) 1 1) (hb:Xi 9 1 w0 w v n xs) (hlen:n<=10000000)
  (h: ∀v' w',Xi 9 1 w0 w' v' (n+1) (xs++[.string z])->K (a.put o.dst v') w'):
  if Region.wanted o (yielded ops a.tmps)=true then Oper.wp prog o a (w.alloc (.cells #[.string z] 9)) K Q else E:=by
 obtain ⟨i0,hi,hz0,hz1,hz2⟩:=info_parts Wm3;refine step_append_lies _ hgd s x 86 ho w0.heap.size 9 i0 (.string ⟨#[]⟩) 1 16 underlying86 hi hz0 hz1 hz2 rfl (by decide) v n xs hs (hb.1.alloc _) ⟨w.heap.size,0,none⟩ 1 1 [.string z] hx rfl ?_ ?_ (by decide) (by unfold maxLen;omega) (by omega) (by have:=hb.2.size;simp;omega) _ rfl ?_
 ·intro j u hj
  match j,hj with
  | 0,hj=>simp at hj;subst hj;simp [Addr.add]
 ·intro u hu;simp at hu;subst hu;rfl
 ·intro g cap w' hown hgrow hw hlt;refine h (.slice (some ⟨g,0,none⟩) (n+1) cap) w' ⟨hown,?_⟩;refine ((hb.2.alloc hb.2.size _)).grown hgrow (by have:=hb.2.size;simp;omega) ?_;intro k hk;exact (hb.1.lt k hk).1
def pv9 (p:List UInt8×Nat):Value:=.string ⟨(p.1++32::Xh p.2).toArray⟩
theorem Q13 {m:Nat} (h:m<=3):Ud (m:Int)=Xh m:=by unfold Ud Xh;rw [Qk (by omega),Ja]
theorem Whk (S K:List UInt8):(⟨S.toArray⟩++(⟨#[32]⟩:ByteArray)++⟨K.toArray⟩:ByteArray)=⟨(S++32::K).toArray⟩:=by apply ByteArray.ext;simp
theorem Q07: ∀(f:Bool) (ps:List (List UInt8×Nat)),ps≠[]->Fj f ps=(if f then []else [44,32])++Lib.join (ps.map λp=>p.1++32::Xh p.2) [44,32]
 |f,[],h=>absurd rfl h
 |f,[p],_=>by rw [Y6,Vi,Lib.join_one];simp [Fj]
 |f,p::q::ps,_=>by have ih:=Q07 false (q::ps) (List.cons_ne_nil _ _);rw [Y6,Lib.join_cons];rw [Fj,ih,Y6,Lib.join_cons];simp [Lib.joinTail]
theorem Wom {w:World} {a ka:Option Addr} {l:List Nd} {n c kc m:Nat} {ks:List Int} {ps:List (List UInt8×Nat)} (hn:n=l.length) (hf:n<=1000000) (hN:Nodes w a l) (hP:Ir w) (hm:m=ks.length) (hm8:m<=8) (hr:Vd .i64 w ka m (λj=>ks.getD j 0)) (hpl:ps.length=m)
  (hk: ∀j,j<m-> ∃q:Nat,ks.getD j 0=(q:Int)/\q<l.length/\Qv l q 24 ((ps.getD j ([],0)).2:Int) (ps.getD j ([],0)).1 []/\Qd0 (ps.getD j ([],0))):
  Calls prog 19 #[.slice a n c,.slice ka m kc] w λe w'=>e= .returned (.string ⟨(Fj true ps).toArray⟩)/\Below w.heap.size w w':=by
 have HN:=Qa hN;have HP:=Qa hP;have Zn:=Qa hn;have HR:=Qa hr;have O7:=Qa hpl;have HK:=Qa hk;clear hn hN hP hm hr hpl hk;go_enter func19,ntmps19;go_wp2_with fail;go_loopw [5,7,10] (λv _ t wr=> ∃j:Nat,j<=m/\t= .int .i64 (j:Int)/\Hid (Xi 9 1 w wr v j ((ps.take j).map pv9))) (λ_ _ t _=>m-(intOf t).toNat)
 case atStart=>exact ⟨0,by omega,rfl,by rw [List.take_zero];exact Xi.nil _ _ _⟩
 case round=>
  obtain ⟨j,hj,rfl,HV⟩:=hrel;by_cases hjm:j<m
  ·have Qgb:(j:Int)<(m:Int):=(by omega);obtain ⟨q,hq,M6,hat,hfin⟩:=HK.out j hjm;obtain ⟨kb,ko,hka,hkb,hkc⟩:=HR.out (by omega);have ck:=(HV.out.2.cell (p:=⟨kb,ko+j,none⟩) hkb).trans (hkc j hjm);simp only at ck;rw [hq]at ck;obtain ⟨nb,no,ha,hnb,hc5⟩:=(HN.out.below HV.out.2).at_ M6;obtain ⟨d0,d1,d2,d3,d4⟩:=hc5;rw [hat.n]at d2;rw [Q3k,hat.t]at d3;have hqn:(q:Int)<(n:Int):=(by have:=Zn.out;omega);obtain ⟨p,hp⟩:=Qb (ps.getD j ([],0));rw [<-hp]at d2 d3 hfin;have Yi:Hid ((ps.take (j+1)).map pv9=(ps.take j).map pv9++[pv9 p]):=by show _=_;rw [Qos (d:=(([],0):List UInt8×Nat)) (by rw [O7.out];exact hjm),Zp,<-hp];rfl
   obtain ⟨SB,hsb⟩:=Qb (⟨p.1.toArray⟩:ByteArray);obtain ⟨KB,hkb'⟩: ∃KB:ByteArray,KB=⟨(Xh p.2).toArray⟩:=⟨_,rfl⟩;have hsbz:SB.size<=32:=(by rw [hsb,Ad];exact hfin.1.short);have Wic:KB.size<=4:=(by rw [hkb',Ad];exact Qo6 _);have hz1: ¬(9223372036854775807<SB.size+1):=(by omega);have hz2: ¬(9223372036854775807<SB.size+1+KB.size):=(by omega);have Wky:Hid (Value.string (SB++(⟨#[32]⟩:ByteArray)++KB)=pv9 p):=(by show _=_;rw [hsb,hkb',Whk];rfl);have N8:Hid (Calls prog 20 #[.int .i64 (p.2:Int)] wr.drew λe w'=>e= .returned (.string KB)/\w'=wr.drew):=by have h1:=Qso (p.2:Int) wr.drew (((HP.out.below HV.out.2).below (Wq wr 1 _)).tabs);rw [Q13 hfin.2.2]at h1;rw [hkb'];exact h1
   rw [<-hsb]at d3;have HVD:=Qa (HV.out.drewN 1);obtain ⟨va,vc,hv,hvc,_⟩:=HV.out.shape;subst hv;rw [hka,ha];obtain ⟨N9,hN9⟩:=Qb ((p.2:Int):Int);rw [<-hN9]at d2 N8;clear d0 d1 d4 hkc hat hfin hq hp hsb hkb' hN9;go_wp2_with fail;go_region_law (first
    |(go_simp;go_at_call 20;refine N8.out.mono ?_;rintro e w2 ⟨rfl,hw2⟩;rw [hw2];clear hw2 w2)
    |(refine Wgh rfl (.tmp 14) (.tmp 28) rfl w wr.drew (.slice va j vc) j ((ps.take j).map pv9) (SB++(⟨#[32]⟩:ByteArray)++KB) (by rfl) (by rfl) HVD.out (by omega) ?_;intro v3 w3 h3;have HV3:=Qa h3;clear h3))
   all_goals
    rw [Wky.out,<-Yi.out]at HV3;go_wp2_with fail;go_roundw
    case rel=>exact ⟨j+1,by omega,by go_num,HV3⟩
    case measure=>simp [intOf];omega
  ·have HJ:Hid (ps.take j=ps):=(by show _=_;rw [F6 (by rw [O7.out];omega)]);rw [HJ.out]at HV;obtain rfl:j=m:=(by omega);rcases Nat.eq_zero_or_pos j with h0 |h0
   ·have HE:Hid (ps=[]):=List.length_eq_zero_iff.1 (by rw [O7.out];exact h0);subst h0;obtain ⟨va,vc,hv,_⟩:=HV.out.shape;subst hv;go_wp2_with fail;refine (Tryz.strings_Join_none va vc _ wr).mono ?_;rintro e w3 ⟨rfl,hw3⟩;rw [hw3];clear hw3 w3;go_wp2_with fail;go_ret;exact ⟨by rw [HE.out];rfl,HV.out.2⟩
   ·obtain ⟨va,vc,hv,hvc,hcell⟩:=HV.out.shape;obtain ⟨g,hg,Uz,hcc⟩:=hcell h0;subst hv hg;obtain ⟨F,hF⟩:=Qb (ps.map λp=>p.1++32::Xh p.2);have Uc:Hid ((F.map (λb=>(⟨b.toArray⟩:ByteArray))).length=j):=(by show _=_;rw [Zr,hF,Zr];exact O7.out);have HFM:Hid ((F.map (λb=>(⟨b.toArray⟩:ByteArray))).map (·.data.toList)=F):=by show _=_;rw [Ea];exact List.map_id F
    have Hz:Hid (ps≠[]):=λe=>(by have h1:=O7.out;rw [e]at h1;simp at h1;omega);have Qo:Hid (Fj true ps=Lib.join F [44,32]):=(by show _=_;rw [Q07 true ps Hz.out,hF];rfl);have HLEN:Hid ((Fj true ps).length<=48*100):=by
     have hfin: ∀p∈ps,Qd0 p:=λp hp=>by obtain ⟨i,hi⟩:=List.getElem?_of_mem hp;have hil:=(List.getElem?_eq_some_iff.1 hi).1;obtain ⟨_,_,_,_,h2⟩:=HK.out i (by rw [<-O7.out];exact hil);rw [Yc,hi]at h2;exact h2
     have h1:=Qoo ps hfin true;have h2: ∀qs:List (List UInt8×Nat),Zg (qs.map Zb)=qs.length:=λqs=>by
      induction qs with
      |nil=>rfl
      |cons q qs ih=>show (Zb q).size+Zg (qs.map Zb)=qs.length+1;rw [ih];show 0+1+qs.length=_;omega
     rw [h2]at h1;have h3:=O7.out;show _<=_;omega
    have hj:=Tryz.strings_Join g 0 vc (F.map (λb=>(⟨b.toArray⟩:ByteArray))) ⟨#[44,32]⟩ wr (λi y hy=>by
      rw [Bq];refine hcc i _ ?_;rw [Ng]at hy ⊢;cases hfj:F[i]? with
      |none=>rw [hfj]at hy;cases hy
      |some b=>
       rw [hfj]at hy;injection hy with hy
       rw [<-hy];rw [hF,Ng]at hfj;cases hpi:ps[i]? with
       |none=>rw [hpi]at hfj;cases hfj
       |some p=>
        rw [hpi]at hfj;injection hfj with hfj
        rw [<-hfj];rfl) Uz (by rw [Uc.out];omega) (by rw [Uc.out];exact hvc) (by rw [HFM.out];have h1:=HLEN.out;rw [Qo.out]at h1;exact F7 h1 (by omega));rw [Uc.out,HFM.out]at hj;have HJN:=Qa hj;clear hj hcell hcc Uz hvc hF;go_wp2_with fail;refine HJN.out.mono ?_;rintro e w3 ⟨rfl,hb3⟩;have HB3:Hid (Below w.heap.size w w3):=HV.out.2.trans (hb3.mono HV.out.2.size);clear hb3;go_wp2_with fail;go_ret;exact ⟨by rw [Qo.out];rfl,HB3.out⟩
def Wh6 (l:List Nd) (w:World) (e:Ending) (w':World):Prop:=Below w.heap.size w w'/\
 ((Wh l/\ ∃fs,XR l ((l.length-1:Nat):Int) fs/\e= .returned (.tuple #[.string ⟨(Xv fs).toArray⟩,.bool true]))\/(¬Wh l/\e= .returned (.tuple #[.string ⟨#[]⟩,.bool false])))
theorem Q6q (f:Wm): ∀fs:List Wm,Xv (fs++[f])=Xv fs++f.txt
 | []=>by show Xv [f]=_;simp [Xv]
 |x::fs=>by show Xv (x::(fs++[f]))=_;rw [Xv,Xv,Q6q f fs,Qy]
theorem Wnr {fs:List Wm} {j:Nat} (hj:j<fs.length):Xv (fs.take (j+1))=Xv (fs.take j)++(fs.getD j ⟨[],[],0,[]⟩).txt:=by rw [Qos (d:=(⟨[],[],0,[]⟩:Wm)) hj,Q6q]
theorem Q4b: ∀(fs:List Wm) (j:Nat),(Xv (fs.take j)).length<=(Xv fs).length
 | [],j=>by rw [List.take_nil];exact Qh _
 |x::fs,0=>by rw [List.take_zero,Xv];exact Vh _
 |x::fs,j+1=>by have:=Q4b fs j;rw [List.take_succ_cons,Xv,Xv];simp only [Qf];omega
theorem Wf9 {l:List Nd} (H:Wz l) {i:Nat} (hi:i<l.length) {ks:List Int} (hks: ∀k∈ks,k∈(nd l i).kids/\Yp l k=24) {ps:List (List UInt8×Nat)} (hx:Gc (XP l) ks ps): ∀j,j<ks.length-> ∃q:Nat,ks.getD j 0=(q:Int)/\q<l.length/\Qv l q 24 ((ps.getD j ([],0)).2:Int) (ps.getD j ([],0)).1 []/\Qd0 (ps.getD j ([],0)):=by
 intro j hj;have hm:=hks _ (Qhi hj);have hX:=Qlt (d:=(([],0):List UInt8×Nat)) hx j hj;have hk:=H.kid hi hm.1;obtain ⟨q,hq⟩: ∃q:Nat,ks.getD j 0=(q:Int):=⟨(ks.getD j 0).toNat,by omega⟩;rw [hq]at hX hm hk;have M6:q<l.length:=by omega
 obtain ⟨s,m,h1,h2,h3,ha,hY⟩:=H.k24 M6 (by show (nd l q).kind=24;exact hm.2);rw [hX.one hY];exact ⟨q,hq,M6,ha,h1,h2,h3⟩
theorem Q19 (a:Option Addr) (c n:Nat) (l:List Nd) (w:World) (hn:n=l.length) (hf:n<=1000000) (hc:n<=c) (hN:Nodes w a l) (hP:Ir w) (J5: ∀j,j<l.length->(nd l j).n<=9223372036854775807):
  Calls prog 8 #[.slice a n c] w (Wh6 l w):=by
 have HR:=Qa (Wgi a c n l w hn hP.tabs hN (by omega));have HN:=Qa hN;have HP:=Qa hP;have Zn:=Qa hn;have Qdw:=Qa J5;clear hN hP hn J5;go_enter func8,ntmps8;rw [Qz 3,Qz 4,Qz 5];go_wp2_with fail;refine HR.out.mono ?_;rintro e w1 ⟨b,rfl,hiff,hb1⟩;have HB1:=Qa hb1;have Ka:=Qa hiff;clear hb1 hiff;cases b with
 |false=>
  have V9:Hid (¬Wh l):=λh=>by cases Ka.out.2 h
  go_wp2_with fail;exact bodyPost_ret (v:=.tuple #[.string ⟨#[]⟩,.bool false]) (by simp [results,results8,go_sem]) rfl ⟨HB1.out,.inr ⟨V9.out,rfl⟩⟩
 |true=>
  have HWH:Hid (Wh l):=Ka.out.1 rfl;have hpos:0<n:=by rw [Zn.out];exact HWH.out.1.1.1
  obtain ⟨p,rfl⟩: ∃p,n=p+1:=⟨n-1,by omega⟩;have hpl:p<l.length:=by rw [<-Zn.out];omega
  have HPE:Hid (l.length-1=p):=by show _=_;rw [<-Zn.out,Nat.add_sub_cancel]
  have Oo:=Qa (Wz.of HWH.out.1 Qdw.out);obtain ⟨ks,fs,Qco,hat,Q2m,hX,hXR⟩:=Oo.out.k26 hpl (by rw [<-HPE.out];exact HWH.out.2);have HAT:=Qa hat;have HKF:=Qa Q2m;have HX:=Qa hX;have HXR:=Qa hXR;have HLEN:Hid ((Xv fs).length<=3000000000000):=by have h1:(Ko fs).size=sz l p:=hXR.z;have h2:=Qlo HWH.out.1.1;rw [HPE.out]at h2;have h3:Zg (fs.map Wm.part)+1=(Ko fs).size:=rfl;have h5:=Zn.out;have h4:=Qsk fs 1000000 2000060 hXR.fin.fns (by omega) rfl;have h6:2000060*Zg (fs.map Wm.part)<=2000060*1000000:=Nat.mul_le_mul_left _ (by omega);show _<=_;omega
  obtain ⟨m,hm⟩:=Qb ks.length;have HM:Hid (ks.length=m):=hm.symm;have Uc:Hid (fs.length=m):=by rw [hm];exact (Qc6 hX).symm
  have Q6x:m<=200:=by omega
  clear hat Q2m hX hXR hm Qco;go_wp2_with fail;refine Qn ?_;go_wp2_with fail;obtain ⟨ob,Ip⟩:=Qb w1.heap.size;obtain ⟨w2,hw2⟩:=Qb (w1.alloc (.cells #[.pointer none,.slice none 0 0] 42));have Qrr:Hid (Below w1.heap.size w1 w2):=by rw [hw2];exact Qag
  have Wf6:Hid (Bd w1.heap.size ob [] w2):=by rw [Ip];exact Q8f (by rw [hw2];exact Held.new w1 _ _)
  rw [<-hw2,<-Ip];clear hw2 Ip;have HN1:=Qa (HN.out.below HB1.out);have HP1:=Qa (HP.out.below HB1.out);refine Qn ?_;go_wp2_with fail;refine (Wac (c:=c) HN1.out Zn.out (by omega) hc Oo.out HP1.out Qrr.out Wf6.out).mono ?_;rintro e w3 ⟨Ho,Ih,G6,Gw,lb,xb,sb,eb,rfl,Ye,hb3⟩;have Qx:=Qa Ye;have Yj:Hid (Below w1.heap.size w1 w3):=Qrr.out.trans (hb3.mono Qrr.out.size);clear Ye hb3;have HEE:Hid (Zt ⟨w1,a,l,p+1,c,ob,Ho,Ih,G6,Gw⟩ [] w3):=Qx.out.ee;obtain ⟨nb,no,ka,kc,at_,hNA⟩:=K4 HEE.out HAT.out;have HNA:=Qa hNA;have ha:a=some ⟨nb,no,none⟩:=hNA.base;subst ha;obtain ⟨c0,c1,c2,c3,c4⟩:=HNA.out.cells _ w3 HEE.out;rw [HM.out]at c1;have hpi:(p:Int)<(p:Int)+1:=by omega
  have hwp:IntKind.i64.wrap (p:Int)=(p:Int):=Go.IntWalk.i64_in _ (by omega);clear hNA c0 c2 c3 c4;go_wp2_with fail;refine Qn ?_;go_wp2_with fail;clear c1;go_loopw [7,8,9,23] (λ_ _ _ v wr=> ∃j:Nat,j<=m/\v= .int .i64 (j:Int)/\Hid (D8 ⟨⟨w1,some ⟨nb,no,none⟩,l,p+1,c,ob,Ho,Ih,G6,Gw⟩,lb,xb,sb,eb⟩ (Xv (fs.take j)) wr)/\Hid (Qi w1.heap.size ob w3 wr)) (λ_ _ _ v _=>m-(intOf v).toNat)
  case atStart=>exact ⟨0,by omega,rfl,(by rw [List.take_zero,Xv];exact Qx),Qa (Qi.refl _ _ _)⟩
  case round=>
   obtain ⟨j,hj,rfl,HEr,HKr⟩:=hrel;by_cases hjm:j<m
   ·have Qgb:(j:Int)<(m:Int):=(by omega);obtain ⟨kb,ko,hka,hkc⟩:=HNA.out.kids (by rw [HM.out];omega);obtain ⟨q,hq⟩: ∃q:Nat,ks.getD j 0=(q:Int):=by have:=Oo.out.kid hpl (k:=ks.getD j 0) (by rw [HAT.out.ks];exact Qhi (by rw [HM.out];exact hjm));exact ⟨(ks.getD j 0).toNat,by omega⟩
    have hmem:ks.getD j 0∈ks:=Qhi (by rw [HM.out];exact hjm);have M6:q<l.length:=by have:=Oo.out.kid hpl (k:=ks.getD j 0) (by rw [HAT.out.ks];exact hmem);omega
    have ck:=hkc _ wr HEr.out.ee j (q:Int) (by rw [<-hq];exact Qmd (by rw [HM.out];exact hjm));have hXF:=Qlt (d:=(⟨[],[],0,[]⟩:Wm)) HX.out j (by rw [HM.out];exact hjm);rw [hq]at hXF;obtain ⟨s,kd,qs,bq,ps,body,hs,hk1,hk3,h8,Qh7,Q0y,Qqa,hps,hbody,Q6e⟩:=Oo.out.k25 M6 (by have:=HKF.out _ hmem;rw [hq]at this;exact this);have HFN:Hid (Xv (fs.take (j+1))=Xv (fs.take j)++(Wm.mk s ps kd body).txt):=by show _=_;rw [Wnr (by rw [Uc.out];exact hjm),hXF.one Q6e]
    have Z9:=Qa (Q4b fs (j+1));have Qo:Hid ((Wm.mk s ps kd body).txt=([102,110,32]++s++[40]++Fj true ps++[41,32]++Xh kd++[32])++Bf body 0++[10]):=(by show _=_;unfold Wm.txt;simp [Ki]);obtain ⟨fnb,fno,fka,fkc,fat,hNQ⟩:=K4 HEr.out.ee Qh7;obtain ⟨Um,Uj,rfl,Qpp⟩:=hNQ.kids (by rw [Qf,Yw];omega);have e1:nb=fnb/\no=fno:=by
     have:=hNQ.base;injection this with this
     injection this with x1 x2
     exact ⟨x1,x2⟩
    obtain ⟨e1,e2⟩:=e1;subst e1 e2;obtain ⟨c0,c1,c2,c3,c4⟩:=hNQ.cells _ wr HEr.out.ee;obtain ⟨r,hr⟩:=Qb qs.length;have hlen:(qs++[bq]).length=r+1:=(by rw [Qf,Yw,hr]);rw [hlen]at c1;have Wsh:r+1<=fkc:=(by rw [<-hlen];exact hNQ.cap);obtain ⟨u,hu⟩: ∃u:Nat,bq=(u:Int):=by have:=Oo.out.kid M6 (k:=bq) (by rw [Qh7.ks];simp);exact ⟨bq.toNat,by omega⟩
    have Oy:u<l.length:=by have:=Oo.out.kid M6 (k:=bq) (by rw [Qh7.ks];simp);omega
    have HKU:Hid (∀t' w',Zt ⟨w1,some ⟨nb,no,none⟩,l,p+1,c,ob,Ho,Ih,G6,Gw⟩ t' w'->w'.cell? ⟨Um,Uj+r,none⟩=some (.int .i64 (u:Int))):=λt' w' h=>Qpp t' w' h r (u:Int) (by rw [Ht (by omega),hr,Nat.sub_self,hu];rfl);have Qit:=Qa (Wf9 Oo.out M6 (λk hk=>⟨by rw [Qh7.ks];exact List.mem_append_left _ hk,Q0y k hk⟩) hps);have Qed:Hid (∀t' w',Zt ⟨w1,some ⟨nb,no,none⟩,l,p+1,c,ob,Ho,Ih,G6,Gw⟩ t' w'->Vd .i64 w' (some ⟨Um,Uj,none⟩) r (λj=>qs.getD j 0)):=by intro t' w' h hp;have hcell: ∀j,j<r->w'.cell? ⟨Um,Uj+j,none⟩=some (.int .i64 (qs.getD j 0)):=λj hj=>Qpp t' w' h j _ (by rw [Qg1 (by omega),Qmd (by omega)]);exact ⟨Um,Uj,rfl,block_lt_of_cell (hcell 0 hp),hcell⟩
    have hr8:r<=8:=(by rw [hr];exact h8);have Q5c:Hid (ps.length=r):=(by rw [hr];exact (Qc6 hps).symm);obtain ⟨PB,hPB⟩:=Qb (⟨(Fj true ps).toArray⟩:ByteArray);obtain ⟨KB,hKB⟩:=Qb (⟨(Xh kd).toArray⟩:ByteArray);obtain ⟨SB,hSB⟩:=Qb (⟨s.toArray⟩:ByteArray);have HBY:Hid (PB.data.toList=Fj true ps/\KB.data.toList=Xh kd/\SB.data.toList=s):=(by rw [hPB,hKB,hSB];exact ⟨rfl,rfl,rfl⟩);have hsbz:SB.size<=32:=(by rw [hSB,Ad];exact hs.short);have Wic:KB.size<=4:=(by rw [hKB,Ad];exact Qo6 _);have Wsw:PB.size<=10000:=by
     rw [hPB,Ad];have h1:=Qoo ps (λq hq=>by obtain ⟨k,hk⟩:=Qig hps q hq;exact hk.fin) true;have h2: ∀qs:List (List UInt8×Nat),Zg (qs.map Zb)=qs.length:=λqs=>by
      induction qs with
      |nil=>rfl
      |cons q qs ih=>show (Zb q).size+Zg (qs.map Zb)=qs.length+1;rw [ih];show 0+1+qs.length=_;omega
     rw [h2,Q5c.out]at h1;omega
    have HPC:Hid (∀t' w',Zt ⟨w1,some ⟨nb,no,none⟩,l,p+1,c,ob,Ho,Ih,G6,Gw⟩ t' w'->Calls prog 19 #[.slice (some ⟨nb,no,none⟩) (p+1) c,.slice (some ⟨Um,Uj,none⟩) r fkc] w' λe w''=>e= .returned (.string PB)/\Below w'.heap.size w' w''):=by intro t' w' h;rw [hPB];exact Wom Zn.out hf (h.nodes.below h.below) (h.tabs.below h.below) hr hr8 (Qed.out t' w' h) Q5c.out (by rw [hr];exact Qit.out)
    have Z7:Hid (∀t' w',Zt ⟨w1,some ⟨nb,no,none⟩,l,p+1,c,ob,Ho,Ih,G6,Gw⟩ t' w'->Calls prog 20 #[.int .i64 (kd:Int)] w' λe w''=>e= .returned (.string KB)/\Below w'.heap.size w' w''):=by intro t' w' h;rw [hKB];refine (Qso (kd:Int) w' (h.tabs.below h.below).tabs).mono ?_;rintro e w'' ⟨he,hw⟩;rw [Q13 hk3]at he;exact ⟨he,by rw [hw];exact Below.refl _ _⟩
    have Df:=Qa ((Wik (Q:=⟨⟨w1,some ⟨nb,no,none⟩,l,p+1,c,ob,Ho,Ih,G6,Gw⟩,lb,xb,sb,eb⟩) Oo.out (u+1) u (by omega) Oy).2 (by show (nd l u).kind=23;rw [hu]at Qqa;exact Qqa) body (by rw [hu]at hbody;exact hbody) 0);rw [<-hSB]at c3;obtain ⟨kI,hkI⟩:=Qb ((kd:Int):Int);rw [<-hkI]at c2 Z7;have hqn:(q:Int)<(p:Int)+1:=(by have:=Zn.out;omega);have hrw:IntKind.i64.wrap (r:Int)=(r:Int):=Go.IntWalk.i64_in _ (by omega);rw [hka];have Ga:=Qa hka;clear hka hkc hq hmem hXF hs hk1 hk3 h8 Qh7 Q0y Qqa hps hbody Q6e hNQ Qpp hlen hr hu Oy hPB hKB hSB hkI M6;go_wp2_with fail;obtain ⟨wB,hwB⟩:=Qb (wr.alloc (.cells #[.int .i64 25,.slice (some ⟨Um,Uj,none⟩) (r+1) fkc,.int .i64 kI,.string SB,.int .i64 fat] 37));obtain ⟨xn,hxn⟩:=Qb wr.heap.size;have Yx:Hid (Below wr.heap.size wr wB):=(by rw [hwB];exact Qag);have HHB:Hid (Held wB xn 37 #[.int .i64 25,.slice (some ⟨Um,Uj,none⟩) (r+1) fkc,.int .i64 kI,.string SB,.int .i64 fat]):=(by rw [hwB,hxn];exact Held.new wr _ _);have Wqr:ob<wr.heap.size:=HEr.out.ee.bd.lt;have Q5:Hid (xn≠ob):=(by show _≠_;omega);clear Wqr;rw [<-hwB,<-hxn];have HEB:=Qa (HEr.out.since Yx.out);have Whz:Hid (Qi w1.heap.size ob w3 wB):=HKr.out.trans (.of HEr.out.ee.bd.size Yx.out);clear hwB hxn c0 c1 c2 c3 c4 ck;have r0:=cell_regrown (HHB.out.at_ (j:=0) (v:=.int .i64 25) rfl);have r1:=cell_regrown (HHB.out.at_ (j:=1) (v:=.slice (some ⟨Um,Uj,none⟩) (r+1) fkc) rfl);have r2:=cell_regrown (HHB.out.at_ (j:=2) (v:=.int .i64 kI) rfl);have r3:=cell_regrown (HHB.out.at_ (j:=3) (v:=.string SB) rfl);have rH:=cell_regrown (show wB.cell? ⟨0,25,none⟩=some (.string ⟨([102,110,32]:List UInt8).toArray⟩)from Zc (Y0 HEB.out.ee.tabs.heads HEB.out.ee.below) (Ac 25 (by decide)));have Qqr: ∀d os,Calls prog 19 #[.slice (some ⟨nb,no,none⟩) (p+1) c,.slice (some ⟨Um,Uj,none⟩) r fkc] (Sort.grow (redrawn wB d) os) λe w''=>e= .returned (.string PB)/\ ∃q:Regrown,w''=Sort.grow (redrawn wB q.d) q.os:=λd os=>Calls.regrown_of (HPC.out _ _ (HEB.out.ee.since (below_regrown wB d os)));have Qp5: ∀d os,Calls prog 20 #[.int .i64 kI] (Sort.grow (redrawn wB d) os) λe w''=>e= .returned (.string KB)/\ ∃q:Regrown,w''=Sort.grow (redrawn wB q.d) q.os:=λd os=>Calls.regrown_of (Z7.out _ _ (HEB.out.ee.since (below_regrown wB d os)));refine Wk2 21 (by kernel_rfl) (by kernel_rfl) ?_;simp only [List.take_succ_cons,List.take_zero,List.drop_succ_cons,List.drop_zero]
    repeat (any_goals (first |go_big_quiet_step (first |exact Qqr _ _ |exact Qp5 _ _) |quiet_step (first |exact Qqr _ _ |exact Qp5 _ _)))
    refine wpQuiet_nil ?_;intro w' hw';obtain ⟨⟨dq,osq⟩,hw''⟩:=hw';obtain ⟨wC,hwC⟩:=Qb (Sort.grow (redrawn wB dq) osq);have HBC:Hid (Below wB.heap.size wB wC):=(by rw [hwC];exact below_regrown wB dq osq);rw [hw'',<-hwC];clear hw'' hwC r0 r1 r2 r3 rH Qqr Qp5;have HEC:=Qa (HEB.out.since HBC.out);have HHC:=Qa (HHB.out.since HBC.out);have Wis:Hid (Qi w1.heap.size ob w3 wC):=Whz.out.trans (.of HEB.out.ee.bd.size HBC.out);go_wp2_with fail;refine (Bn _ ([102,110,32]++s++[40]++Fj true ps++[41,32]++Xh kd++[32]) (by simp [HBY.out.1,HBY.out.2.1,HBY.out.2.2]) HEC.out.ee.bd (by have h1:=HLEN.out;have h2:=Z9.out;rw [HFN.out,Qo.out]at h2;simp only [Qf,Qp,Q8]at h2 ⊢;omega)).mono ?_;rintro e wD ⟨rfl,heD,hkD⟩;have Ak:=Qa (HEC.out.keep hkD heD);have Vx:Hid (Qi w1.heap.size ob w3 wD):=Wis.out.trans hkD;have Ui:=Qa (hkD.held HHC.out Q5.out (by decide));clear heD hkD;have c1:=Ui.out.at_ (j:=1) (v:=.slice (some ⟨Um,Uj,none⟩) (r+1) fkc) rfl;have cu:=HKU.out _ wD Ak.out.ee;have hri:(r:Int)<(r:Int)+1:=(by omega);go_wp2_with fail;refine (Df.out _ _ Ak.out (by have h1:=HLEN.out;have h2:=Z9.out;rw [HFN.out,Qo.out]at h2;simp only [Qf,Qp,Q8]at h2 ⊢;omega)).mono ?_;rintro e wE ⟨rfl,heE,hkE⟩;have Q4f:=Qa heE;have HKE:Hid (Qi w1.heap.size ob w3 wE):=Vx.out.trans hkE;clear heE hkE c1 cu;go_wp2_with fail;refine (Zw [10] Q4f.out.ee.bd (by have h1:=HLEN.out;have h2:=Z9.out;rw [HFN.out,Qo.out]at h2;simp only [Qf,Qp,Q8]at h2 ⊢;omega)).mono ?_;rintro e wF ⟨rfl,heF,hkF⟩;have HEF:=Qa (Q4f.out.keep hkF heF);have Wex:Hid (Qi w1.heap.size ob w3 wF):=HKE.out.trans hkF;clear heF hkF;have Iz:Hid (D8 ⟨⟨w1,some ⟨nb,no,none⟩,l,p+1,c,ob,Ho,Ih,G6,Gw⟩,lb,xb,sb,eb⟩ (Xv (fs.take (j+1))) wF):=by have h9:=HEF.out;show D8 _ _ _;rw [HFN.out,Qo.out];simp only [Qy]at h9 ⊢;exact h9
    go_wp2_with fail;go_roundw
    case rel=>exact ⟨j+1,by omega,by go_num,Iz,Wex⟩
    case measure=>simp [intOf];omega
   ·have HJ:Hid (fs.take j=fs):=(by show _=_;rw [F6 (by rw [Uc.out];omega)]);rw [HJ.out]at HEr;have Xz:Hid (Below w.heap.size w wr):=HB1.out.trans ((Yj.out.trans HKr.out.below).mono HB1.out.size);go_wp2_with fail;refine (Tryz.Builder_String_any_k w1.heap.size ob (Xv fs) wr HEr.out.ee.bd HEr.out.ee.bd.size).mono ?_;rintro e w6 ⟨rfl,_,hb6,_⟩;have Br:Hid (Below w.heap.size w w6):=Xz.out.trans (hb6.mono HB1.out.size);clear hb6;go_wp2_with fail;exact bodyPost_ret (v:=.tuple #[.string ⟨(Xv fs).toArray⟩,.bool true]) (by simp [results,results8,go_sem]) rfl ⟨Br.out,.inl ⟨HWH.out,fs,by rw [HPE.out];exact HXR.out,rfl⟩⟩
def Jk (kb:Nat):List Nd:=[⟨4,none,0,[],0,⟨#[97]⟩,0⟩,⟨1,none,0,[],1,⟨#[]⟩,0⟩,⟨5,some ⟨kb,0,none⟩,2,[0,1],9,⟨#[]⟩,0⟩,⟨4,none,0,[],0,⟨#[98]⟩,0⟩,⟨6,some ⟨kb+1,0,none⟩,1,[3],0,⟨#[]⟩,0⟩,⟨5,some ⟨kb+1+1,0,none⟩,2,[2,4],13,⟨#[]⟩,0⟩]
theorem Wjv (kb:Nat):Ahead (Jk kb):=by
 intro i hi k hk
 match i,hi with
 | 0,_=>exact absurd hk (by show k ∉ [];simp)
 | 1,_=>exact absurd hk (by show k ∉ [];simp)
 | 2,_=>
  have hk':k∈[(0:Int),1]:=hk;simp at hk';omega
 | 3,_=>exact absurd hk (by show k ∉ [];simp)
 | 4,_=>
  have hk':k∈[(3:Int)]:=hk;simp at hk';omega
 | 5,_=>
  have hk':k∈[(2:Int),4]:=hk;simp at hk';omega
theorem Wdw (kb:Nat):Hw (Jk kb):=by
 have e:Jc (Jk kb) (Jk kb).length=[0,1,3,2,4]:=rfl;refine ⟨by show 0<6;omega,Wjv kb,?_,?_⟩
 ·rw [e];decide
 ·rw [e];rfl
theorem Wdm (kb:Nat):Fits (Jk kb):=by
 intro i hi
 match i,hi with
 | 0,_=>show J7 (Jk kb) (nd (Jk kb) 0)=true;kernel_rfl
 | 1,_=>show J7 (Jk kb) (nd (Jk kb) 1)=true;kernel_rfl
 | 2,_=>show J7 (Jk kb) (nd (Jk kb) 2)=true;kernel_rfl
 | 3,_=>show J7 (Jk kb) (nd (Jk kb) 3)=true;kernel_rfl
 | 4,_=>show J7 (Jk kb) (nd (Jk kb) 4)=true;kernel_rfl
 | 5,_=>show J7 (Jk kb) (nd (Jk kb) 5)=true;kernel_rfl
theorem Wli (kb:Nat):hgt (Jk kb) 5=3:=by kernel_rfl
theorem Wll (kb:Nat):Rt (Jk kb):=⟨Wdw kb,Wdm kb,by show hgt (Jk kb) 5<=200;rw [Wli kb];omega⟩
theorem Q6z (kb:Nat): ∀j,j<(Jk kb).length->(nd (Jk kb) j).n<=9223372036854775807:=by
 intro j hj
 match j,hj with
 | 0,_=>show (0:Int)<=_;omega
 | 1,_=>show (1:Int)<=_;omega
 | 2,_=>show (9:Int)<=_;omega
 | 3,_=>show (0:Int)<=_;omega
 | 4,_=>show (0:Int)<=_;omega
 | 5,_=>show (13:Int)<=_;omega
theorem Wc3:Lib.itoa ((1:Nat):Int)=[49]:=by unfold Lib.itoa;rw [Qd (by omega)];exact Lib.decDigits_one (by decide)
theorem Q80 (kb:Nat) {x:Ex} (h:XE (Jk kb) ((5:Nat):Int) x):x.txt=[40,97,32,43,32,49,41,32,42,32,45,98]:=by
 have h1:Yb (Jk kb) 5= .ex (.bin 13 (.bin 9 (.var [97]) (.num 1)) (.neg (.var [98]))):=by kernel_rfl
 have h2:Yb (Jk kb) 5= .ex x:=h.r;rw [h1]at h2;injection h2 with h2
 rw [<-h2];simp only [Ex.txt,Wc3];rfl
def Qku (B:Nat):Array Value:= #[.int .i64 4,.slice none 0 0,.int .i64 0,.string ⟨#[97]⟩,.int .i64 0,.int .i64 1,.slice none 0 0,.int .i64 1,.string ⟨#[]⟩,.int .i64 0,.int .i64 5,.slice (some ⟨B,0,none⟩) 2 2,.int .i64 9,.string ⟨#[]⟩,.int .i64 0,.int .i64 4,.slice none 0 0,.int .i64 0,.string ⟨#[98]⟩,.int .i64 0,.int .i64 6,.slice (some ⟨B+1,0,none⟩) 1 1,.int .i64 0,.string ⟨#[]⟩,.int .i64 0,.int .i64 5,.slice (some ⟨B+1+1,0,none⟩) 2 2,.int .i64 13,.string ⟨#[]⟩,.int .i64 0]
theorem Ql6 (w:World) (hP:Ir w):
  Calls prog 7 #[] w λe w'=>e= .returned (.bool true)/\Below w.heap.size w w':=by
 have HP:=Qa hP;clear hP;go_enter func7,ntmps7;rw [Qz 2];go_wp2_with fail;obtain ⟨B,hB⟩:=Qb w.heap.size;rw [<-hB];obtain ⟨w1,hw1⟩:=Qb ((((w.alloc (.cells #[.int .i64 0,.int .i64 1] 3)).alloc (.cells #[.int .i64 3] 3)).alloc (.cells #[.int .i64 2,.int .i64 4] 3)).alloc (.cells (Qku B) 37));have HH0:Hid (Held w1 B 3 #[.int .i64 0,.int .i64 1]):=by rw [hw1,hB];exact (((Held.new w _ _).alloc _).alloc _).alloc _
 have Wo:Hid (Held w1 (B+1) 3 #[.int .i64 3]):=by
  have h:=((Held.new (w.alloc (.cells #[.int .i64 0,.int .i64 1] 3)) 3 #[.int .i64 3]).alloc (.cells #[.int .i64 2,.int .i64 4] 3)).alloc (.cells (Qku B) 37);have e:(w.alloc (.cells #[.int .i64 0,.int .i64 1] 3)).heap.size=B+1:=by rw [hB];simp
  rw [e]at h;rw [hw1];exact h
 have Q7:Hid (Held w1 (B+1+1) 3 #[.int .i64 2,.int .i64 4]):=by
  have h:=(Held.new ((w.alloc (.cells #[.int .i64 0,.int .i64 1] 3)).alloc (.cells #[.int .i64 3] 3)) 3 #[.int .i64 2,.int .i64 4]).alloc (.cells (Qku B) 37);have e:((w.alloc (.cells #[.int .i64 0,.int .i64 1] 3)).alloc (.cells #[.int .i64 3] 3)).heap.size=B+1+1:=by rw [hB];simp
  rw [e]at h;rw [hw1];exact h
 have Q9:Hid (Held w1 (B+1+1+1) 37 (Qku B)):=by
  have h:=Held.new (((w.alloc (.cells #[.int .i64 0,.int .i64 1] 3)).alloc (.cells #[.int .i64 3] 3)).alloc (.cells #[.int .i64 2,.int .i64 4] 3)) 37 (Qku B);have e:(((w.alloc (.cells #[.int .i64 0,.int .i64 1] 3)).alloc (.cells #[.int .i64 3] 3)).alloc (.cells #[.int .i64 2,.int .i64 4] 3)).heap.size=B+1+1+1:=by rw [hB];simp
  rw [e]at h;rw [hw1];exact h
 have HB1:Hid (Below w.heap.size w w1):=by rw [hw1];exact ((Qag.alloc (by simp) _).alloc (by simp;omega) _).alloc (by simp;omega) _
 rw [show (((w.alloc (.cells #[.int .i64 0,.int .i64 1] 3)).alloc (.cells #[.int .i64 3] 3)).alloc (.cells #[.int .i64 2,.int .i64 4] 3)).alloc (.cells #[.int .i64 4,.slice none 0 0,.int .i64 0,.string ⟨#[97]⟩,.int .i64 0,.int .i64 1,.slice none 0 0,.int .i64 1,.string ⟨#[]⟩,.int .i64 0,.int .i64 5,.slice (some ⟨B,0,none⟩) 2 2,.int .i64 9,.string ⟨#[]⟩,.int .i64 0,.int .i64 4,.slice none 0 0,.int .i64 0,.string ⟨#[98]⟩,.int .i64 0,.int .i64 6,.slice (some ⟨B+1,0,none⟩) 1 1,.int .i64 0,.string ⟨#[]⟩,.int .i64 0,.int .i64 5,.slice (some ⟨B+1+1,0,none⟩) 2 2,.int .i64 13,.string ⟨#[]⟩,.int .i64 0] 37)=w1 from hw1.symm];have HN:Hid (Nodes w1 (some ⟨B+1+1+1,0,none⟩) (Jk B)):=by
  refine ⟨λ_=>⟨B+1+1+1,0,rfl,Q9.out.lt,λj hj=> ?_⟩,λj hj=> ?_⟩
  ·match j,hj with
   | 0,_=>exact ⟨Q9.out.at_ rfl,Q9.out.at_ rfl,Q9.out.at_ rfl,Q9.out.at_ rfl,Q9.out.at_ rfl⟩
   | 1,_=>exact ⟨Q9.out.at_ rfl,Q9.out.at_ rfl,Q9.out.at_ rfl,Q9.out.at_ rfl,Q9.out.at_ rfl⟩
   | 2,_=>exact ⟨Q9.out.at_ rfl,Q9.out.at_ rfl,Q9.out.at_ rfl,Q9.out.at_ rfl,Q9.out.at_ rfl⟩
   | 3,_=>exact ⟨Q9.out.at_ rfl,Q9.out.at_ rfl,Q9.out.at_ rfl,Q9.out.at_ rfl,Q9.out.at_ rfl⟩
   | 4,_=>exact ⟨Q9.out.at_ rfl,Q9.out.at_ rfl,Q9.out.at_ rfl,Q9.out.at_ rfl,Q9.out.at_ rfl⟩
   | 5,_=>exact ⟨Q9.out.at_ rfl,Q9.out.at_ rfl,Q9.out.at_ rfl,Q9.out.at_ rfl,Q9.out.at_ rfl⟩
  ·match j,hj with
   | 0,_=>exact ⟨λh=>absurd h (by show¬0<0;omega),by show 0<=0;omega,λ_=>rfl,by show 0<=_;omega,by show _<=(0:Int);omega,by show (0:Int)<=_;omega,by show 1<=_;omega⟩
   | 1,_=>exact ⟨λh=>absurd h (by show¬0<0;omega),by show 0<=0;omega,λ_=>rfl,by show 0<=_;omega,by show _<=(1:Int);omega,by show (1:Int)<=_;omega,by show 0<=_;omega⟩
   | 2,_=>
    refine ⟨λ_=>⟨B,0,rfl,HH0.out.lt,λk hk=> ?_⟩,by show 2<=2;omega,(λh=>by cases h),by show 2<=_;omega,by show _<=(9:Int);omega,by show (9:Int)<=_;omega,by show 0<=_;omega⟩
    match k,hk with
    | 0,_=>exact HH0.out.at_ rfl
    | 1,_=>exact HH0.out.at_ rfl
   | 3,_=>exact ⟨λh=>absurd h (by show¬0<0;omega),by show 0<=0;omega,λ_=>rfl,by show 0<=_;omega,by show _<=(0:Int);omega,by show (0:Int)<=_;omega,by show 1<=_;omega⟩
   | 4,_=>
    refine ⟨λ_=>⟨B+1,0,rfl,Wo.out.lt,λk hk=> ?_⟩,by show 1<=1;omega,(λh=>by cases h),by show 1<=_;omega,by show _<=(0:Int);omega,by show (0:Int)<=_;omega,by show 0<=_;omega⟩
    match k,hk with
    | 0,_=>exact Wo.out.at_ rfl
   | 5,_=>
    refine ⟨λ_=>⟨B+1+1,0,rfl,Q7.out.lt,λk hk=> ?_⟩,by show 2<=2;omega,(λh=>by cases h),by show 2<=_;omega,by show _<=(13:Int);omega,by show (13:Int)<=_;omega,by show 0<=_;omega⟩
    match k,hk with
    | 0,_=>exact Q7.out.at_ rfl
    | 1,_=>exact Q7.out.at_ rfl
 have HP1:=Qa (HP.out.below HB1.out);obtain ⟨C,hC⟩:=Qb (B+1+1+1);obtain ⟨D,hD⟩:=Qb (B+1+1);rw [<-hC]at HN Q9 ⊢;have Wv:=Qa hD;clear hw1 hB hC HH0 Wo Q7;rw [<-hD];clear hD;have HEX:=Qa (Wkz (some ⟨C,0,none⟩) 6 6 (Jk B) w1 rfl (by decide) (by decide) HN.out HP1.out (Q6z B));refine Qn ?_;go_wp2_with fail;refine HEX.out.mono ?_;rintro e w2 ⟨hb2,hcase⟩;obtain ⟨X,hX⟩:=Qb (⟨#[40,97,32,43,32,49,41,32,42,32,45,98]⟩:ByteArray);have Tp:(X.toList==[40,97,32,43,32,49,41,32,42,32,45,98])=true:=by rw [hX,ByteArray.toList_eq];rfl
 have he:e= .returned (.tuple #[.string X,.bool true]):=by
  rcases hcase with ⟨_,_,x,hX',h⟩ |⟨h,_⟩
  ·rw [h,Q80 B hX',hX]
  ·exact absurd ⟨Wll B,by kernel_rfl⟩ h
 subst he;have HN2:=Qa (HN.out.below hb2);have Gl:=Qa (HP1.out.below hb2);have HB2:Hid (Below w.heap.size w w2):=HB1.out.trans (hb2.mono HB1.out.size);have Qo:=Qa (Q19 (some ⟨C,0,none⟩) 6 6 (Jk B) w2 rfl (by decide) (by decide) HN2.out Gl.out (Q6z B));clear hcase hb2 hX;go_wp2_with fail;refine Qo.out.mono ?_;rintro e w3 ⟨hb3,hcase⟩;have he:e= .returned (.tuple #[.string ⟨#[]⟩,.bool false]):=by
  rcases hcase with ⟨h,_⟩ |⟨_,h⟩
  ·exact absurd h.2 (by show¬(5:Int)=26;omega)
  ·exact h
 subst he;have Mv:=Qa (HN2.out.below hb3);have HP3:=Qa (Gl.out.below hb3);have HB3:Hid (Below w.heap.size w w3):=HB2.out.trans (hb3.mono HB2.out.size);have Jb:=Qa (Lm 5 13 (some ⟨D,0,none⟩) 2 2 ⟨#[]⟩ 0 w3 HP3.out);obtain ⟨nb,no,hx,hlt,d0,d1,d2,d3,d4⟩:=Mv.out.at_ (j:=5) (show 5<6 by omega);injection hx with hx
 injection hx with h1 h2
 subst h1 h2;have c0:w3.cell? ⟨C,25,none⟩=some (.int .i64 5):=d0;have c1:w3.cell? ⟨C,26,none⟩=some (.slice (some ⟨D,0,none⟩) 2 2):=by rw [Wv.out];exact d1
 have c2:w3.cell? ⟨C,27,none⟩=some (.int .i64 13):=d2;have c3:w3.cell? ⟨C,28,none⟩=some (.string ⟨#[]⟩):=d3;have c4:w3.cell? ⟨C,29,none⟩=some (.int .i64 0):=d4;clear hcase hb3 d0 d1 d2 d3 d4 hlt;go_wp2_with fail;refine Jb.out.mono ?_;rintro e w4 ⟨rfl,hb4⟩;have Jf:Hid (Below w.heap.size w w4):=HB3.out.trans (hb4.mono HB3.out.size);have hs5:Jt 5 13=5:=rfl;rw [hs5];clear hb4 c0 c1 c2 c3 c4;go_wp2_with fail;go_ret;exact ⟨rfl,Jf.out⟩
end
section
def Zf (x:Nd):Nd:=⟨x.kind,none,0,x.kids,x.n,x.s,0⟩
def Seg (l:List Nd) (b:Nat) (X:List Nd):Prop:= ∃pre post,l.map Zf=pre++(X.map Zf++post)/\pre.length=b
variable {l:List Nd}{b:Nat}
theorem Seg.left {X Y:List Nd} (h:Seg l b (X++Y)):Seg l b X:=by obtain ⟨p,q,e,hp⟩:=h;exact ⟨p,Y.map Zf++q,by rw [e,Zp,Qy],hp⟩
theorem Seg.right {X Y:List Nd} (h:Seg l b (X++Y)):Seg l (b+X.length) Y:=by obtain ⟨p,q,e,hp⟩:=h;exact ⟨p++X.map Zf,q,by rw [e,Zp,Qy,Qy],by rw [Qf,Zr,hp]⟩
theorem Seg.at_ (hA:Ahead l) {K n:Int} {s:List UInt8} {ks:List Int} (h:Seg l b [En K ks n ⟨s.toArray⟩ 0]):Qv l b K n s ks:=by
 obtain ⟨p,q,e,hp⟩:=h;have h1:(l.map Zf)[b]? =some (En K ks n ⟨s.toArray⟩ 0):=by rw [e,Ht (by omega),show b-p.length=0 by omega];rfl
 rw [Ng]at h1;cases hx:l[b]? with
 |none=>rw [hx]at h1;cases h1
 |some x=>
  rw [hx]at h1;have h2:Zf x=En K ks n ⟨s.toArray⟩ 0:=Option.some.inj h1;have hn:nd l b=x:=by unfold nd;rw [Yc,hx];rfl
  obtain ⟨hb,_⟩:=List.getElem?_eq_some_iff.1 hx;refine ⟨hA,hb,?_,?_,?_,?_⟩
  ·rw [hn];exact congrArg Nd.kind h2
  ·rw [hn];exact congrArg Nd.n h2
  ·rw [hn];exact congrArg Nd.t h2
  ·rw [hn];exact congrArg Nd.kids h2
theorem Qnc {i j:Nat} {K n:Int} {s:List UInt8} {ks:List Int} (h:Qv l i K n s ks) (e:i=j):Qv l j K n s ks:=e▸h
theorem Qoj (hA:Ahead l) {a:Ex} {K n:Int} (h:Seg l b (a.out b++[En K [((b+a.size-1:Nat):Int)] n ⟨#[]⟩ 0])):Seg l b (a.out b)/\Qv l (b+(a.size+1)-1) K n [] [((b+a.size-1:Nat):Int)]:=
 ⟨h.left,Qnc (Seg.at_ (s:=[]) hA h.right) (by rw [Kh];omega)⟩
theorem Q60 (hA:Ahead l) {a c:Ex} {K n:Int} (h:Seg l b (a.out b++c.out (b+a.size)++[En K [((b+a.size-1:Nat):Int),((b+a.size+c.size-1:Nat):Int)] n ⟨#[]⟩ 0])):Seg l b (a.out b)/\Seg l (b+a.size) (c.out (b+a.size))/\Qv l (b+(a.size+c.size+1)-1) K n [] [((b+a.size-1:Nat):Int),((b+a.size+c.size-1:Nat):Int)]:=by have h2:=h.left.right;rw [Kh]at h2;exact ⟨h.left.left,h2,Qnc (Seg.at_ (s:=[]) hA h.right) (by rw [Qf,Kh,Kh];omega)⟩
mutual
theorem Dj (hA:Ahead l): ∀(e:Ex) (b:Nat),Seg l b (e.out b)->Yb l (b+e.size-1)= .ex e
 | .num n,b,h=>by rw [Ex.out]at h;exact (Seg.at_ (s:=[]) hA h).Yb
 | .bool c,b,h=>by rw [Ex.out]at h;have:=(Seg.at_ (s:=[]) hA h).Yb;cases c<;>exact this
 | .nil,b,h=>by rw [Ex.out]at h;exact (Seg.at_ (s:=[]) hA h).Yb
 | .var s,b,h=>by rw [Ex.out]at h;exact (Seg.at_ hA h).Yb
 | .bin op a c,b,h=>by rw [Ex.out]at h;obtain ⟨h1,h2,h3⟩:=Q60 hA h;have e1:=Dj hA a b h1;have e2:=Dj hA c (b+a.size) h2;rw [Ex.size,h3.Yb,Y6,Y6,Vi,Ja,Ja,e1,e2];rfl
 | .neg a,b,h=>by rw [Ex.out]at h;obtain ⟨h1,h3⟩:=Qoj hA h;have e1:=Dj hA a b h1;rw [Ex.size,h3.Yb,Y6,Vi,Ja,e1];rfl
 | .not a,b,h=>by rw [Ex.out]at h;obtain ⟨h1,h3⟩:=Qoj hA h;have e1:=Dj hA a b h1;rw [Ex.size,h3.Yb,Y6,Vi,Ja,e1];rfl
 | .index a c,b,h=>by rw [Ex.out]at h;obtain ⟨h1,h2,h3⟩:=Q60 hA h;have e1:=Dj hA a b h1;have e2:=Dj hA c (b+a.size) h2;rw [Ex.size,h3.Yb,Y6,Y6,Vi,Ja,Ja,e1,e2];rfl
 | .len a,b,h=>by rw [Ex.out]at h;obtain ⟨h1,h3⟩:=Qoj hA h;have e1:=Dj hA a b h1;rw [Ex.size,h3.Yb,Y6,Vi,Ja,e1];rfl
 | .new a,b,h=>by rw [Ex.out]at h;obtain ⟨h1,h3⟩:=Qoj hA h;have e1:=Dj hA a b h1;rw [Ex.size,h3.Yb,Y6,Vi,Ja,e1];rfl
 | .call s xs,b,h=>by rw [Ex.out]at h;have e1:=Q76 hA xs b h.left;have h3:=Qnc (Seg.at_ hA h.right) (show b+(outs xs b).length=b+(sizes xs+1)-1 by rw [Qgl];omega);rw [Ex.size,h3.Yb,e1];show Yf.ex (.call s ((xs.map Yf.ex).map Yf.e))=_;rw [Ea];congr 2;exact List.map_id' xs
theorem Q76 (hA:Ahead l): ∀(xs:List Ex) (b:Nat),Seg l b (outs xs b)->(roots xs b).map (λk=>Yb l k.toNat)=xs.map Yf.ex
 | [],b,h=>by rw [roots];rfl
 |a::xs,b,h=>by rw [outs]at h;have h2:=h.right;rw [Kh]at h2;rw [roots,Y6,Y6,Q76 hA xs _ h2,Ja,Dj hA a b h.left]
end
theorem Ij (hA:Ahead l) {K n:Int} {s:List UInt8} {ps:List Part} (hf:X8 ps) (h:Seg l b ((node K n s ps).out b)):Qv l (b+Zg ps) K n s (Xn ps b)/\Seg l b (Xy ps b):=by have h:Seg l b (Xy ps b++[En K (Xn ps b) n ⟨s.toArray⟩ 0]):=h;exact ⟨Qnc (Seg.at_ hA h.right) (by rw [Uh ps b hf]),h.left⟩
theorem Dk {p:Part} {ps:List Part} (hf:p.Ba) (h:Seg l b (Xy (p::ps) b)):Seg l b (p.out b)/\Seg l (b+p.size) (Xy ps (b+p.size)):=by have h:Seg l b (p.out b++Xy ps (b+p.size)):=h;have h2:=h.right;rw [hf.len]at h2;exact ⟨h.left,h2⟩
theorem Ri {p:Part} {r:Yf} (h:Yb l (b+p.size-1)=r):(Xn [p] b).map (λk=>Yb l k.toNat)=[r]:=by show [Yb l (((b+p.size-1:Nat):Int)).toNat]=[r];rw [Ja,h]
theorem rpc {p:Part} {ps:List Part} {r:Yf} {rs:List Yf} (h:Yb l (b+p.size-1)=r) (g:(Xn ps (b+p.size)).map (λk=>Yb l k.toNat)=rs):(Xn (p::ps) b).map (λk=>Yb l k.toNat)=r::rs:=by show Yb l (((b+p.size-1:Nat):Int)).toNat::(Xn ps (b+p.size)).map (λk=>Yb l k.toNat)=_;rw [Ja,h,g]
theorem Qfm (hA:Ahead l) {c:List St} {b:Nat} (H: ∀b,Seg l b (Xy (Zl c) b)->(Xn (Zl c) b).map (λk=>Yb l k.toNat)=c.map Yf.st) (h:Seg l b ((X6 c).out b)):Yb l (b+(X6 c).size-1)= .blk c:=by obtain ⟨h1,h2⟩:=Ij hA (Uy c) h;show Yb l (b+Zg (Zl c))=_;rw [h1.Yb,H b h2];show Yf.blk ((c.map Yf.st).map Yf.s)=_;rw [Ea];congr 1;exact List.map_id' c
mutual
theorem Wdt (hA:Ahead l): ∀(a:St) (b:Nat),Seg l b (a.part.out b)->Yb l (b+a.part.size-1)= .st a
 | .let_ s e,b,h=>by rw [St.part]at h ⊢;obtain ⟨h1,h2⟩:=Ij hA (.cons (Ww e) .nil) h;obtain ⟨h3,_⟩:=Dk (Ww e) h2;exact h1.Yb.trans (by rw [Ri (Dj hA e b h3)];rfl)
 | .set s e,b,h=>by rw [St.part]at h ⊢;obtain ⟨h1,h2⟩:=Ij hA (.cons (Ww e) .nil) h;obtain ⟨h3,_⟩:=Dk (Ww e) h2;exact h1.Yb.trans (by rw [Ri (Dj hA e b h3)];rfl)
 | .put s i e,b,h=>by rw [St.part]at h ⊢;obtain ⟨h1,h2⟩:=Ij hA (.cons (Ww i) (.cons (Ww e) .nil)) h;obtain ⟨h3,h4⟩:=Dk (Ww i) h2;obtain ⟨h5,_⟩:=Dk (Ww e) h4;exact h1.Yb.trans (by rw [rpc (Dj hA i b h3) (Ri (Dj hA e _ h5))];rfl)
 | .if_ e c,b,h=>by rw [St.part]at h ⊢;obtain ⟨h1,h2⟩:=Ij hA (.cons (Ww e) (.cons (J8 c) .nil)) h;obtain ⟨h3,h4⟩:=Dk (Ww e) h2;obtain ⟨h5,_⟩:=Dk (J8 c) h4;exact h1.Yb.trans (by rw [rpc (Dj hA e b h3) (Ri (Qfm hA (Qc7 hA c) h5))];rfl)
 | .Cz e c f,b,h=>by rw [St.part]at h ⊢;obtain ⟨h1,h2⟩:=Ij hA (.cons (Ww e) (.cons (J8 c) (.cons (J8 f) .nil))) h;obtain ⟨h3,h4⟩:=Dk (Ww e) h2;obtain ⟨h5,h6⟩:=Dk (J8 c) h4;obtain ⟨h7,_⟩:=Dk (J8 f) h6;exact h1.Yb.trans (by rw [rpc (Dj hA e b h3) (rpc (Qfm hA (Qc7 hA c) h5) (Ri (Qfm hA (Qc7 hA f) h7)))];rfl)
 | .Kl e c,b,h=>by rw [St.part]at h ⊢;obtain ⟨h1,h2⟩:=Ij hA (.cons (Ww e) (.cons (J8 c) .nil)) h;obtain ⟨h3,h4⟩:=Dk (Ww e) h2;obtain ⟨h5,_⟩:=Dk (J8 c) h4;exact h1.Yb.trans (by rw [rpc (Dj hA e b h3) (Ri (Qfm hA (Qc7 hA c) h5))];rfl)
 | .for_ s e f c,b,h=>by rw [St.part]at h ⊢;obtain ⟨h1,h2⟩:=Ij hA (.cons (Ww e) (.cons (Ww f) (.cons (J8 c) .nil))) h;obtain ⟨h3,h4⟩:=Dk (Ww e) h2;obtain ⟨h5,h6⟩:=Dk (Ww f) h4;obtain ⟨h7,_⟩:=Dk (J8 c) h6;exact h1.Yb.trans (by rw [rpc (Dj hA e b h3) (rpc (Dj hA f _ h5) (Ri (Qfm hA (Qc7 hA c) h7)))];rfl)
 | .brk,b,h=>by rw [St.part]at h ⊢;obtain ⟨h1,h2⟩:=Ij hA .nil h;exact h1.Yb
 | .cont,b,h=>by rw [St.part]at h ⊢;obtain ⟨h1,h2⟩:=Ij hA .nil h;exact h1.Yb
 | .ret e,b,h=>by rw [St.part]at h ⊢;obtain ⟨h1,h2⟩:=Ij hA (.cons (Ww e) .nil) h;obtain ⟨h3,_⟩:=Dk (Ww e) h2;exact h1.Yb.trans (by rw [Ri (Dj hA e b h3)];rfl)
 | .print e,b,h=>by rw [St.part]at h ⊢;obtain ⟨h1,h2⟩:=Ij hA (.cons (Ww e) .nil) h;obtain ⟨h3,_⟩:=Dk (Ww e) h2;exact h1.Yb.trans (by rw [Ri (Dj hA e b h3)];rfl)
 | .do_ s xs,b,h=>by rw [St.part]at h ⊢;obtain ⟨h1,h2⟩:=Ij hA (.cons (Ww (.call s xs)) .nil) h;obtain ⟨h3,_⟩:=Dk (Ww (.call s xs)) h2;exact h1.Yb.trans (by rw [Ri (Dj hA (.call s xs) b h3)];rfl)
theorem Qc7 (hA:Ahead l): ∀(c:List St) (b:Nat),Seg l b (Xy (Zl c) b)->(Xn (Zl c) b).map (λk=>Yb l k.toNat)=c.map Yf.st
 | [],b,h=>by rw [Zl];rfl
 |a::c,b,h=>by rw [Zl]at h ⊢;obtain ⟨h1,h2⟩:=Dk (Qtq a) h;exact rpc (Wdt hA a b h1) (Qc7 hA c _ h2)
end
theorem Wmn (hA:Ahead l) {c:List St} {b:Nat} (h:Seg l b ((X6 c).out b)):Yb l (b+(X6 c).size-1)= .blk c:=Qfm hA (Qc7 hA c) h
theorem Wlb (hA:Ahead l) {p:List UInt8×Nat} {b:Nat} (h:Seg l b ((Zb p).out b)):Yb l (b+(Zb p).size-1)= .par p:=by obtain ⟨h1,h2⟩:=Ij hA .nil h;exact h1.Yb
theorem Q5s (hA:Ahead l) {c:List St}: ∀(ps:List (List UInt8×Nat)) (b:Nat),Seg l b (Xy (ps.map Zb++[X6 c]) b)->(Xn (ps.map Zb++[X6 c]) b).map (λk=>Yb l k.toNat)=ps.map Yf.par++[.blk c]
 | [],b,h=>by obtain ⟨h1,_⟩:=Dk (J8 c) h;exact Ri (Wmn hA h1)
 |p::ps,b,h=>by obtain ⟨h1,h2⟩:=Dk (Qru p) h;exact rpc (Wlb hA h1) (Q5s hA ps _ h2)
theorem Wju (s:List UInt8) (n:Nat) (ps:List (List UInt8×Nat)) (c:List St):Qia 25 (n:Int) s (ps.map Yf.par++[.blk c])= .fn ⟨s,ps,n,c⟩:=by
 show Yf.fn ⟨s,(ps.map Yf.par++[Yf.blk c]).dropLast.map Yf.p,n,(Vr (ps.map Yf.par++[Yf.blk c]) ((ps.map Yf.par++[Yf.blk c]).length-1)).b⟩=_;rw [List.dropLast_concat,Ea];have e1:ps.map (Yf.p∘Yf.par)=ps:=List.map_id' ps;have e2:Vr (ps.map Yf.par++[Yf.blk c]) ((ps.map Yf.par++[Yf.blk c]).length-1)= .blk c:=by unfold Vr;rw [Yc,Ht (by rw [Qf];simp)];simp
 rw [e1,e2];rfl
theorem Wrj (hA:Ahead l) {f:Wm} {b:Nat} (h:Seg l b (f.part.out b)):Yb l (b+f.part.size-1)= .fn f:=by obtain ⟨h1,h2⟩:=Ij hA (Qqe f) h;exact h1.Yb.trans ((congrArg _ (Q5s hA f.ps b h2)).trans (Wju f.name f.k f.ps f.body))
theorem Qxu (hA:Ahead l): ∀(fs:List Wm) (b:Nat),Seg l b (Xy (fs.map Wm.part) b)->(Xn (fs.map Wm.part) b).map (λk=>Yb l k.toNat)=fs.map Yf.fn
 | [],b,h=>rfl
 |f::fs,b,h=>by obtain ⟨h1,h2⟩:=Dk (Qum f) h;exact rpc (Wrj hA h1) (Qxu hA fs _ h2)
theorem Wel (hA:Ahead l) {fs:List Wm} {b:Nat} (h:Seg l b ((Ko fs).out b)):Yb l (b+(Ko fs).size-1)= .pr fs:=by obtain ⟨h1,h2⟩:=Ij hA (Qo5 fs) h;refine h1.Yb.trans ((congrArg _ (Qxu hA fs b h2)).trans ?_);show Yf.pr ((fs.map Yf.fn).map Yf.f)=_;rw [Ea];congr 1;exact List.map_id' fs
theorem Qri (hA:Ahead l) {fs:List Wm} (h:l.map Zf=((Ko fs).out 0).map Zf):Yb l (l.length-1)= .pr fs:=by have hlen:=congrArg List.length h;have Wet:(Ko fs).Ba:=Da (Qo5 fs);rw [Zr,Zr,Wet.len]at hlen;have:=Wel hA (b:=0) (fs:=fs) ⟨[],[],by rw [h];simp,rfl⟩;rw [Bq,<-hlen]at this;exact this
end
theorem Whb {l m:List Nd} (h:l.map Od=m.map Od):l.map Zf=m.map Zf:=by have:=congrArg (List.map Zf) h;rw [Ea,Ea]at this;exact this
theorem Wq9 (M:List Tk):(M.map Dv).map Dv=M.map Dv:=by rw [Ea];rfl
theorem Wps {fs:List Wm} (h:Qnn fs):Qyk fs:=⟨λf hf=>(h.fns f hf).ok,h.few⟩
theorem Wjl {fs:List Wm} (hp:Qnn fs) (hn:Gq fs<=200) (ht:(Ko fs).ht<=200):
  ∃L s',T (Xv fs) 0= .ok L/\Qs (.prog []) 0 ⟨L,[],[]⟩ (.ok ([Vl (Ko fs) []],s'))/\s'.l.map Zf=((Ko fs).out 0).map Zf:=by
 obtain ⟨M,hM,hMe⟩:=Qsg fs hp.fns 0;have hMe:M.map Dv=Qr (Uk fs)++[⟨0,[],0,0⟩]:=hMe;have hR:=Wqs (Wps hp) hn ht ⟨0,[],0,0⟩ rfl;obtain ⟨v,hv,hA⟩:=Wrd (L':=M) (by rw [<-hMe,Wq9]) hR;cases v with
 |error f=>exact absurd hA id
 |ok x=>
  obtain ⟨ks,s'⟩:=x;obtain ⟨e,hA⟩:[Vl (Ko fs) []]=ks/\Vn _ s':=hA;subst e;exact ⟨M,s',hM,hv,(Whb hA.l).symm⟩
structure Quy (fs:List Wm) (t:List UInt8) (L:List Tk) (s':PS):Prop where
 lex:T (Xv fs) 0= .ok L
 reads: ∃ks,Qs (.prog []) 0 ⟨L,[],[]⟩ (.ok (ks,s'))
 right:Rt s'.l
 k26:(nd s'.l (s'.l.length-1)).kind=26
 nums: ∀x∈s'.l,0<=x.n/\x.n<=9223372036854775807
 Yb:Yb s'.l (s'.l.length-1)= .pr fs
 tx:tx s'.l (s'.l.length-1)=t
 nodes:s'.l.map Zf=((Ko fs).out 0).map Zf
theorem Qui {l:List Nd} (h: ∀x∈l,0<=x.n/\x.n<=9223372036854775807): ∀j,j<l.length->(nd l j).n<=9223372036854775807:=by
 intro j hj;have:nd l j∈l:=by unfold nd;rw [Yc,Y3 hj];exact F5 hj
 exact (h _ this).2
theorem Q9t (fs:List Wm) (hp: ∀f∈fs,f.Fin) {L:List Tk} (h:T (Xv fs) 0= .ok L):0<L.length:=by
 obtain ⟨M,hM,hMe⟩:=Qsg fs hp 0;rw [h]at hM;obtain rfl:L=M:=by injection hM
 have:=congrArg List.length hMe;rw [Zr,Qf,Yw]at this;omega
theorem Wer {fs:List Wm} (hp:Qnn fs) (hn:Gq fs<=200) (ht:(Ko fs).ht<=200): ∃L s',Quy fs (Qo4 fs) L s':=by
 obtain ⟨L,s',h1,h2,h3⟩:=Wjl hp hn ht;obtain ⟨hR,h26,_,_,hN⟩:=Qfa (Qbp h1) (Q9t fs hp.fns h1) h2;have hr:=Qri hR.1.2.1 h3;obtain ⟨fs',hx⟩:=Qu4 hR h26 (Qui hN);have hx1:Yb s'.l (s'.l.length-1)= .pr fs':=hx.r;rw [hr]at hx1;obtain rfl:fs=fs':=by injection hx1
 exact ⟨L,s',h1,⟨_,h2⟩,hR,h26,hN,hr,hx.t.symm,h3⟩
end Go.Proofs.YtdncpkkhkbijfaaGreatDoor
