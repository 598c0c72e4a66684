import Derived.Test.YtdncpkkhkbijfaaGreatDoorAg17
open Go.Proofs.Tryz
set_option linter.all false
set_option maxHeartbeats 0
set_option maxRecDepth 100000
namespace Go.Proofs.YtdncpkkhkbijfaaGreatDoor
section
open Go.RowKit
variable {B g M:Nat}{L:List Tk}{w0 w w':World}{R0 R R':Bx}{d d':Nat}{o o' o1:Except Qq PS}
theorem Qaa {w:World} {R:Bx} {d:Nat} {o:Except Qq PS} (H:Qw B g L w R d o) (hd: ∀s,o= .ok s->d<=200) (hl:Qc o L.length M):Calls prog 111 #[.pointer (some ⟨g,0,none⟩)] w (Jp B g L w R d o (λs n=>Qg n (.chain 0) d s)):=(Qu5 B g L M).2 w R d o H hd hl
def Qdj (B g:Nat) (L:List Tk) (M:Nat):Prop:= ∀w R d o,Qw B g L w R d o->d<=200->Qc o L.length M->Calls prog 37 #[.pointer (some ⟨g,0,none⟩)] w (Jp B g L w R d o (λs n=>Qac n .block d s))
def Qn6 (B g:Nat) (L:List Tk) (M:Nat):Prop:= ∀w R d o,Qw B g L w R d o->d<=200->Qc o L.length M->Calls prog 72 #[.pointer (some ⟨g,0,none⟩)] w (Jp B g L w R d o (λs n=>Qac n .stmt d s))
def Qp8 (d:Nat):PS->Nat->Option Out:=λs m=>Xf s λnm at_ s1=>Qm eqs s1 λs2=>Wy m d s2 λa s3=>Qm semi s3 λs4=>some (lay (En 12 [a] 0 nm (at_:Int)) s4)
def Qsp (d:Nat):PS->Nat->Option Out:=λs m=>Xf s λnm at_ s1=>Qm eqs s1 λs2=>Wy m d s2 λa s3=>Qm comma s3 λs4=>Wy m d s4 λb s5=>Out.go (Qac m .block d s5) λc s6=>some (lay (En 17 [a,b,hd1 c] 0 nm (at_:Int)) s6)
def Qni (K:Int) (a:Nat):PS->Nat->Option Out:=λs _=>Qm semi s λs1=>some (lay (En K [] 0 ⟨#[]⟩ (a:Int)) s1)
def Qok (K:Int) (a d:Nat):PS->Nat->Option Out:=λs m=>Wy m d s λk s1=>Qm semi s1 λs2=>some (lay (En K [k] 0 ⟨#[]⟩ (a:Int)) s2)
def Q2f (a d:Nat):PS->Nat->Option Out:=λs m=>Wy m d s λk s1=>Out.go (Qac m .block d s1) λb s2=>some (lay (En 16 [k,hd1 b] 0 ⟨#[]⟩ (a:Int)) s2)
theorem Wew (H:Qw B g L w R d o) (hd:d<=200) (hl:Qc o L.length M):Calls prog 133 #[.pointer (some ⟨g,0,none⟩),.bool false] w (Jp B g L w R d o (Qp8 d)):=by
 have HS:=Qa (QRun.start H);have Wv:=Qa hd;have HL:=Qa hl;have Xp:=Xm;clear H hd hl;go_enter func133,ntmps133;go_wp2_with fail;have Yd:Hid (Grow o o):=Grow.refl _;refine (Qgj HS.out.any).mono ?_;rintro en wn1 ⟨ta,rfl,Wp,ha,hf⟩;replace HS:=Qa (HS.out.step ha hf (λ_ h=>h));have Qv2:=Qa Wp;obtain ⟨X,hX⟩:=Qb (Cj o);rw [<-hX];have T9:=Qa hX;clear ha hf Wp hX;obtain ⟨p1,hp1⟩:=Qb (Vg o);rw [<-hp1]at HS;have Xq:=Qa hp1;have Ym:Hid (Qc p1 L.length M):=by rw [hp1];exact Qc.Sk HL.out
 have Vu:Hid (Grow o p1):=by rw [hp1];exact Grow.name
 replace Yd:=Qa (Yd.out.trans Vu.out);clear hp1;go_wp2_with fail;refine (Kr eqs HS.out.any).mono ?_;rintro en wm2 ⟨⟨Qn1,rfl⟩,ha,hf⟩;replace HS:=Qa (HS.out.step ha hf (λ_ h=>h));clear ha hf;obtain ⟨p2,hp2⟩:=Qb (Yv eqs p1);rw [<-hp2]at HS;have X4:=Qa hp2;have HL2:Hid (Qc p2 L.length M):=by rw [hp2];exact Qc.Ao Ym.out
 have HG2:Hid (Grow p1 p2):=by rw [hp2];exact Grow.need _
 replace Yd:=Qa (Yd.out.trans HG2.out);clear hp2;go_wp2_with fail;refine (Qaa HS.out.any (λ_ _=>Wv.out) HL2.out).mono ?_;rintro en wc3 ⟨va,Rc3,hdo,Qe⟩;obtain rfl:=Qe.en;replace HS:=Qa (HS.out.then_ Qe.run);have Kg:=Qa hdo;have Kz:=Qa Qe.tell;obtain ⟨a,hk⟩:=Qb (Qt va);rw [<-hk];have J4:=Qa hk;clear hdo Qe hk;obtain ⟨p3,hp3⟩:=Qb (toO va);rw [<-hp3]at HS;have Ab:=Qa hp3;have Vm:Hid (Qc p3 L.length M):=by rw [hp3];exact Does.Af Kg.out _ _ HL2.out
 have V5:Hid (Grow p2 p3):=by rw [hp3];exact Kz.out.grow
 replace Yd:=Qa (Yd.out.trans V5.out);clear hp3;have Zy:Hid (Js p3 a):=by rw [J4.out,Ab.out];exact Kz.out.Xd
 go_wp2_with fail;refine (Kr semi HS.out.any).mono ?_;rintro en wm4 ⟨⟨Qwk,rfl⟩,ha,hf⟩;replace HS:=Qa (HS.out.step ha hf (λ_ h=>h));clear ha hf;obtain ⟨p4,Cb⟩:=Qb (Yv semi p3);rw [<-Cb]at HS;have HO4:=Qa Cb;have Ji:Hid (Qc p4 L.length M):=by rw [Cb];exact Qc.Ao Vm.out
 have D6:Hid (Grow p3 p4):=by rw [Cb];exact Grow.need _
 replace Yd:=Qa (Yd.out.trans D6.out);clear Cb;replace Zy:=Qa (Zy.out.grow D6.out);go_wp2_with fail;refine (Ie 12 [a] 0 X ta #[.int .i64 a] rfl 1 rfl HS.out.any (λj hj=>by simp only [Mt,Ef,or_false]at hj;subst hj;exact Zy.out) (Ji.out.self) (by simp)).mono ?_;rintro en wz ⟨u,Rz,Wi,Qe,_⟩;obtain rfl:=Qe.en;have Yl:=Qa Wi;have Ze:=Qa Qe;clear Wi Qe;go_wp2_with fail;go_ret;refine ⟨u,Rz,?_,⟨HS.out.then_ Ze.out.run,rfl,Ze.out.tell.back Yd.out⟩⟩;refine Does.name Qv2.out ?_;rw [<-T9.out,<-Xq.out];refine Does.need (b:=eqs) ?_;rw [<-X4.out];refine Does.ex Kg.out ?_;rw [<-Ab.out,<-J4.out];refine Does.need (b:=semi) ?_;rw [<-HO4.out];exact Yl.out
theorem Wj0 (hB:Qdj B g L M) (H:Qw B g L w R d o) (hd:d<=200) (hl:Qc o L.length M):Calls prog 133 #[.pointer (some ⟨g,0,none⟩),.bool true] w (Jp B g L w R d o (Qsp d)):=by
 have HS:=Qa (QRun.start H);have Wv:=Qa hd;have HL:=Qa hl;have HB:=Qa hB;clear hB;have Xp:=Xm;clear H hd hl;go_enter func133,ntmps133;go_wp2_with fail;have Yd:Hid (Grow o o):=Grow.refl _;refine (Qgj HS.out.any).mono ?_;rintro en wn1 ⟨ta,rfl,Wp,ha,hf⟩;replace HS:=Qa (HS.out.step ha hf (λ_ h=>h));have Qv2:=Qa Wp;obtain ⟨X,hX⟩:=Qb (Cj o);rw [<-hX];have T9:=Qa hX;clear ha hf Wp hX;obtain ⟨p1,hp1⟩:=Qb (Vg o);rw [<-hp1]at HS;have Xq:=Qa hp1;have Ym:Hid (Qc p1 L.length M):=by rw [hp1];exact Qc.Sk HL.out
 have Vu:Hid (Grow o p1):=by rw [hp1];exact Grow.name
 replace Yd:=Qa (Yd.out.trans Vu.out);clear hp1;go_wp2_with fail;refine (Kr eqs HS.out.any).mono ?_;rintro en wm2 ⟨⟨Qn1,rfl⟩,ha,hf⟩;replace HS:=Qa (HS.out.step ha hf (λ_ h=>h));clear ha hf;obtain ⟨p2,hp2⟩:=Qb (Yv eqs p1);rw [<-hp2]at HS;have X4:=Qa hp2;have HL2:Hid (Qc p2 L.length M):=by rw [hp2];exact Qc.Ao Ym.out
 have HG2:Hid (Grow p1 p2):=by rw [hp2];exact Grow.need _
 replace Yd:=Qa (Yd.out.trans HG2.out);clear hp2;go_wp2_with fail;refine (Qaa HS.out.any (λ_ _=>Wv.out) HL2.out).mono ?_;rintro en wc3 ⟨va,Rc3,hdo,Qe⟩;obtain rfl:=Qe.en;replace HS:=Qa (HS.out.then_ Qe.run);have Kg:=Qa hdo;have Kz:=Qa Qe.tell;obtain ⟨a,hk⟩:=Qb (Qt va);rw [<-hk];have J4:=Qa hk;clear hdo Qe hk;obtain ⟨p3,hp3⟩:=Qb (toO va);rw [<-hp3]at HS;have Ab:=Qa hp3;have Vm:Hid (Qc p3 L.length M):=by rw [hp3];exact Does.Af Kg.out _ _ HL2.out
 have V5:Hid (Grow p2 p3):=by rw [hp3];exact Kz.out.grow
 replace Yd:=Qa (Yd.out.trans V5.out);clear hp3;have Zy:Hid (Js p3 a):=by rw [J4.out,Ab.out];exact Kz.out.Xd
 go_wp2_with fail;refine (Kr comma HS.out.any).mono ?_;rintro en wm4 ⟨⟨Qwk,rfl⟩,ha,hf⟩;replace HS:=Qa (HS.out.step ha hf (λ_ h=>h));clear ha hf;obtain ⟨p4,Cb⟩:=Qb (Yv comma p3);rw [<-Cb]at HS;have HO4:=Qa Cb;have Ji:Hid (Qc p4 L.length M):=by rw [Cb];exact Qc.Ao Vm.out
 have D6:Hid (Grow p3 p4):=by rw [Cb];exact Grow.need _
 replace Yd:=Qa (Yd.out.trans D6.out);clear Cb;replace Zy:=Qa (Zy.out.grow D6.out);go_wp2_with fail;refine (Qaa HS.out.any (λ_ _=>Wv.out) Ji.out).mono ?_;rintro en wc5 ⟨vb,Rc5,hdo,Qe⟩;obtain rfl:=Qe.en;replace HS:=Qa (HS.out.then_ Qe.run);have Nu:=Qa hdo;have P8:=Qa Qe.tell;obtain ⟨b,hk⟩:=Qb (Qt vb);rw [<-hk];have Ns:=Qa hk;clear hdo Qe hk;obtain ⟨p5,Pf⟩:=Qb (toO vb);rw [<-Pf]at HS;have Nw:=Qa Pf;have Dn:Hid (Qc p5 L.length M):=by rw [Pf];exact Does.Af Nu.out _ _ Ji.out
 have E8:Hid (Grow p4 p5):=by rw [Pf];exact P8.out.grow
 replace Yd:=Qa (Yd.out.trans E8.out);clear Pf;replace Zy:=Qa (Zy.out.grow E8.out);have P7:Hid (Js p5 b):=by rw [Ns.out,Nw.out];exact P8.out.Xd
 go_wp2_with fail;refine (HB.out _ _ _ _ HS.out.any Wv.out Dn.out).mono ?_;rintro en wc6 ⟨vc,Rc6,hdo,Qe⟩;obtain rfl:=Qe.en;replace HS:=Qa (HS.out.then_ Qe.run);have HDc:=Qa hdo;have HTc:=Qa Qe.tell;obtain ⟨c,hk⟩:=Qb (Qt vc);rw [<-hk];have HKc:=Qa hk;clear hdo Qe hk;obtain ⟨p6,hp6⟩:=Qb (toO vc);rw [<-hp6]at HS;have HO6:=Qa hp6;have HL6:Hid (Qc p6 L.length M):=by rw [hp6];exact Does.left (λ_ e=>by cases e) HDc.out _ _ Dn.out
 have HG6:Hid (Grow p5 p6):=by rw [hp6];exact HTc.out.grow
 replace Yd:=Qa (Yd.out.trans HG6.out);clear hp6;replace Zy:=Qa (Zy.out.grow HG6.out);replace P7:=Qa (P7.out.grow HG6.out);have HIc:Hid (Js p6 c):=by rw [HKc.out,HO6.out];exact HTc.out.Xd
 go_wp2_with fail;refine (Ie 17 [a,b,c] 0 X ta #[.int .i64 a,.int .i64 b,.int .i64 c] rfl 3 rfl HS.out.any (λj hj=>by
    simp only [Mt,Ef,or_false]at hj;rcases hj with rfl |rfl |rfl
    ·exact Zy.out
    ·exact P7.out
    ·exact HIc.out) (HL6.out.self) (by simp)).mono ?_;rintro en wz ⟨u,Rz,Wi,Qe,_⟩;obtain rfl:=Qe.en;have Yl:=Qa Wi;have Ze:=Qa Qe;clear Wi Qe;go_wp2_with fail;go_ret;refine ⟨u,Rz,?_,⟨HS.out.then_ Ze.out.run,rfl,Ze.out.tell.back Yd.out⟩⟩;refine Does.name Qv2.out ?_;rw [<-T9.out,<-Xq.out];refine Does.need (b:=eqs) ?_;rw [<-X4.out];refine Does.ex Kg.out ?_;rw [<-Ab.out,<-J4.out];refine Does.need (b:=comma) ?_;rw [<-HO4.out];refine Does.ex Nu.out ?_;rw [<-Nw.out,<-Ns.out];refine Does.go (G:=λc s6 _=>some (lay (En 17 [a,b,c] 0 X (ta:Int)) s6)) HDc.out ?_;rw [<-HO6.out,<-HKc.out];exact Yl.out
theorem Wcy (ta:Nat) (H:Qw B g L w R d o) (hd:d<=200) (hl:Qc o L.length M):Calls prog 108 #[.pointer (some ⟨g,0,none⟩),.string ⟨#[118,97,114]⟩,.int .i64 (ta:Int)] w (Jp B g L w R d o (Qp8 d)):=by have HS:=Qa (QRun.start H);have Wv:=Qa hd;have HL:=Qa hl;have Xp:=Xm;clear H hd hl;go_enter func108,ntmps108;go_wp2_with fail;refine (Wew HS.out.any Wv.out HL.out).mono ?_;rintro en w1 ⟨u,R1,hdo,Qe⟩;obtain rfl:=Qe.en;have Wu:=Qa hdo;have Ze:=Qa Qe;clear hdo Qe;go_wp2_with fail;go_ret;exact ⟨u,R1,Wu.out,Ze.out⟩
theorem Wif (ta:Nat) (hB:Qdj B g L M) (H:Qw B g L w R d o) (hd:d<=200) (hl:Qc o L.length M):Calls prog 108 #[.pointer (some ⟨g,0,none⟩),.string ⟨#[102,111,114]⟩,.int .i64 (ta:Int)] w (Jp B g L w R d o (Qsp d)):=by have HS:=Qa (QRun.start H);have Wv:=Qa hd;have HL:=Qa hl;have HB:=Qa hB;clear hB;have Xp:=Xm;clear H hd hl;go_enter func108,ntmps108;go_wp2_with fail;refine (Wj0 HB.out HS.out.any Wv.out HL.out).mono ?_;rintro en w1 ⟨u,R1,hdo,Qe⟩;obtain rfl:=Qe.en;have Wu:=Qa hdo;have Ze:=Qa Qe;clear hdo Qe;go_wp2_with fail;go_ret;exact ⟨u,R1,Wu.out,Ze.out⟩
theorem Q92 (ta:Nat) (H:Qw B g L w R d o) (hd:d<=200) (hl:Qc o L.length M):Calls prog 108 #[.pointer (some ⟨g,0,none⟩),.string ⟨#[98,114,101,97,107]⟩,.int .i64 (ta:Int)] w (Jp B g L w R d o (Qni 18 ta)):=by
 have HS:=Qa (QRun.start H);have Wv:=Qa hd;have HL:=Qa hl;have Xp:=Xm;clear H hd hl;go_enter func108,ntmps108;go_wp2_with fail;have Yd:Hid (Grow o o):=Grow.refl _;refine (Kr semi HS.out.any).mono ?_;rintro en wm1 ⟨⟨Wfo,rfl⟩,ha,hf⟩;replace HS:=Qa (HS.out.step ha hf (λ_ h=>h));clear ha hf;obtain ⟨p1,hp1⟩:=Qb (Yv semi o);rw [<-hp1]at HS;have Xq:=Qa hp1;have Ym:Hid (Qc p1 L.length M):=by rw [hp1];exact Qc.Ao HL.out
 have Vu:Hid (Grow o p1):=by rw [hp1];exact Grow.need _
 replace Yd:=Qa (Yd.out.trans Vu.out);clear hp1;go_wp2_with fail;refine (Qav 18 0 ⟨#[]⟩ ta HS.out.any (Ym.out.self)).mono ?_;rintro en wz ⟨u,Rz,Wi,Qe,_⟩;obtain rfl:=Qe.en;have Yl:=Qa Wi;have Ze:=Qa Qe;clear Wi Qe;go_wp2_with fail;go_ret;refine ⟨u,Rz,?_,⟨HS.out.then_ Ze.out.run,rfl,Ze.out.tell.back Yd.out⟩⟩;refine Does.need (b:=semi) ?_;rw [<-Xq.out];exact Yl.out
theorem Wl3 (ta:Nat) (H:Qw B g L w R d o) (hd:d<=200) (hl:Qc o L.length M):Calls prog 108 #[.pointer (some ⟨g,0,none⟩),.string ⟨#[99,111,110,116,105,110,117,101]⟩,.int .i64 (ta:Int)] w (Jp B g L w R d o (Qni 19 ta)):=by
 have HS:=Qa (QRun.start H);have Wv:=Qa hd;have HL:=Qa hl;have Xp:=Xm;clear H hd hl;go_enter func108,ntmps108;go_wp2_with fail;have Yd:Hid (Grow o o):=Grow.refl _;refine (Kr semi HS.out.any).mono ?_;rintro en wm1 ⟨⟨Wfo,rfl⟩,ha,hf⟩;replace HS:=Qa (HS.out.step ha hf (λ_ h=>h));clear ha hf;obtain ⟨p1,hp1⟩:=Qb (Yv semi o);rw [<-hp1]at HS;have Xq:=Qa hp1;have Ym:Hid (Qc p1 L.length M):=by rw [hp1];exact Qc.Ao HL.out
 have Vu:Hid (Grow o p1):=by rw [hp1];exact Grow.need _
 replace Yd:=Qa (Yd.out.trans Vu.out);clear hp1;go_wp2_with fail;refine (Qav 19 0 ⟨#[]⟩ ta HS.out.any (Ym.out.self)).mono ?_;rintro en wz ⟨u,Rz,Wi,Qe,_⟩;obtain rfl:=Qe.en;have Yl:=Qa Wi;have Ze:=Qa Qe;clear Wi Qe;go_wp2_with fail;go_ret;refine ⟨u,Rz,?_,⟨HS.out.then_ Ze.out.run,rfl,Ze.out.tell.back Yd.out⟩⟩;refine Does.need (b:=semi) ?_;rw [<-Xq.out];exact Yl.out
theorem Wh1 (ta:Nat) (H:Qw B g L w R d o) (hd:d<=200) (hl:Qc o L.length M):Calls prog 108 #[.pointer (some ⟨g,0,none⟩),.string ⟨#[114,101,116,117,114,110]⟩,.int .i64 (ta:Int)] w (Jp B g L w R d o (Qok 20 ta d)):=by
 have HS:=Qa (QRun.start H);have Wv:=Qa hd;have HL:=Qa hl;have Xp:=Xm;clear H hd hl;go_enter func108,ntmps108;go_wp2_with fail;have Yd:Hid (Grow o o):=Grow.refl _;refine (Qaa HS.out.any (λ_ _=>Wv.out) HL.out).mono ?_;rintro en wc1 ⟨va,Rc1,hdo,Qe⟩;obtain rfl:=Qe.en;replace HS:=Qa (HS.out.then_ Qe.run);have Kg:=Qa hdo;have Kz:=Qa Qe.tell;obtain ⟨a,hk⟩:=Qb (Qt va);rw [<-hk];have J4:=Qa hk;clear hdo Qe hk;obtain ⟨p1,hp1⟩:=Qb (toO va);rw [<-hp1]at HS;have Xq:=Qa hp1;have Ym:Hid (Qc p1 L.length M):=by rw [hp1];exact Does.Af Kg.out _ _ HL.out
 have Vu:Hid (Grow o p1):=by rw [hp1];exact Kz.out.grow
 replace Yd:=Qa (Yd.out.trans Vu.out);clear hp1;have Zy:Hid (Js p1 a):=by rw [J4.out,Xq.out];exact Kz.out.Xd
 go_wp2_with fail;refine (Kr semi HS.out.any).mono ?_;rintro en wm2 ⟨⟨Qn1,rfl⟩,ha,hf⟩;replace HS:=Qa (HS.out.step ha hf (λ_ h=>h));clear ha hf;obtain ⟨p2,hp2⟩:=Qb (Yv semi p1);rw [<-hp2]at HS;have X4:=Qa hp2;have HL2:Hid (Qc p2 L.length M):=by rw [hp2];exact Qc.Ao Ym.out
 have HG2:Hid (Grow p1 p2):=by rw [hp2];exact Grow.need _
 replace Yd:=Qa (Yd.out.trans HG2.out);clear hp2;replace Zy:=Qa (Zy.out.grow HG2.out);go_wp2_with fail;refine (Ie 20 [a] 0 ⟨#[]⟩ ta #[.int .i64 a] rfl 1 rfl HS.out.any (λj hj=>by simp only [Mt,Ef,or_false]at hj;subst hj;exact Zy.out) (HL2.out.self) (by simp)).mono ?_;rintro en wz ⟨u,Rz,Wi,Qe,_⟩;obtain rfl:=Qe.en;have Yl:=Qa Wi;have Ze:=Qa Qe;clear Wi Qe;go_wp2_with fail;go_ret;refine ⟨u,Rz,?_,⟨HS.out.then_ Ze.out.run,rfl,Ze.out.tell.back Yd.out⟩⟩;refine Does.ex Kg.out ?_;rw [<-Xq.out,<-J4.out];refine Does.need (b:=semi) ?_;rw [<-X4.out];exact Yl.out
theorem Q9i (ta:Nat) (H:Qw B g L w R d o) (hd:d<=200) (hl:Qc o L.length M):Calls prog 108 #[.pointer (some ⟨g,0,none⟩),.string ⟨#[112,114,105,110,116]⟩,.int .i64 (ta:Int)] w (Jp B g L w R d o (Qok 21 ta d)):=by
 have HS:=Qa (QRun.start H);have Wv:=Qa hd;have HL:=Qa hl;have Xp:=Xm;clear H hd hl;go_enter func108,ntmps108;go_wp2_with fail;have Yd:Hid (Grow o o):=Grow.refl _;refine (Qaa HS.out.any (λ_ _=>Wv.out) HL.out).mono ?_;rintro en wc1 ⟨va,Rc1,hdo,Qe⟩;obtain rfl:=Qe.en;replace HS:=Qa (HS.out.then_ Qe.run);have Kg:=Qa hdo;have Kz:=Qa Qe.tell;obtain ⟨a,hk⟩:=Qb (Qt va);rw [<-hk];have J4:=Qa hk;clear hdo Qe hk;obtain ⟨p1,hp1⟩:=Qb (toO va);rw [<-hp1]at HS;have Xq:=Qa hp1;have Ym:Hid (Qc p1 L.length M):=by rw [hp1];exact Does.Af Kg.out _ _ HL.out
 have Vu:Hid (Grow o p1):=by rw [hp1];exact Kz.out.grow
 replace Yd:=Qa (Yd.out.trans Vu.out);clear hp1;have Zy:Hid (Js p1 a):=by rw [J4.out,Xq.out];exact Kz.out.Xd
 go_wp2_with fail;refine (Kr semi HS.out.any).mono ?_;rintro en wm2 ⟨⟨Qn1,rfl⟩,ha,hf⟩;replace HS:=Qa (HS.out.step ha hf (λ_ h=>h));clear ha hf;obtain ⟨p2,hp2⟩:=Qb (Yv semi p1);rw [<-hp2]at HS;have X4:=Qa hp2;have HL2:Hid (Qc p2 L.length M):=by rw [hp2];exact Qc.Ao Ym.out
 have HG2:Hid (Grow p1 p2):=by rw [hp2];exact Grow.need _
 replace Yd:=Qa (Yd.out.trans HG2.out);clear hp2;replace Zy:=Qa (Zy.out.grow HG2.out);go_wp2_with fail;refine (Ie 21 [a] 0 ⟨#[]⟩ ta #[.int .i64 a] rfl 1 rfl HS.out.any (λj hj=>by simp only [Mt,Ef,or_false]at hj;subst hj;exact Zy.out) (HL2.out.self) (by simp)).mono ?_;rintro en wz ⟨u,Rz,Wi,Qe,_⟩;obtain rfl:=Qe.en;have Yl:=Qa Wi;have Ze:=Qa Qe;clear Wi Qe;go_wp2_with fail;go_ret;refine ⟨u,Rz,?_,⟨HS.out.then_ Ze.out.run,rfl,Ze.out.tell.back Yd.out⟩⟩;refine Does.ex Kg.out ?_;rw [<-Xq.out,<-J4.out];refine Does.need (b:=semi) ?_;rw [<-X4.out];exact Yl.out
theorem Wmv (ta:Nat) (hB:Qdj B g L M) (H:Qw B g L w R d o) (hd:d<=200) (hl:Qc o L.length M):Calls prog 108 #[.pointer (some ⟨g,0,none⟩),.string ⟨#[119,104,105,108,101]⟩,.int .i64 (ta:Int)] w (Jp B g L w R d o (Q2f ta d)):=by
 have HS:=Qa (QRun.start H);have Wv:=Qa hd;have HL:=Qa hl;have HB:=Qa hB;clear hB;have Xp:=Xm;clear H hd hl;go_enter func108,ntmps108;go_wp2_with fail;have Yd:Hid (Grow o o):=Grow.refl _;refine (Qaa HS.out.any (λ_ _=>Wv.out) HL.out).mono ?_;rintro en wc1 ⟨va,Rc1,hdo,Qe⟩;obtain rfl:=Qe.en;replace HS:=Qa (HS.out.then_ Qe.run);have Kg:=Qa hdo;have Kz:=Qa Qe.tell;obtain ⟨a,hk⟩:=Qb (Qt va);rw [<-hk];have J4:=Qa hk;clear hdo Qe hk;obtain ⟨p1,hp1⟩:=Qb (toO va);rw [<-hp1]at HS;have Xq:=Qa hp1;have Ym:Hid (Qc p1 L.length M):=by rw [hp1];exact Does.Af Kg.out _ _ HL.out
 have Vu:Hid (Grow o p1):=by rw [hp1];exact Kz.out.grow
 replace Yd:=Qa (Yd.out.trans Vu.out);clear hp1;have Zy:Hid (Js p1 a):=by rw [J4.out,Xq.out];exact Kz.out.Xd
 go_wp2_with fail;refine (HB.out _ _ _ _ HS.out.any Wv.out Ym.out).mono ?_;rintro en wc2 ⟨vb,Rc2,hdo,Qe⟩;obtain rfl:=Qe.en;replace HS:=Qa (HS.out.then_ Qe.run);have Nu:=Qa hdo;have P8:=Qa Qe.tell;obtain ⟨b,hk⟩:=Qb (Qt vb);rw [<-hk];have Ns:=Qa hk;clear hdo Qe hk;obtain ⟨p2,hp2⟩:=Qb (toO vb);rw [<-hp2]at HS;have X4:=Qa hp2;have HL2:Hid (Qc p2 L.length M):=by rw [hp2];exact Does.left (λ_ e=>by cases e) Nu.out _ _ Ym.out
 have HG2:Hid (Grow p1 p2):=by rw [hp2];exact P8.out.grow
 replace Yd:=Qa (Yd.out.trans HG2.out);clear hp2;replace Zy:=Qa (Zy.out.grow HG2.out);have P7:Hid (Js p2 b):=by rw [Ns.out,X4.out];exact P8.out.Xd
 go_wp2_with fail;refine (Ie 16 [a,b] 0 ⟨#[]⟩ ta #[.int .i64 a,.int .i64 b] rfl 2 rfl HS.out.any (λj hj=>by
    simp only [Mt,Ef,or_false]at hj;rcases hj with rfl |rfl
    ·exact Zy.out
    ·exact P7.out) (HL2.out.self) (by simp)).mono ?_;rintro en wz ⟨u,Rz,Wi,Qe,_⟩;obtain rfl:=Qe.en;have Yl:=Qa Wi;have Ze:=Qa Qe;clear Wi Qe;go_wp2_with fail;go_ret;refine ⟨u,Rz,?_,⟨HS.out.then_ Ze.out.run,rfl,Ze.out.tell.back Yd.out⟩⟩;refine Does.ex Kg.out ?_;rw [<-Xq.out,<-J4.out];refine Does.go (G:=λb s2 _=>some (lay (En 16 [a,b] 0 ⟨#[]⟩ (ta:Int)) s2)) Nu.out ?_;rw [<-X4.out,<-Ns.out];exact Yl.out
end
section
open Go.RowKit
variable {B g M:Nat}{L:List Tk}{w0 w w':World}{R0 R R':Bx}{d d':Nat}{o o' o1:Except Qq PS}{acc:List Int}
theorem QRun.Wn4 (H:QRun B g L w0 R0 d w R o) (H0:Qw B g L w0 R0 d' o') (cs:Array Value) (hcs:cs=(acc.map (Value.int .i64)).toArray) (m:Nat) (hm:m=acc.length) (hn:acc.length<=100000) (hv: ∀k∈acc,Js o k):
  ∃R1,Ar B g L w0 R0 d (w.alloc (.cells cs 3)) R1 o (.slice (some ⟨w.heap.size,0,none⟩) m m) acc:=by
 have hW1:Below w.heap.size w (w.alloc (.cells cs 3)):=Qag;have H1:=H.any.widen hW1 (λk=>R.Z k\/k=w.heap.size) (λk hk=>by
  rcases hk with hk |hk
  ·exact .inl hk
  ·exact .inr ⟨by omega,by rw [hk];simp⟩);have F:=H.fr.trans (Fr.of_below R hW1);refine ⟨_,⟨⟨H1,⟨F.os,F.tape,F.output,F.size,F.block,F.vn,F.vh⟩,λk hk=>.inl (H.z k hk)⟩,λk hk=> ?_,Qb1 (Qex w acc cs hcs hn m hm) H.fr.size,hv,H0.tabs.size,λk hk=>H0.zlt hk⟩⟩;have e:w.heap.size=k:=by simpa [Value.ownBlock] using hk
 exact .inr e.symm
def ifF (a d:Nat):PS->Nat->Option Out:=λs m=>Wy m d s λk s1=>Out.go (Qac m .block d s1) λb s2=>
 if s2.is X7 then Out.go (Qac m .block d s2.next) λc s3=>some (lay (En 15 [k,hd1 b,hd1 c] 0 ⟨#[]⟩ (a:Int)) s3)else some (lay (En 15 [k,hd1 b] 0 ⟨#[]⟩ (a:Int)) s2)
theorem Wm1 (ta:Nat) (hB:Qdj B g L M) (H:Qw B g L w R d o) (hd:d<=200) (hl:Qc o L.length M):Calls prog 108 #[.pointer (some ⟨g,0,none⟩),.string ⟨#[105,102]⟩,.int .i64 (ta:Int)] w (Jp B g L w R d o (ifF ta d)):=by
 have HS:=Qa (QRun.start H);have Wv:=Qa hd;have HL:=Qa hl;have HB:=Qa hB;clear hB;have Xp:=Xm;clear H hd hl;go_enter func108,ntmps108;go_wp2_with fail;have Yd:Hid (Grow o o):=Grow.refl _;have HB0:=Qa HS.out.any;have HBO:Hid (B<=w.heap.size):=HS.out.any.old;refine (Qaa HS.out.any (λ_ _=>Wv.out) HL.out).mono ?_;rintro en wc1 ⟨va,Rc1,hdo,Qe⟩;obtain rfl:=Qe.en;replace HS:=Qa (HS.out.then_ Qe.run);have Kg:=Qa hdo;have Kz:=Qa Qe.tell;obtain ⟨a,hk⟩:=Qb (Qt va);rw [<-hk];have J4:=Qa hk;clear hdo Qe hk;obtain ⟨p1,hp1⟩:=Qb (toO va);rw [<-hp1]at HS;have Xq:=Qa hp1;have Ym:Hid (Qc p1 L.length M):=by rw [hp1];exact Does.Af Kg.out _ _ HL.out
 have Vu:Hid (Grow o p1):=by rw [hp1];exact Kz.out.grow
 replace Yd:=Qa (Yd.out.trans Vu.out);clear hp1;have Zy:Hid (Js p1 a):=by rw [J4.out,Xq.out];exact Kz.out.Xd
 go_wp2_with fail;refine (HB.out _ _ _ _ HS.out.any Wv.out Ym.out).mono ?_;rintro en wc2 ⟨vb,Rc2,hdo,Qe⟩;obtain rfl:=Qe.en;replace HS:=Qa (HS.out.then_ Qe.run);have Nu:=Qa hdo;have P8:=Qa Qe.tell;obtain ⟨b,hk⟩:=Qb (Qt vb);rw [<-hk];have Ns:=Qa hk;clear hdo Qe hk;obtain ⟨p2,hp2⟩:=Qb (toO vb);rw [<-hp2]at HS;have X4:=Qa hp2;have HL2:Hid (Qc p2 L.length M):=by rw [hp2];exact Does.left (λ_ e=>by cases e) Nu.out _ _ Ym.out
 have HG2:Hid (Grow p1 p2):=by rw [hp2];exact P8.out.grow
 replace Yd:=Qa (Yd.out.trans HG2.out);clear hp2;replace Zy:=Qa (Zy.out.grow HG2.out);have P7:Hid (Js p2 b):=by rw [Ns.out,X4.out];exact P8.out.Xd
 obtain ⟨W,hW⟩:=Qb (wc2.alloc (.cells #[.int .i64 a,.int .i64 b] 3));obtain ⟨GG,hGG⟩:=Qb wc2.heap.size;obtain ⟨RP,Tf⟩:=HS.out.Wn4 (acc:=[a,b]) HB0.out #[.int .i64 a,.int .i64 b] rfl 2 rfl (by simp) (λj hj=>by
    simp only [Mt,Ef,or_false]at hj;rcases hj with rfl |rfl
    ·exact Zy.out
    ·exact P7.out);rw [<-hW,<-hGG]at Tf;have HP:=Qa Tf;clear Tf HS;go_wp2_with fail;rw [<-hW,<-hGG];clear hW hGG;refine (Ub X7 HP.out.any).mono ?_;rintro en we ⟨cc,oe,rfl,ha,hf,hc⟩;rcases hc with ⟨rfl,s,hs,hb,ho⟩ |⟨rfl,ho,hb⟩
 ·subst ho;have C8:=Qa hs;have Yx:=Qa hb;have HGE:Hid (Grow p2 (.ok s.next)):=by rw [hs];exact Grow.next
  have Z9:Hid (Qc (.ok s.next) L.length M):=by have h1:=HL2.out;rw [hs]at h1;exact (h1.Fh hb).mono (by omega) (by omega)
  replace HP:=Qa (HP.out.step ha hf (λ_ h=>h) HGE.out);clear ha hf hs hb;go_wp2_with fail;refine (HB.out _ _ _ _ HP.out.any Wv.out Z9.out).mono ?_;rintro en wd ⟨vc,Rd',hdo,Qe⟩;obtain rfl:=Qe.en;replace HP:=Qa (HP.out.then_ Qe.run Qe.tell.grow);have HDc:=Qa hdo;have HTc:=Qa Qe.tell;have HLc:=Qa (Does.left (λ_ e=>by cases e) hdo _ _ Z9.out);obtain ⟨c,hk⟩:=Qb (Qt vc);rw [<-hk];have HKc:=Qa hk;clear hdo Qe hk;go_wp2_with (at_builtin;refine Hf rfl (.tmp 74) (.tmp 77) rfl w.heap.size wd (.slice (some ⟨GG,0,none⟩) 2 2) [a,b] c rfl rfl HP.out.now HP.out.fr.size (by simp) ?_;intro v3 w6 h3 hg3 hw3;obtain ⟨va,vc3,hv3⟩:=Zq h3;obtain ⟨R3,hr3⟩:=HP.out.push (k:=c) (by rw [HKc.out];exact HTc.out.Xd) h3 hg3 hw3;have HR3:=Qa hr3;clear hr3 h3 hg3 hw3;rw [show ([a,b]++[c]:List Int).length=3 from rfl]at hv3;subst hv3);refine (HR3.out.lay 15 0 ⟨#[]⟩ ta HBO.out (HLc.out.self) (by simp)).mono ?_;rintro en wz ⟨u,Rz,Wi,Qe,_⟩;obtain rfl:=Qe.en;have Yl:=Qa Wi;have Ze:=Qa Qe;clear Wi Qe;go_wp2_with fail;go_ret;refine ⟨u,Rz,?_,⟨Ze.out.run,rfl,Ze.out.tell.back ((Yd.out.trans HGE.out).trans HTc.out.grow)⟩⟩;refine Does.ex Kg.out ?_;rw [<-Xq.out,<-J4.out];refine Does.go (G:=λb s2 m=>if s2.is X7 then Out.go (Qac m .block d s2.next) λc s3=>some (lay (En 15 [a,b,hd1 c] 0 ⟨#[]⟩ (ta:Int)) s3)else some (lay (En 15 [a,b] 0 ⟨#[]⟩ (ta:Int)) s2)) Nu.out ?_;rw [<-X4.out,<-Ns.out];refine Does.Qmj (X:=λs3 m=>Out.go (Qac m .block d s3) λc s4=>some (lay (En 15 [a,b,hd1 c] 0 ⟨#[]⟩ (ta:Int)) s4)) C8.out Yx.out ?_;refine Does.go (G:=λc s4 _=>some (lay (En 15 [a,b,c] 0 ⟨#[]⟩ (ta:Int)) s4)) HDc.out ?_;rw [<-HKc.out];exact Yl.out
 ·rw [ho]at ha;replace HP:=Qa (HP.out.step ha hf (λ_ h=>h) (Grow.refl _));have Yx:=Qa hb;clear ha hf hb ho;go_wp2_with fail;refine (HP.out.lay 15 0 ⟨#[]⟩ ta HBO.out (HL2.out.self) (by simp)).mono ?_;rintro en wz ⟨u,Rz,Wi,Qe,_⟩;obtain rfl:=Qe.en;have Yl:=Qa Wi;have Ze:=Qa Qe;clear Wi Qe;go_wp2_with fail;go_ret;refine ⟨u,Rz,?_,⟨Ze.out.run,rfl,Ze.out.tell.back Yd.out⟩⟩;refine Does.ex Kg.out ?_;rw [<-Xq.out,<-J4.out];refine Does.go (G:=λb s2 m=>if s2.is X7 then Out.go (Qac m .block d s2.next) λc s3=>some (lay (En 15 [a,b,hd1 c] 0 ⟨#[]⟩ (ta:Int)) s3)else some (lay (En 15 [a,b] 0 ⟨#[]⟩ (ta:Int)) s2)) Nu.out ?_;rw [<-X4.out,<-Ns.out];exact Does.O4 (X:=λs3 m=>Out.go (Qac m .block d s3.next) λc s4=>some (lay (En 15 [a,b,hd1 c] 0 ⟨#[]⟩ (ta:Int)) s4)) Yx.out Yl.out
def Qc9:List (List UInt8):=[Jj,Kc,Ju,Jy,Ap,Bp,Ck,Ae]
def Q26 (i a d:Nat):PS->Nat->Option Out:=match i with
 | 0=>Qp8 d
 | 1=>Qsp d
 | 2=>Qni 18 a
 | 3=>Qni 19 a
 | 4=>Qok 20 a d
 | 5=>Qok 21 a d
 | 6=>Q2f a d
 |_=>ifF a d
theorem Wj2 (ta i:Nat) (hi:i<8) (hB:Qdj B g L M) (H:Qw B g L w R d o) (hd:d<=200) (hl:Qc o L.length M):Calls prog 108 #[.pointer (some ⟨g,0,none⟩),.string ⟨(Qc9.getD i []).toArray⟩,.int .i64 (ta:Int)] w (Jp B g L w R d o (Q26 i ta d)):=by
 match i,hi with
 | 0,_=>exact Wcy ta H hd hl
 | 1,_=>exact Wif ta hB H hd hl
 | 2,_=>exact Q92 ta H hd hl
 | 3,_=>exact Wl3 ta H hd hl
 | 4,_=>exact Wh1 ta H hd hl
 | 5,_=>exact Q9i ta H hd hl
 | 6,_=>exact Wmv ta hB H hd hl
 | 7,_=>exact Wm1 ta hB H hd hl
theorem Does.word {s:PS} {i:Nat} {u:Out} (hi:i<8) (hs:s.is (Qc9.getD i [])=true) (h:Does (.ok s.next) (Q26 i s.tok.place d) u):Does (.ok s) (λs n=>Qac n .stmt d s) u:=by
 match i,hi with
 | 0,_=>exact (Qs.let_ (Qxl hs) h).ev
 | 1,_=>exact (Qs.for_ (Q47 hs) h).ev
 | 2,_=>exact (Qs.Qrv (Q23 hs) h).ev
 | 3,_=>exact (Qs.cont (Qwu hs) h).ev
 | 4,_=>exact (Qs.ret (Q01 hs) h).ev
 | 5,_=>exact (Qs.print (Q77 hs) h).ev
 | 6,_=>exact (Qs.Kl (Q4k hs) h).ev
 | 7,_=>exact (Qs.if_ (Qy0 hs) h).ev
theorem Wdp {s:PS} (h: ∀j,j<8->s.is (Qc9.getD j [])=false):Xc s.tok=0:=by
 refine Q5w λj hj=> ?_
 match j,hj with
 | 0,_=>exact h 0 (by decide)
 | 1,_=>exact h 7 (by decide)
 | 2,_=>exact h 6 (by decide)
 | 3,_=>exact h 1 (by decide)
 | 4,_=>exact h 2 (by decide)
 | 5,_=>exact h 3 (by decide)
 | 6,_=>exact h 4 (by decide)
 | 7,_=>exact h 5 (by decide)
end
section
open Go.RowKit
variable {B g M:Nat}{L:List Tk}{w0 w w':World}{R0 R R':Bx}{d d':Nat}{o o' o1:Except Qq PS}{acc:List Int}
def Qnq (nm:ByteArray) (a d:Nat):PS->Nat->Option Out:=λs1 n=>Out.go (Qg n (.call nm a) d s1) λk s2=>Qm semi s2 λs3=>some (lay (En 22 [hd1 k] 0 ⟨#[]⟩ (a:Int)) s3)
def Qfo (nm:ByteArray) (d:Nat):PS->Nat->Option Out:=λs1 n=>Out.go (Qg n (.inner lb rb) d s1) λa s2=>Qm eqs s2 λs3=>Wy n d s3 λb s4=>Qm semi s4 λs5=>some (lay (En 14 [hd1 a,b] 0 nm (s1.tok.place:Int)) s5)
def Qe7 (nm:ByteArray) (a d:Nat):PS->Nat->Option Out:=λs1 n=>Qm eqs s1 λs2=>Wy n d s2 λb s3=>Qm semi s3 λs4=>some (lay (En 13 [b] 0 nm (a:Int)) s4)
def Q6c (d:Nat):PS->Nat->Option Out:=λs n=>Xf s λnm at_ s1=>if s1.is lp then Qnq nm at_ d s1 n else if s1.is lb then Qfo nm d s1 n else Qe7 nm at_ d s1 n
theorem Does.named (h0: ∀s,o= .ok s->Xc s.tok=0) {u:Out} (h:Does o (Q6c d) u):Does o (λs n=>Qac n .stmt d s) u:=Does.st (F:=Q6c d) (λs hs v hv=>Qs.named (h0 s hs) hv) h
theorem Wlg (hB: ∀m,m<M->Qdj B g L m) (H:Qw B g L w R d o) (hd:d<=200) (hl:Qc o L.length M):Calls prog 72 #[.pointer (some ⟨g,0,none⟩)] w (Jp B g L w R d o (λs n=>Qac n .stmt d s)):=by
 have HS:=Qa (QRun.start H);have Wv:=Qa hd;have HL:=Qa hl;have HB:=Qa hB;clear hB;have Xp:=Xm;clear H hd hl;go_enter func72,ntmps72;go_wp2_with fail;obtain ⟨tk,tn,ta,tx,Wp,hcall⟩:=Gu HS.out.any;have HTN:=Qa Wp;have Wj:Hid (∀s,o= .ok s->ta=s.tok.place):=λs hs=>(HTN.out s hs).2.2.1;clear Wp hcall HTN;obtain ⟨W1,hW1⟩:=Qb (w.alloc (.cells #[.string ⟨#[118,97,114]⟩,.string ⟨#[102,111,114]⟩,.string ⟨#[98,114,101,97,107]⟩,.string ⟨#[99,111,110,116,105,110,117,101]⟩,.string ⟨#[114,101,116,117,114,110]⟩,.string ⟨#[112,114,105,110,116]⟩,.string ⟨#[119,104,105,108,101]⟩,.string ⟨#[105,102]⟩] 9));obtain ⟨b1,hb1⟩:=Qb w.heap.size;have Mg:Hid (Held W1 b1 9 (strsOf Qc9)):=by rw [hW1,hb1];exact Held.new _ _ _
 replace HS:=Qa (HS.out.below (show Below w.heap.size w W1 by rw [hW1];exact Qag));obtain ⟨tk,tn,ta,tx,Wp,hcall⟩:=Gu HS.out.any;have HTN:=Qa Wp;replace Wj:Hid (∀s,o= .ok s->ta=s.tok.place):=λs hs=>(HTN.out s hs).2.2.1;have HC:=Qa hcall;clear Wp hcall HTN;rw [<-hW1,<-hb1];clear hW1 hb1;refine HC.out.mono ?_;rintro en w1 ⟨rfl,hb⟩;replace HS:=Qa (HS.out.below hb);replace Mg:=Qa (Mg.out.since hb);clear hb HC;go_wp2_with fail;go_loopw [5] (λt5 wr=> ∃(i:Nat) (R1:Bx),i<=8/\t5= .int .i64 (i:Int)/\Hid (QRun B g L w R d wr R1 o)/\Hid (Held wr b1 9 (strsOf Qc9))/\Hid (∀s,o= .ok s-> ∀j,j<i->s.is (Qc9.getD j [])=false)) (λt5 _=>8-(intOf t5).toNat)
 case atStart=>exact ⟨0,_,by omega,rfl,HS,Mg,λs hs j hj=>absurd hj (by omega)⟩
 case round=>
  clear HS Mg;obtain ⟨i,R1,hi,rfl,HS,Mg,V9⟩:=hrel;by_cases hlt:i<8
  ·have Qaf:(i:Int)<8:=(by omega);have c0:=Qt7 Mg.out (i:=i) (by show i<8;exact hlt);obtain ⟨c,hc⟩:=Qb (Qc9.getD i []);rw [<-hc]at c0;have HCC:=Qa hc;clear hc;go_wp2_with fail;refine (Ub c HS.out.any).mono ?_;rintro en w2 ⟨x,oe,rfl,ha,hf,hc⟩;replace Mg:=Qa (HS.out.any.held hf Mg.out (by decide) (by decide) (HS.out.any.Lj Mg.out (by decide)));replace c0:=Qt7 Mg.out (i:=i) (by show i<8;exact hlt);rw [<-HCC.out]at c0;rcases hc with ⟨rfl,s,hs,hb,ho⟩ |⟨rfl,ho,hb⟩
   ·subst ho;subst hs;replace HS:=Qa (HS.out.step ha hf (λ_ h=>h));have Yx:=Qa hb;obtain ⟨hM,hN,hl1⟩:=HL.out.next_lt hb;have Ym:=Qa hl1;have HM:=Qa hM;have Ai:=Qa hlt;clear ha hf hb hl1 hM hN;go_wp2_with fail;rw [HCC.out];refine (Wj2 (M:=M-1) ta i Ai.out (HB.out (M-1) (by have:=HM.out;omega)) HS.out.any Wv.out (Ym.out.mono (by omega) (Qh _))).mono ?_;rintro en w3 ⟨u,R3,hdo,Qe⟩;obtain rfl:=Qe.en;have Wu:=Qa hdo;have Ze:=Qa Qe;clear hdo Qe;go_wp2_with fail;go_ret;refine ⟨u,R3,Does.word Ai.out (by rw [<-HCC.out];exact Yx.out) ?_,⟨HS.out.then_ Ze.out.run,rfl,Ze.out.tell.back Grow.next⟩⟩;rw [<-Wj.out s rfl];exact Wu.out
   ·rw [ho]at ha;replace HS:=Qa (HS.out.step ha hf (λ_ h=>h));have Yx:=Qa hb;clear ha hf hb ho;go_wp2_with fail;go_roundw
    case rel=>
     refine ⟨i+1,R1,by omega,by go_num,HS,Mg,λs hs j hj=> ?_⟩;rcases V7 j i with h1 |h1
     ·exact V9.out s hs j h1
     ·rw [show j=i by omega,<-HCC.out];exact Yx.out s hs
    case measure=>simp [intOf];omega
  ·have Qaf: ¬(i:Int)<8:=(by omega);have HST:Hid (∀s,o= .ok s->Xc s.tok=0):=λs hs=>Wdp λj hj=>V9.out s hs j (by omega);clear hlt hi V9 Mg;go_wp2_with fail;have Yd:Hid (Grow o o):=Grow.refl _;refine (Qgj HS.out.any).mono ?_;rintro en wn1 ⟨tb,rfl,Wp,ha,hf⟩;replace HS:=Qa (HS.out.step ha hf (λ_ h=>h));obtain ⟨X,hX⟩:=Qb (Cj o);rw [<-hX];have T9:=Qa hX;clear ha hf Wp hX;obtain ⟨p1,hp1⟩:=Qb (Vg o);rw [<-hp1]at HS;have Xq:=Qa hp1;have Ym:Hid (Qc p1 L.length M):=(by rw [hp1];exact Qc.Sk HL.out);have Vu:Hid (Grow o p1):=(by rw [hp1];exact Grow.name);replace Yd:=Qa (Yd.out.trans Vu.out);clear hp1;go_wp2_with fail;refine (Pj lp HS.out.any).mono ?_;rintro en w4 ⟨cc,rfl,hb,hc⟩;replace HS:=Qa (HS.out.below hb);clear hb;rcases hc with ⟨rfl,s,hs,hb⟩ |⟨rfl,hb⟩
   ·have C8:=Qa hs;have Yx:=Qa hb;clear hs hb;go_wp2_with fail;refine (Q0t (M:=M) X ta (λm _=>(Qu5 B g L m).2) HS.out.any (λ_ _=>Wv.out) (by have:=Wv.out;omega) Ym.out Ym.out.self).mono ?_;rintro en wc2 ⟨va,Rc2,hdo,Qe⟩;obtain rfl:=Qe.en;replace HS:=Qa (HS.out.then_ Qe.run);have Kg:=Qa hdo;have Kz:=Qa Qe.tell;obtain ⟨a,hk⟩:=Qb (Qt va);rw [<-hk];have J4:=Qa hk;clear hdo Qe hk;obtain ⟨p2,hp2⟩:=Qb (toO va);rw [<-hp2]at HS;have X4:=Qa hp2;have HL2:Hid (Qc p2 L.length M):=(by rw [hp2];exact Does.Af Kg.out _ _ Ym.out);have HG2:Hid (Grow p1 p2):=(by rw [hp2];exact Kz.out.grow);replace Yd:=Qa (Yd.out.trans HG2.out);clear hp2;have Zy:Hid (Js p2 a):=(by rw [J4.out,X4.out];exact Kz.out.Xd);go_wp2_with fail;refine (Kr semi HS.out.any).mono ?_;rintro en wm3 ⟨⟨Wpr,rfl⟩,ha,hf⟩;replace HS:=Qa (HS.out.step ha hf (λ_ h=>h));clear ha hf;obtain ⟨p3,hp3⟩:=Qb (Yv semi p2);rw [<-hp3]at HS;have Ab:=Qa hp3;have Vm:Hid (Qc p3 L.length M):=(by rw [hp3];exact Qc.Ao HL2.out);have V5:Hid (Grow p2 p3):=(by rw [hp3];exact Grow.need _);replace Yd:=Qa (Yd.out.trans V5.out);clear hp3;replace Zy:=Qa (Zy.out.grow V5.out);go_wp2_with fail;refine (Ie 22 [a] 0 ⟨#[]⟩ ta #[.int .i64 a] rfl 1 rfl HS.out.any (λj hj=>by simp only [Mt,Ef,or_false]at hj;subst hj;exact Zy.out) (Vm.out.self) (by simp)).mono ?_;rintro en wz ⟨u,Rz,Wi,Qe,_⟩;obtain rfl:=Qe.en;have Yl:=Qa Wi;have Ze:=Qa Qe;clear Wi Qe;go_wp2_with fail;go_ret;refine ⟨u,Rz,?_,⟨HS.out.then_ Ze.out.run,rfl,Ze.out.tell.back Yd.out⟩⟩;refine Does.named HST.out ?_;refine Does.name Wj.out ?_;rw [<-T9.out,<-Xq.out];refine Does.Qm8 (X:=Qnq X ta d) (Y:=λs1 n=>if s1.is lb then Qfo X d s1 n else Qe7 X ta d s1 n) C8.out Yx.out ?_;rw [<-C8.out];refine Does.go (G:=λk s2 _=>Qm semi s2 λs3=>some (lay (En 22 [k] 0 ⟨#[]⟩ (ta:Int)) s3)) Kg.out ?_;rw [<-X4.out,<-J4.out];refine Does.need (b:=semi) ?_;rw [<-Ab.out];exact Yl.out
   ·have HNP:=Qa hb;clear hb;go_wp2_with fail;refine (Pj lb HS.out.any).mono ?_;rintro en w5 ⟨cc,rfl,hb,hc⟩;replace HS:=Qa (HS.out.below hb);clear hb;rcases hc with ⟨rfl,s,hs,hb⟩ |⟨rfl,hb⟩
    ·have C8:=Qa hs;have Yx:=Qa hb;clear hs hb;obtain ⟨tk2,tn2,tc,tx2,Qh0,Qhy⟩:=Gu HS.out.any;have HTC:Hid (tc=s.tok.place):=(Qh0 s C8.out).2.2.1;have Y1:=Qa Qhy;clear Qh0 Qhy;go_wp2_with fail;refine Y1.out.mono ?_;rintro en w6 ⟨rfl,hb⟩;replace HS:=Qa (HS.out.below hb);clear hb Y1;go_wp2_with fail;refine (Qzh (M:=M) (λm _=>(Qu5 B g L m).2) HS.out.any (λ_ _=>Wv.out) Ym.out).mono ?_;rintro en wc2 ⟨va,Rc2,hdo,Qe⟩;obtain rfl:=Qe.en;replace HS:=Qa (HS.out.then_ Qe.run);have Kg:=Qa hdo;have Kz:=Qa Qe.tell;obtain ⟨a,hk⟩:=Qb (Qt va);rw [<-hk];have J4:=Qa hk;clear hdo Qe hk;obtain ⟨p2,hp2⟩:=Qb (toO va);rw [<-hp2]at HS;have X4:=Qa hp2;have HL2:Hid (Qc p2 L.length M):=(by rw [hp2];exact Does.Af Kg.out _ _ Ym.out);have HG2:Hid (Grow p1 p2):=(by rw [hp2];exact Kz.out.grow);replace Yd:=Qa (Yd.out.trans HG2.out);clear hp2;have Zy:Hid (Js p2 a):=(by rw [J4.out,X4.out];exact Kz.out.Xd);go_wp2_with fail;refine (Kr eqs HS.out.any).mono ?_;rintro en wm3 ⟨⟨Wpr,rfl⟩,ha,hf⟩;replace HS:=Qa (HS.out.step ha hf (λ_ h=>h));clear ha hf;obtain ⟨p3,hp3⟩:=Qb (Yv eqs p2);rw [<-hp3]at HS;have Ab:=Qa hp3;have Vm:Hid (Qc p3 L.length M):=(by rw [hp3];exact Qc.Ao HL2.out);have V5:Hid (Grow p2 p3):=(by rw [hp3];exact Grow.need _);replace Yd:=Qa (Yd.out.trans V5.out);clear hp3;replace Zy:=Qa (Zy.out.grow V5.out);go_wp2_with fail;refine (Qaa HS.out.any (λ_ _=>Wv.out) Vm.out).mono ?_;rintro en wc4 ⟨vb,Rc4,hdo,Qe⟩;obtain rfl:=Qe.en;replace HS:=Qa (HS.out.then_ Qe.run);have Nu:=Qa hdo;have P8:=Qa Qe.tell;obtain ⟨b,hk⟩:=Qb (Qt vb);rw [<-hk];have Ns:=Qa hk;clear hdo Qe hk;obtain ⟨p4,Cb⟩:=Qb (toO vb);rw [<-Cb]at HS;have HO4:=Qa Cb;have Ji:Hid (Qc p4 L.length M):=(by rw [Cb];exact Does.Af Nu.out _ _ Vm.out);have D6:Hid (Grow p3 p4):=(by rw [Cb];exact P8.out.grow);replace Yd:=Qa (Yd.out.trans D6.out);clear Cb;replace Zy:=Qa (Zy.out.grow D6.out);have P7:Hid (Js p4 b):=(by rw [Ns.out,HO4.out];exact P8.out.Xd);go_wp2_with fail;refine (Kr semi HS.out.any).mono ?_;rintro en wm5 ⟨⟨Wsz,rfl⟩,ha,hf⟩;replace HS:=Qa (HS.out.step ha hf (λ_ h=>h));clear ha hf;obtain ⟨p5,Pf⟩:=Qb (Yv semi p4);rw [<-Pf]at HS;have Nw:=Qa Pf;have Dn:Hid (Qc p5 L.length M):=(by rw [Pf];exact Qc.Ao Ji.out);have E8:Hid (Grow p4 p5):=(by rw [Pf];exact Grow.need _);replace Yd:=Qa (Yd.out.trans E8.out);clear Pf;replace Zy:=Qa (Zy.out.grow E8.out);replace P7:=Qa (P7.out.grow E8.out);go_wp2_with fail;refine (Ie 14 [a,b] 0 X tc #[.int .i64 a,.int .i64 b] rfl 2 rfl HS.out.any (λj hj=>by
        simp only [Mt,Ef,or_false]at hj;rcases hj with rfl |rfl
        ·exact Zy.out
        ·exact P7.out) (Dn.out.self) (by simp)).mono ?_;rintro en wz ⟨u,Rz,Wi,Qe,_⟩;obtain rfl:=Qe.en;have Yl:=Qa Wi;have Ze:=Qa Qe;clear Wi Qe;go_wp2_with fail;go_ret;refine ⟨u,Rz,?_,⟨HS.out.then_ Ze.out.run,rfl,Ze.out.tell.back Yd.out⟩⟩;refine Does.named HST.out ?_;refine Does.name Wj.out ?_;rw [<-T9.out,<-Xq.out];refine Does.O4 (X:=Qnq X ta d) (Y:=λs1 n=>if s1.is lb then Qfo X d s1 n else Qe7 X ta d s1 n) HNP.out ?_;refine Does.Qm8 (X:=Qfo X d) (Y:=Qe7 X ta d) C8.out Yx.out ?_;refine (show Does (.ok s) (λs1 n=>Out.go (Qg n (.inner lb rb) d s1) λa s2=>Qm eqs s2 λs3=>Wy n d s3 λb s4=>Qm semi s4 λs5=>some (lay (En 14 [hd1 a,b] 0 X (s.tok.place:Int)) s5)) u from ?_);rw [<-C8.out,<-HTC.out];refine Does.go (G:=λk s2 n=>Qm eqs s2 λs3=>Wy n d s3 λb s4=>Qm semi s4 λs5=>some (lay (En 14 [k,b] 0 X (tc:Int)) s5)) Kg.out ?_;rw [<-X4.out,<-J4.out];refine Does.need (b:=eqs) ?_;rw [<-Ab.out];refine Does.ex Nu.out ?_;rw [<-HO4.out,<-Ns.out];refine Does.need (b:=semi) ?_;rw [<-Nw.out];exact Yl.out
    ·have Rs:=Qa hb;clear hb;go_wp2_with fail;refine (Kr eqs HS.out.any).mono ?_;rintro en wm2 ⟨⟨Qn1,rfl⟩,ha,hf⟩;replace HS:=Qa (HS.out.step ha hf (λ_ h=>h));clear ha hf;obtain ⟨p2,hp2⟩:=Qb (Yv eqs p1);rw [<-hp2]at HS;have X4:=Qa hp2;have HL2:Hid (Qc p2 L.length M):=(by rw [hp2];exact Qc.Ao Ym.out);have HG2:Hid (Grow p1 p2):=(by rw [hp2];exact Grow.need _);replace Yd:=Qa (Yd.out.trans HG2.out);clear hp2;go_wp2_with fail;refine (Qaa HS.out.any (λ_ _=>Wv.out) HL2.out).mono ?_;rintro en wc3 ⟨va,Rc3,hdo,Qe⟩;obtain rfl:=Qe.en;replace HS:=Qa (HS.out.then_ Qe.run);have Kg:=Qa hdo;have Kz:=Qa Qe.tell;obtain ⟨a,hk⟩:=Qb (Qt va);rw [<-hk];have J4:=Qa hk;clear hdo Qe hk;obtain ⟨p3,hp3⟩:=Qb (toO va);rw [<-hp3]at HS;have Ab:=Qa hp3;have Vm:Hid (Qc p3 L.length M):=(by rw [hp3];exact Does.Af Kg.out _ _ HL2.out);have V5:Hid (Grow p2 p3):=(by rw [hp3];exact Kz.out.grow);replace Yd:=Qa (Yd.out.trans V5.out);clear hp3;have Zy:Hid (Js p3 a):=(by rw [J4.out,Ab.out];exact Kz.out.Xd);go_wp2_with fail;refine (Kr semi HS.out.any).mono ?_;rintro en wm4 ⟨⟨Qwk,rfl⟩,ha,hf⟩;replace HS:=Qa (HS.out.step ha hf (λ_ h=>h));clear ha hf;obtain ⟨p4,Cb⟩:=Qb (Yv semi p3);rw [<-Cb]at HS;have HO4:=Qa Cb;have Ji:Hid (Qc p4 L.length M):=(by rw [Cb];exact Qc.Ao Vm.out);have D6:Hid (Grow p3 p4):=(by rw [Cb];exact Grow.need _);replace Yd:=Qa (Yd.out.trans D6.out);clear Cb;replace Zy:=Qa (Zy.out.grow D6.out);go_wp2_with fail;refine (Ie 13 [a] 0 X ta #[.int .i64 a] rfl 1 rfl HS.out.any (λj hj=>by simp only [Mt,Ef,or_false]at hj;subst hj;exact Zy.out) (Ji.out.self) (by simp)).mono ?_;rintro en wz ⟨u,Rz,Wi,Qe,_⟩;obtain rfl:=Qe.en;have Yl:=Qa Wi;have Ze:=Qa Qe;clear Wi Qe;go_wp2_with fail;go_ret;refine ⟨u,Rz,?_,⟨HS.out.then_ Ze.out.run,rfl,Ze.out.tell.back Yd.out⟩⟩;refine Does.named HST.out ?_;refine Does.name Wj.out ?_;rw [<-T9.out,<-Xq.out];refine Does.O4 (X:=Qnq X ta d) (Y:=λs1 n=>if s1.is lb then Qfo X d s1 n else Qe7 X ta d s1 n) HNP.out ?_;refine Does.O4 (X:=Qfo X d) (Y:=Qe7 X ta d) Rs.out ?_;rw [show Qe7 X ta d=λs1 n=>Qm eqs s1 λs2=>Wy n d s2 λb s3=>Qm semi s3 λs4=>some (lay (En 13 [b] 0 X (ta:Int)) s4)from rfl];refine Does.need (b:=eqs) ?_;rw [<-X4.out];refine Does.ex Kg.out ?_;rw [<-Ab.out,<-J4.out];refine Does.need (b:=semi) ?_;rw [<-HO4.out];exact Yl.out
end
section
open Go.RowKit
variable {B g P T N:Nat}{L:List Tk}{w0 w w':World}{R0 R R':Bx}{d:Nat}{o:Except Qq PS}{v:Value}{acc:List Int}{K n:Int}{S:ByteArray}
theorem Qsv (H:Any B g L w R d o) (hP:Ke w g P T):
  Calls prog 101 #[.pointer (some ⟨P,0,none⟩)] w λen w'=>en= .returned (.int .i64 (Lv o:Int))/\Any B g L w' R d (F3 o)/\Fr g w w' R R:=by
 have HR:=Qa (Pre.start H hP);have Xp:=Xm;clear H hP;go_enter func101,ntmps101;go_wp2_with fail;go_loopw [3] (λt3 wr=> ∃i:Nat,1<=i/\i<=4/\t3= .int .i64 (i:Int)/\Hid (Pre B g P T L w R d wr R o (.slice none 0 0) [])/\Hid (∀s,o= .ok s-> ∀j,1<=j->j<i->s.is (Te j)=false)) (λt3 _=>4-(intOf t3).toNat)
 case atStart=>exact ⟨1,by omega,by omega,rfl,HR,λs hs j h1 h2=>by omega⟩
 case round=>
  obtain ⟨i,h1,h4,rfl,HX,HN⟩:=hrel;clear HR;by_cases hi:i<4
  ·have hp:=HX.out.par.c0;obtain ⟨kt,kf,hk⟩:=HX.out.par.kw;have k1:wr.cell? ⟨5,1,none⟩=some (.string ⟨#[105,110,116]⟩):=(by simp [World.cell?,hk,Qow]);have k2:wr.cell? ⟨5,2,none⟩=some (.string ⟨#[98,111,111,108]⟩):=(by simp [World.cell?,hk,Qow]);have k3:wr.cell? ⟨5,3,none⟩=some (.string ⟨#[97,114,114]⟩):=(by simp [World.cell?,hk,Qow]);clear hk;have HD:=Qa (HX.out.below (Zk wr));have h3:i=1\/i=2\/i=3:=(by omega);rcases h3 with rfl |rfl |rfl
   ·go_wp2_with fail;go_still_tail 7,(by kernel_rfl);change wpList _ _ _ _ _ wr.drew;go_wp2_with fail;refine (G5 (Te 1) HD.out.any).mono ?_;rintro en w2 ⟨c,o',rfl,ha,hf,hc⟩;rcases hc with ⟨rfl,s,hs,hb,ho⟩ |⟨rfl,ho,hb⟩
    ·have HY:=Qa (HD.out.step ha hf rfl);have HK:Hid (Yt s.tok=1):=Qfd (by decide) (by decide) hb;have HO:=Qa ho;have HS:=Qa hs;clear ha hf hb ho hs;go_wp2_with fail;go_ret;have hk:=HK.out;have hs:=HS.out;subst hs;refine ⟨by show _=Ending.returned (.int .i64 ((Yt s.tok:Nat):Int));rw [hk];rfl,?_,HY.out.fr⟩;rw [U4 (by omega),<-HO.out];exact HY.out.any
    ·have HY:=Qa (HD.out.step ha hf rfl);rw [ho]at HY;have HB:=Qa hb;clear ha hf hb ho;go_wp2_with fail;go_roundw
     case rel=>exact ⟨1+1,by decide,by decide,by go_num,HY,λs hs=>Rn (X:=λj=>s.is (Te j)) (HN.out s hs) (HB.out s hs)⟩
     case measure=>simp [intOf]
   ·go_wp2_with fail;go_still_tail 7,(by kernel_rfl);change wpList _ _ _ _ _ wr.drew;go_wp2_with fail;refine (G5 (Te 2) HD.out.any).mono ?_;rintro en w2 ⟨c,o',rfl,ha,hf,hc⟩;rcases hc with ⟨rfl,s,hs,hb,ho⟩ |⟨rfl,ho,hb⟩
    ·have HY:=Qa (HD.out.step ha hf rfl);have HK:Hid (Yt s.tok=2):=Qfd (by decide) (by decide) hb;have HO:=Qa ho;have HS:=Qa hs;clear ha hf hb ho hs;go_wp2_with fail;go_ret;have hk:=HK.out;have hs:=HS.out;subst hs;refine ⟨by show _=Ending.returned (.int .i64 ((Yt s.tok:Nat):Int));rw [hk];rfl,?_,HY.out.fr⟩;rw [U4 (by omega),<-HO.out];exact HY.out.any
    ·have HY:=Qa (HD.out.step ha hf rfl);rw [ho]at HY;have HB:=Qa hb;clear ha hf hb ho;go_wp2_with fail;go_roundw
     case rel=>exact ⟨2+1,by decide,by decide,by go_num,HY,λs hs=>Rn (X:=λj=>s.is (Te j)) (HN.out s hs) (HB.out s hs)⟩
     case measure=>simp [intOf]
   ·go_wp2_with fail;go_still_tail 7,(by kernel_rfl);change wpList _ _ _ _ _ wr.drew;go_wp2_with fail;refine (G5 (Te 3) HD.out.any).mono ?_;rintro en w2 ⟨c,o',rfl,ha,hf,hc⟩;rcases hc with ⟨rfl,s,hs,hb,ho⟩ |⟨rfl,ho,hb⟩
    ·have HY:=Qa (HD.out.step ha hf rfl);have HK:Hid (Yt s.tok=3):=Qfd (by decide) (by decide) hb;have HO:=Qa ho;have HS:=Qa hs;clear ha hf hb ho hs;go_wp2_with fail;go_ret;have hk:=HK.out;have hs:=HS.out;subst hs;refine ⟨by show _=Ending.returned (.int .i64 ((Yt s.tok:Nat):Int));rw [hk];rfl,?_,HY.out.fr⟩;rw [U4 (by omega),<-HO.out];exact HY.out.any
    ·have HY:=Qa (HD.out.step ha hf rfl);rw [ho]at HY;have HB:=Qa hb;clear ha hf hb ho;go_wp2_with fail;go_roundw
     case rel=>exact ⟨3+1,by decide,by decide,by go_num,HY,λs hs=>Rn (X:=λj=>s.is (Te j)) (HN.out s hs) (HB.out s hs)⟩
     case measure=>simp [intOf]
  ·have hi4:i=4:=(by omega);subst hi4;have hp:=HX.out.par.c0;have HD:=Qa (HX.out.below (Zk wr));have hp2:=HD.out.par.c0;have HZ:Hid (Lv o=0/\F3 o=Lu 8 (match o with | .ok s=>s.tok.place | .error f=>0) o):=by
    cases o with
    |error f=>exact ⟨rfl,rfl⟩
    |ok s=>have:=Q2z (HN.out s rfl);exact ⟨this,Qd5 this⟩
   go_wp2_with fail;go_region_with (first
    |(go_at_call 61;refine (Qdl HD.out.any).mono ?_;rintro en w2 ⟨tk,tn,ta,tx,rfl,Wp,hb⟩;have Wj:=Qa Wp;have HY:=Qa (HD.out.below hb);have hp3:=HY.out.par.c0;clear hb Wp)
    |(go_at_call 60;refine (Qjg 8 ta (by decide) HY.out.any).mono ?_;rintro en w3 ⟨⟨v,rfl⟩,ha,hf⟩;have HF:=Qa (HY.out.step ha hf rfl);clear ha hf))
   all_goals
    go_wp2_with fail;go_ret;refine ⟨by rw [HZ.out.1];rfl,?_,HF.out.fr⟩;rw [HZ.out.2];have:=HF.out.any;cases o with
    |error f=>exact this
    |ok s=>have h2:=(Wj.out s rfl).2;subst h2;exact this
end
section
open Go.RowKit
variable {B g P T N:Nat}{L:List Tk}{w0 w w':World}{R0 R R':Bx}{d:Nat}{o:Except Qq PS}{v:Value}{acc:List Int}{K n:Int}{S:ByteArray}
def Ig (B g P T:Nat) (L:List Tk) (M:Nat):Prop:= ∀(w:World) (R:Bx) (d:Nat) (o:Except Qq PS),Any B g L w R d o->Ke w g P T->d<=200->Qc o L.length M->
 Calls prog 95 #[.pointer (some ⟨P,0,none⟩)] w λen w'=> ∃u R',Does o (λs n=>Qac n .block d s) u/\Came B g L w R d u en w' R'
theorem Ig.use {M:Nat} (h:Ig B g P T L M) (H:Any B g L w R d o) (hP:Ke w g P T) (hd:d<=200) (hl:Qc o L.length M):
  Calls prog 95 #[.pointer (some ⟨P,0,none⟩)] w λen w'=> ∃u R',Does o (λs n=>Qac n .block d s) u/\Came B g L w R d u en w' R'/\ ∀n m,Qc o n m->Qc (toO u) n m:=
 (h w R d o H hP hd hl).mono λen w' ⟨u,R',h1,h2⟩=>⟨u,R',h1,h2,h1.left (λacc e=>by cases e)⟩
theorem Q89 {a:Nat} (H:Any B g L w R d o) (hP:Ke w g P T) (hd: ∀s,o= .ok s->d<=200) (hl:Qc o L.length L.length):
  Calls prog 53 #[.pointer (some ⟨P,0,none⟩),.agg #[.int .i64 K,.slice none 0 0,.int .i64 0,.string ⟨#[]⟩,.int .i64 (a:Int)]] w λen w'=> ∃u R',Does o (λs m=>Xf s λnm at_ s0=>Qm eqs s0 λs1=>Wy m d s1 λk s2=>Qm semi s2 λs3=>some (lay (En K [k] 0 nm (at_:Int)) s3)) u/\Came B g L w R d u en w' R'/\ ∀n m,Qc o n m->Qc (toO u) (n+1) m:=by
 obtain ⟨W,hW⟩:=Qb (w.alloc (.cells #[.int .i64 K,.slice none 0 0,.int .i64 0,.string ⟨#[]⟩,.int .i64 (a:Int)] 37));obtain ⟨N,hN⟩:=Qb w.heap.size;obtain ⟨w0,hw0⟩:=Qb w;obtain ⟨R0,hR0⟩:=Qb R;have HR:Hid (Run B g P T L w0 R0 d W R o N K (.slice none 0 0) [] 0 ⟨#[]⟩ (a:Int)):=by rw [hW,hN,hw0,hR0];exact (Pre.start H hP).node K 0 ⟨#[]⟩ a
 have HW0:=Qa hw0;have Jg:=Qa hR0;clear hw0 hR0;have b0:=HR.out.n0;have Wv:=Qa hd;have HL:=Qa hl;clear H hP hd hl;go_enter func53,ntmps53;rw [Qz 1];go_wp2_with fail;rw [<-hW,<-hN];clear hW hN;refine Qn ?_;go_wp2_with fail;refine (Qjj HR.out.any HR.out.par K).mono ?_;rintro en w1 ⟨ta,rfl,Wp,ha,hf⟩;replace HR:=Qa (HR.out.step ha hf rfl);have Wj:=Qa Wp;obtain ⟨X,hX⟩:=Qb (Cj o);rw [<-hX];have HX:=Qa hX;clear ha hf Wp hX b0;go_wp2_with fail;refine (Qqx HR.out.toPre (λs hs=>by cases o with |error f=>cases hs |ok s=>exact Wv.out s rfl) (Qc.Sk HL.out) (by simp)).mono ?_;rintro en w5 ⟨u2,R5,hd2,hc2,hl2⟩;obtain rfl:=hc2.en;have HD2:=Qa hd2;have Y1:=Qa hc2;have HL2:=Qa hl2;clear hd2 hc2 hl2;go_wp2_with fail;go_ret;have hw0:=HW0.out;have hR0:=Jg.out;subst hw0 hR0;exact ⟨u2,R5,Does.name (G:=λnm at_ s0 m=>Qm eqs s0 λs1=>Wy m d s1 λk s2=>Qm semi s2 λs3=>some (lay (En K [k] 0 nm (at_:Int)) s3)) Wj.out (by rw [<-HX.out];exact HD2.out),Y1.out,λn m h=>HL2.out n m (Qc.Sk (h.mono (by omega) (by omega)))⟩
theorem Wrr {a M:Nat} (hB:Ig B g P T L M) (H:Any B g L w R d o) (hP:Ke w g P T) (hd:d<=200) (hl:Qc o L.length M):
  Calls prog 55 #[.pointer (some ⟨P,0,none⟩),.agg #[.int .i64 K,.slice none 0 0,.int .i64 0,.string ⟨#[]⟩,.int .i64 (a:Int)]] w λen w'=> ∃u R',Does o (λs m=>Wy m d s λk s1=>Out.go (Qac m .block d s1) λb s2=>some (lay (En K [k,hd1 b] 0 ⟨#[]⟩ (a:Int)) s2)) u/\Came B g L w R d u en w' R'/\ ∀n m,Qc o n m->Qc (toO u) (n+1) m:=by
 obtain ⟨W,hW⟩:=Qb (w.alloc (.cells #[.int .i64 K,.slice none 0 0,.int .i64 0,.string ⟨#[]⟩,.int .i64 (a:Int)] 37));obtain ⟨N,hN⟩:=Qb w.heap.size;obtain ⟨w0,hw0⟩:=Qb w;obtain ⟨R0,hR0⟩:=Qb R;have HR:Hid (Run B g P T L w0 R0 d W R o N K (.slice none 0 0) [] 0 ⟨#[]⟩ (a:Int)):=by rw [hW,hN,hw0,hR0];exact (Pre.start H hP).node K 0 ⟨#[]⟩ a
 have HW0:=Qa hw0;have Jg:=Qa hR0;clear hw0 hR0;have Wv:=Qa hd;have HL:=Qa hl;have Aq:=Qa hB;clear H hP hd hl hB;have G8:Hid (Qc o L.length L.length):=HL.out.self;go_enter func55,ntmps55;go_wp2_with fail;rw [<-hW,<-hN];clear hW hN;have Q0:=Qa (HR.out.below (Zk W));have b1:=HR.out.n1;have hp:=HR.out.par.c0;go_cut [] (λwx=>Hid (Tx B g P T L w0 R0 d o (λs n=>Qg n (.chain 0) d s) N K [] 0 ⟨#[]⟩ (a:Int) wx))
 case first=>
  go_region_law (first
   |(go_simp;go_at_call 94;refine ((Qic Q0.out.any (λs hs=>Wv.out))).mono ?_;rintro en w2 ⟨u,R2,hdo,hc,Wd⟩;obtain rfl:=hc.en;have HR2:=Qa (Q0.out.step hc.any hc.fr hc.z);have Wu:=Qa hdo;have Xo:=Qa Wd;obtain ⟨k,hk⟩:=Qb (Qt u);rw [<-hk];have HK:=Qa hk;clear hdo hc Wd hk;have c1:=HR2.out.n1;have c2:=(HR2.out.below ((Below.refl _ _).alloc (Qh _) (.cells #[.int .i64 k] 3))).n1)
   |(refine Mf rfl (.tmp 6) (.tmp 12) rfl w0.heap.size w2 (.slice none 0 0) [] k (by rfl) (by rfl) HR2.out.now HR2.out.fr.size (by simp) ?_;intro v3 w3 h3 hg3 hw3;obtain ⟨va,vc,hv3⟩:=Zq h3;obtain ⟨R3,hr3,hc3,hf3⟩:=HR2.out.push h3 hg3 hw3;have HR3:=Qa hr3;clear hr3 h3 hg3 hw3;rw [Qf,Yw]at hv3;subst hv3))
  all_goals
   go_wp2_with fail;go_meet;exact ⟨u,R3,_,Wu.out,Xo.out,by rw [<-HK.out];exact HR3.out⟩
 case rest=>
  obtain ⟨u1,R1,v1,hdo,Wd,hr⟩:=hcut.out;obtain ⟨W1,hwc⟩:=Qb wc;rw [<-hwc]at hr ⊢;have HX:=Qa hr;have HD1:=Qa hdo;have Ym:=Qa Wd;clear hcut hdo Wd hr hwc hp b1 Q0;go_wp2_with fail;have Q0:=Qa (HX.out.below (Zk W1));have b1:=HX.out.n1;have hp:=HX.out.par.c0;go_cut [] (λwx=>Hid (Tx B g P T L w0 R0 d (toO u1) (λs n=>Qac n .block d s) N K ([]++[Qt u1]) 0 ⟨#[]⟩ (a:Int) wx))
  case first=>
   go_region_law (first
    |(go_simp;go_at_call 95;refine ((Aq.out.use Q0.out.any Q0.out.par Wv.out (Ym.out _ _ HL.out))).mono ?_;rintro en w2 ⟨u,R2,hdo,hc,Wd⟩;obtain rfl:=hc.en;have HR2:=Qa (Q0.out.step hc.any hc.fr hc.z);have Wu:=Qa hdo;have Xo:=Qa Wd;obtain ⟨k,hk⟩:=Qb (Qt u);rw [<-hk];have HK:=Qa hk;clear hdo hc Wd hk;have c1:=HR2.out.n1;have c2:=(HR2.out.below ((Below.refl _ _).alloc (Qh _) (.cells #[.int .i64 k] 3))).n1)
    |(refine Mf rfl (.tmp 16) (.tmp 19) rfl w0.heap.size w2 v1 ([]++[Qt u1]) k (by rfl) (by rfl) HR2.out.now HR2.out.fr.size (by simp) ?_;intro v3 w3 h3 hg3 hw3;obtain ⟨va,vc,hv3⟩:=Zq h3;obtain ⟨R3,hr3,hc3,hf3⟩:=HR2.out.push h3 hg3 hw3;have HR3:=Qa hr3;clear hr3 h3 hg3 hw3;rw [Qf,Yw]at hv3;subst hv3))
   all_goals
    go_wp2_with fail;go_meet;exact ⟨u,R3,_,Wu.out,Xo.out,by rw [<-HK.out];exact HR3.out⟩
  case rest=>
   obtain ⟨u2,R2,v2,hdo,Wd,hr⟩:=hcut.out;obtain ⟨W2,hwc⟩:=Qb wc;rw [<-hwc]at hr ⊢;have HY:=Qa hr;have HD2:=Qa hdo;have Vm:=Qa Wd;clear hcut hdo Wd hr hwc hp b1 Q0;have hp:=HY.out.par.c0;have b0:=HY.out.n0;have b1:=HY.out.n1;have b2:=HY.out.n2;have b3:=HY.out.n3;have b4:=HY.out.n4;go_wp2_with fail;go_still_tail 5,(by kernel_rfl);change wpList _ _ _ _ _ W2.drew;have HZ:=Qa (HY.out.below (Zk W2));go_wp2_with fail;refine (Ob _ _ _ _ _ _ HZ.out.any HZ.out.now (Vm.out _ _ (Ym.out _ _ G8.out)) (by simp)).mono ?_;rintro en wz ⟨uz,Rz,hdo,hc,Wd⟩;obtain rfl:=hc.en;have Eb:=Qa (HZ.out.came hc);have Gp:=Qa hdo;have U6:=Qa Wd;clear hdo hc Wd;go_wp2_with fail;go_ret;have hw0:=HW0.out;have hR0:=Jg.out;subst hw0 hR0;exact ⟨uz,_,Does.ex (G:=λk s1 m=>Out.go (Qac m .block d s1) λb s2=>some (lay (En K [k,hd1 b] 0 ⟨#[]⟩ (a:Int)) s2)) HD1.out (Does.go (G:=λb s2 m=>some (lay (En K [Qt u1,b] 0 ⟨#[]⟩ (a:Int)) s2)) HD2.out Gp.out),Eb.out,λn m h=>U6.out n m (Vm.out _ _ (Ym.out _ _ h))⟩
end
end Go.Proofs.YtdncpkkhkbijfaaGreatDoor
