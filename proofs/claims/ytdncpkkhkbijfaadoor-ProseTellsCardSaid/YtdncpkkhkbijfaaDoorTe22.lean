import Derived.Test.YtdncpkkhkbijfaaDoorTe21
open Go.Proofs.Tryd
set_option linter.all false
set_option maxHeartbeats 0
set_option maxRecDepth 100000
namespace Go.Proofs.YtdncpkkhkbijfaaDoor
section
open Go.RowKit
def Zk (kb:Nat):List Nd:=[⟨4,none,0,[],0,⟨#[97]⟩,0⟩,⟨1,none,0,[],1,⟨#[]⟩,0⟩,⟨5,some ⟨kb,0,none⟩,2,[0,1],9,⟨#[]⟩,0⟩,⟨4,none,0,[],0,⟨#[98]⟩,0⟩,⟨6,some ⟨kb+1,0,none⟩,1,[3],0,⟨#[]⟩,0⟩,⟨5,some ⟨kb+1+1,0,none⟩,2,[2,4],13,⟨#[]⟩,0⟩]
theorem Qm5 (kb:Nat):Ahead (Zk kb):=by
 intro i hi k hk
 match i,hi with
 | 0,_=>exact absurd hk (by show k ∉ [];simp)
 | 1,_=>exact absurd hk (by show k ∉ [];simp)
 | 2,_=>
  have hk':k∈[(0:Int),1]:=hk;simp at hk';omega
 | 3,_=>exact absurd hk (by show k ∉ [];simp)
 | 4,_=>
  have hk':k∈[(3:Int)]:=hk;simp at hk';omega
 | 5,_=>
  have hk':k∈[(2:Int),4]:=hk;simp at hk';omega
theorem Qki (kb:Nat):Y5 (Zk kb):=by
 have e:Zt (Zk kb) (Zk kb).length=[0,1,3,2,4]:=rfl;refine ⟨by show 0<6;omega,Qm5 kb,?_,?_⟩
 ·rw [e];decide
 ·rw [e];rfl
theorem Qpg (kb:Nat):Fits (Zk kb):=by
 intro i hi
 match i,hi with
 | 0,_=>show Xc (Zk kb) (nd (Zk kb) 0)=true;kernel_rfl
 | 1,_=>show Xc (Zk kb) (nd (Zk kb) 1)=true;kernel_rfl
 | 2,_=>show Xc (Zk kb) (nd (Zk kb) 2)=true;kernel_rfl
 | 3,_=>show Xc (Zk kb) (nd (Zk kb) 3)=true;kernel_rfl
 | 4,_=>show Xc (Zk kb) (nd (Zk kb) 4)=true;kernel_rfl
 | 5,_=>show Xc (Zk kb) (nd (Zk kb) 5)=true;kernel_rfl
theorem Qiz (kb:Nat):hgt (Zk kb) 5=3:=by kernel_rfl
theorem Qq3 (kb:Nat):Rt (Zk kb):=⟨Qki kb,Qpg kb,by show hgt (Zk kb) 5<=200;rw [Qiz kb];omega⟩
theorem Qc6 (kb:Nat): ∀j,j<(Zk kb).length->(nd (Zk kb) j).n<=9223372036854775807:=by
 intro j hj
 match j,hj with
 | 0,_=>show (0:Int)<=_;omega
 | 1,_=>show (1:Int)<=_;omega
 | 2,_=>show (9:Int)<=_;omega
 | 3,_=>show (0:Int)<=_;omega
 | 4,_=>show (0:Int)<=_;omega
 | 5,_=>show (13:Int)<=_;omega
theorem Qkw:Lib.itoa ((1:Nat):Int)=[49]:=by unfold Lib.itoa;rw [Q6 (by omega)];exact Lib.decDigits_one (by decide)
theorem Ql2 (kb:Nat) {x:Ex} (h:XE (Zk kb) ((5:Nat):Int) x):x.txt=[40,97,32,43,32,49,41,32,42,32,45,98]:=by
 have h1:Zv (Zk kb) 5= .ex (.bin 13 (.bin 9 (.var [97]) (.num 1)) (.neg (.var [98]))):=by kernel_rfl
 have h2:Zv (Zk kb) 5= .ex x:=h.r;rw [h1]at h2;injection h2 with h2
 rw [<-h2];simp only [Ex.txt,Qkw];rfl
def Hl (B:Nat):Array Value:= #[.int .i64 4,.slice none 0 0,.int .i64 0,.string ⟨#[97]⟩,.int .i64 0,.int .i64 1,.slice none 0 0,.int .i64 1,.string ⟨#[]⟩,.int .i64 0,.int .i64 5,.slice (some ⟨B,0,none⟩) 2 2,.int .i64 9,.string ⟨#[]⟩,.int .i64 0,.int .i64 4,.slice none 0 0,.int .i64 0,.string ⟨#[98]⟩,.int .i64 0,.int .i64 6,.slice (some ⟨B+1,0,none⟩) 1 1,.int .i64 0,.string ⟨#[]⟩,.int .i64 0,.int .i64 5,.slice (some ⟨B+1+1,0,none⟩) 2 2,.int .i64 13,.string ⟨#[]⟩,.int .i64 0]
theorem Oo (w:World) (hP:Jf w):
  Calls prog 5 #[] w λe w'=>e= .returned (.bool true)/\Below w.heap.size w w':=by
 have HP:=Qa hP;clear hP;go_enter func5,ntmps5;rw [Vk 2];go_wp2_with fail;obtain ⟨B,hB⟩:=Qb w.heap.size;rw [<-hB];obtain ⟨w1,hw1⟩:=Qb ((((w.alloc (.cells #[.int .i64 0,.int .i64 1] 3)).alloc (.cells #[.int .i64 3] 3)).alloc (.cells #[.int .i64 2,.int .i64 4] 3)).alloc (.cells (Hl B) 25));have HH0:Hid (Held w1 B 3 #[.int .i64 0,.int .i64 1]):=by rw [hw1,hB];exact (((Held.new w _ _).alloc _).alloc _).alloc _
 have Qs:Hid (Held w1 (B+1) 3 #[.int .i64 3]):=by
  have h:=((Held.new (w.alloc (.cells #[.int .i64 0,.int .i64 1] 3)) 3 #[.int .i64 3]).alloc (.cells #[.int .i64 2,.int .i64 4] 3)).alloc (.cells (Hl B) 25);have e:(w.alloc (.cells #[.int .i64 0,.int .i64 1] 3)).heap.size=B+1:=by rw [hB];simp
  rw [e]at h;rw [hw1];exact h
 have Qh:Hid (Held w1 (B+1+1) 3 #[.int .i64 2,.int .i64 4]):=by
  have h:=(Held.new ((w.alloc (.cells #[.int .i64 0,.int .i64 1] 3)).alloc (.cells #[.int .i64 3] 3)) 3 #[.int .i64 2,.int .i64 4]).alloc (.cells (Hl B) 25);have e:((w.alloc (.cells #[.int .i64 0,.int .i64 1] 3)).alloc (.cells #[.int .i64 3] 3)).heap.size=B+1+1:=by rw [hB];simp
  rw [e]at h;rw [hw1];exact h
 have Qr:Hid (Held w1 (B+1+1+1) 25 (Hl B)):=by
  have h:=Held.new (((w.alloc (.cells #[.int .i64 0,.int .i64 1] 3)).alloc (.cells #[.int .i64 3] 3)).alloc (.cells #[.int .i64 2,.int .i64 4] 3)) 25 (Hl B);have e:(((w.alloc (.cells #[.int .i64 0,.int .i64 1] 3)).alloc (.cells #[.int .i64 3] 3)).alloc (.cells #[.int .i64 2,.int .i64 4] 3)).heap.size=B+1+1+1:=by rw [hB];simp
  rw [e]at h;rw [hw1];exact h
 have HB1:Hid (Below w.heap.size w w1):=by rw [hw1];exact ((Qn.alloc (by simp) _).alloc (by simp;omega) _).alloc (by simp;omega) _
 rw [show (((w.alloc (.cells #[.int .i64 0,.int .i64 1] 3)).alloc (.cells #[.int .i64 3] 3)).alloc (.cells #[.int .i64 2,.int .i64 4] 3)).alloc (.cells #[.int .i64 4,.slice none 0 0,.int .i64 0,.string ⟨#[97]⟩,.int .i64 0,.int .i64 1,.slice none 0 0,.int .i64 1,.string ⟨#[]⟩,.int .i64 0,.int .i64 5,.slice (some ⟨B,0,none⟩) 2 2,.int .i64 9,.string ⟨#[]⟩,.int .i64 0,.int .i64 4,.slice none 0 0,.int .i64 0,.string ⟨#[98]⟩,.int .i64 0,.int .i64 6,.slice (some ⟨B+1,0,none⟩) 1 1,.int .i64 0,.string ⟨#[]⟩,.int .i64 0,.int .i64 5,.slice (some ⟨B+1+1,0,none⟩) 2 2,.int .i64 13,.string ⟨#[]⟩,.int .i64 0] 25)=w1 from hw1.symm];have HN:Hid (Nodes w1 (some ⟨B+1+1+1,0,none⟩) (Zk B)):=by
  refine ⟨λ_=>⟨B+1+1+1,0,rfl,Qr.out.lt,λj hj=> ?_⟩,λj hj=> ?_⟩
  ·match j,hj with
   | 0,_=>exact ⟨Qr.out.at_ rfl,Qr.out.at_ rfl,Qr.out.at_ rfl,Qr.out.at_ rfl,Qr.out.at_ rfl⟩
   | 1,_=>exact ⟨Qr.out.at_ rfl,Qr.out.at_ rfl,Qr.out.at_ rfl,Qr.out.at_ rfl,Qr.out.at_ rfl⟩
   | 2,_=>exact ⟨Qr.out.at_ rfl,Qr.out.at_ rfl,Qr.out.at_ rfl,Qr.out.at_ rfl,Qr.out.at_ rfl⟩
   | 3,_=>exact ⟨Qr.out.at_ rfl,Qr.out.at_ rfl,Qr.out.at_ rfl,Qr.out.at_ rfl,Qr.out.at_ rfl⟩
   | 4,_=>exact ⟨Qr.out.at_ rfl,Qr.out.at_ rfl,Qr.out.at_ rfl,Qr.out.at_ rfl,Qr.out.at_ rfl⟩
   | 5,_=>exact ⟨Qr.out.at_ rfl,Qr.out.at_ rfl,Qr.out.at_ rfl,Qr.out.at_ rfl,Qr.out.at_ rfl⟩
  ·match j,hj with
   | 0,_=>exact ⟨λh=>absurd h (by show¬0<0;omega),by show 0<=0;omega,λ_=>rfl,by show 0<=_;omega,by show _<=(0:Int);omega,by show (0:Int)<=_;omega,by show 1<=_;omega⟩
   | 1,_=>exact ⟨λh=>absurd h (by show¬0<0;omega),by show 0<=0;omega,λ_=>rfl,by show 0<=_;omega,by show _<=(1:Int);omega,by show (1:Int)<=_;omega,by show 0<=_;omega⟩
   | 2,_=>
    refine ⟨λ_=>⟨B,0,rfl,HH0.out.lt,λk hk=> ?_⟩,by show 2<=2;omega,(λh=>by cases h),by show 2<=_;omega,by show _<=(9:Int);omega,by show (9:Int)<=_;omega,by show 0<=_;omega⟩
    match k,hk with
    | 0,_=>exact HH0.out.at_ rfl
    | 1,_=>exact HH0.out.at_ rfl
   | 3,_=>exact ⟨λh=>absurd h (by show¬0<0;omega),by show 0<=0;omega,λ_=>rfl,by show 0<=_;omega,by show _<=(0:Int);omega,by show (0:Int)<=_;omega,by show 1<=_;omega⟩
   | 4,_=>
    refine ⟨λ_=>⟨B+1,0,rfl,Qs.out.lt,λk hk=> ?_⟩,by show 1<=1;omega,(λh=>by cases h),by show 1<=_;omega,by show _<=(0:Int);omega,by show (0:Int)<=_;omega,by show 0<=_;omega⟩
    match k,hk with
    | 0,_=>exact Qs.out.at_ rfl
   | 5,_=>
    refine ⟨λ_=>⟨B+1+1,0,rfl,Qh.out.lt,λk hk=> ?_⟩,by show 2<=2;omega,(λh=>by cases h),by show 2<=_;omega,by show _<=(13:Int);omega,by show (13:Int)<=_;omega,by show 0<=_;omega⟩
    match k,hk with
    | 0,_=>exact Qh.out.at_ rfl
    | 1,_=>exact Qh.out.at_ rfl
 have Od:=Qa (HP.out.below HB1.out);obtain ⟨C,hC⟩:=Qb (B+1+1+1);obtain ⟨D,hD⟩:=Qb (B+1+1);rw [<-hC]at HN Qr ⊢;have HDD:=Qa hD;clear hw1 hB hC HH0 Qs Qh;rw [<-hD];clear hD;have Wu:=Qa (Qet (some ⟨C,0,none⟩) 6 6 (Zk B) w1 rfl (by decide) (by decide) HN.out Od.out (Qc6 B));refine Vp ?_;go_wp2_with fail;refine Wu.out.mono ?_;rintro e w2 ⟨hb2,hcase⟩;obtain ⟨X,hX⟩:=Qb (⟨#[40,97,32,43,32,49,41,32,42,32,45,98]⟩:ByteArray);have hX3:(X.toList==[40,97,32,43,32,49,41,32,42,32,45,98])=true:=by rw [hX,ByteArray.toList_eq];rfl
 have he:e= .returned (.tuple #[.string X,.bool true]):=by
  rcases hcase with ⟨_,_,x,hX',h⟩ |⟨h,_⟩
  ·rw [h,Ql2 B hX',hX]
  ·exact absurd ⟨Qq3 B,by kernel_rfl⟩ h
 subst he;have N8:=Qa (HN.out.below hb2);have Jb:=Qa (Od.out.below hb2);have HB2:Hid (Below w.heap.size w w2):=HB1.out.trans (hb2.mono HB1.out.size);have Qe:=Qa (Qda (some ⟨C,0,none⟩) 6 6 (Zk B) w2 rfl (by decide) (by decide) N8.out Jb.out (Qc6 B));clear hcase hb2 hX;go_wp2_with fail;refine Qe.out.mono ?_;rintro e w3 ⟨hb3,hcase⟩;have he:e= .returned (.tuple #[.string ⟨#[]⟩,.bool false]):=by
  rcases hcase with ⟨h,_⟩ |⟨_,h⟩
  ·exact absurd h.2 (by show¬(5:Int)=26;omega)
  ·exact h
 subst he;have HN3:=Qa (N8.out.below hb3);have O7:=Qa (Jb.out.below hb3);have HB3:Hid (Below w.heap.size w w3):=HB2.out.trans (hb3.mono HB2.out.size);have Zf:=Qa (Vq 5 13 (some ⟨D,0,none⟩) 2 2 ⟨#[]⟩ 0 w3 O7.out);obtain ⟨nb,no,hx,hlt,d0,d1,d2,d3,d4⟩:=HN3.out.at_ (j:=5) (show 5<6 by omega);injection hx with hx
 injection hx with h1 h2
 subst h1 h2;have c0:w3.cell? ⟨C,25,none⟩=some (.int .i64 5):=d0;have c1:w3.cell? ⟨C,26,none⟩=some (.slice (some ⟨D,0,none⟩) 2 2):=by rw [HDD.out];exact d1
 have c2:w3.cell? ⟨C,27,none⟩=some (.int .i64 13):=d2;have c3:w3.cell? ⟨C,28,none⟩=some (.string ⟨#[]⟩):=d3;have c4:w3.cell? ⟨C,29,none⟩=some (.int .i64 0):=d4;clear hcase hb3 d0 d1 d2 d3 d4 hlt;go_wp2_with fail;refine Zf.out.mono ?_;rintro e w4 ⟨rfl,hb4⟩;have Vd:Hid (Below w.heap.size w w4):=HB3.out.trans (hb4.mono HB3.out.size);have hs5:Yf 5 13=5:=rfl;rw [hs5];clear hb4 c0 c1 c2 c3 c4;go_wp2_with fail;go_ret;exact ⟨rfl,Vd.out⟩
def Qcu (l:List Nd):Prop:=l.length<=80/\(Zt l l.length).length<=200/\ ∀i,i<l.length->(nd l i).s.size<=40
def K9 (l:List Nd) (w:World) (e:Ending) (w':World):Prop:= ∃b:Bool,e= .returned (.bool b)/\(b=true->Qcu l)/\w'=w
theorem K9.no {l:List Nd} {w:World} {e:Ending} (he:e= .returned (.bool false)):K9 l w e w:=⟨false,he,(λh=>by cases h),rfl⟩
theorem K9.yes {l:List Nd} {w:World} {e:Ending} (he:e= .returned (.bool true)) (h:Qcu l):K9 l w e w:=⟨true,he,(λ_=>h),rfl⟩
theorem Qqh (a:Option Addr) (c n:Nat) (l:List Nd) (w:World) (hn:n=l.length) (hN:Nodes w a l) (hb:80<n) (hm:n<=9223372036854775807):
  Calls prog 4 #[.slice a n c] w (K9 l w):=by
 have Q0:=Qa hn;have HN:=Qa hN;clear hn hN;go_enter func4,ntmps4;go_wp2_with fail;go_loop [3,4] (λt3 t4=> ∃(i:Nat) (z:Int),i<=n/\t4= .int .i64 (i:Int)/\t3= .int .i64 z) (λ_ t4=>n-(intOf t4).toNat)
 case atStart=>exact ⟨0,0,by omega,rfl,rfl⟩
 case round=>
  obtain ⟨i,z,hi,rfl,rfl⟩:=hrel;by_cases hin:i<n
  ·have Ud:(i:Int)<(n:Int):=(by omega);have Wx:Hid (i<l.length):=(by show i<l.length;rw [<-Q0.out];exact hin);obtain ⟨lb,lo,rfl,hlb,h5⟩:=HN.out.at_ Wx.out;have hs:=(HN.out.2 i Wx.out).s;have hk:=(HN.out.2 i Wx.out).len;have c1:=h5.2.1;have c3:=h5.2.2.2.1;obtain ⟨x,hx⟩:=Qb (nd l i);rw [<-hx]at hs hk c1 c3;obtain ⟨m,hm⟩:=Qb x.kids.length;obtain ⟨S,hS⟩:=Qb x.s;rw [<-hm]at hk c1;rw [<-hS]at hs c3;clear hx hm hS h5;by_cases h40:S.size<=40
   ·have P6:decide ((40:Int)<(S.size:Int))=false:=(by simp;omega);go_wp2_with fail;go_round
    case rel=>exact ⟨i+1,_,by omega,by go_num,rfl⟩
    case measure=>simp [intOf];omega
   ·have P6:decide ((40:Int)<(S.size:Int))=true:=(by simp;omega);go_wp2_with fail;go_ret;exact K9.no rfl
  ·have h60:decide ((n:Int)<=80)=false:=(by simp;omega);go_wp2_with fail;go_ret;exact K9.no rfl
theorem Qn7 (a:Option Addr) (c n:Nat) (l:List Nd) (w:World) (hn:n=l.length) (hN:Nodes w a l) (hb:n<=80):
  Calls prog 4 #[.slice a n c] w (K9 l w):=by
 have Q0:=Qa hn;have HN:=Qa hN;clear hn hN;go_enter func4,ntmps4;go_wp2_with fail;go_loop [3,4] (λt3 t4=> ∃(i q:Nat),i<=n/\t4= .int .i64 (i:Int)/\t3= .int .i64 (q:Int)/\q<=i*140737488351232/\Hid (q=(Zt l i).length)/\Hid (∀j,j<i->(nd l j).s.size<=40)) (λ_ t4=>n-(intOf t4).toNat)
 case atStart=>exact ⟨0,0,by omega,rfl,rfl,by omega,(by show _=_;simp [Zt]),λj hj=>by omega⟩
 case round=>
  obtain ⟨i,q,hi,rfl,rfl,hq,HQ,HF⟩:=hrel;by_cases hin:i<n
  ·have Ud:(i:Int)<(n:Int):=(by omega);have Wx:Hid (i<l.length):=(by show i<l.length;rw [<-Q0.out];exact hin);obtain ⟨lb,lo,rfl,hlb,h5⟩:=HN.out.at_ Wx.out;have hs:=(HN.out.2 i Wx.out).s;have hk:=(HN.out.2 i Wx.out).len;have c1:=h5.2.1;have c3:=h5.2.2.2.1;have W9:=Qa (He Wx.out);have Pw:Hid ((Zt l (i+1)).length=(Zt l i).length+(nd l i).kids.length):=(by show _=_;rw [W9.out,Qd]);obtain ⟨x,hx⟩:=Qb (nd l i);have HX:=Qa hx;rw [<-hx]at hs hk c1 c3 Pw;obtain ⟨m,hm⟩:=Qb x.kids.length;obtain ⟨S,hS⟩:=Qb x.s;rw [<-hm]at hk c1 Pw;rw [<-hS]at hs c3;have HS:Hid (S=(nd l i).s):=(by show _=_;rw [hS,hx]);clear hx hm hS h5 W9;by_cases h40:S.size<=40
   ·have P6:decide ((40:Int)<(S.size:Int))=false:=(by simp;omega);go_wp2_with fail;go_round
    case rel=>
     refine ⟨i+1,q+m,by omega,by go_num,by go_num,by omega,(by show _=_;rw [Pw.out,HQ.out]),λj hj=> ?_⟩;rcases Xa j i with g |g
     ·exact HF.out j g
     ·rw [show j=i by omega,<-HS.out];exact h40
    case measure=>simp [intOf];omega
   ·have P6:decide ((40:Int)<(S.size:Int))=true:=(by simp;omega);go_wp2_with fail;go_ret;exact K9.no rfl
  ·obtain rfl:i=n:=(by omega);have h60:decide ((i:Int)<=80)=true:=(by simp;omega);by_cases Fj:q<=200
   ·have Qmq:decide ((q:Int)<=200)=true:=(by simp;omega);go_wp2_with fail;go_ret;exact K9.yes (by first |rfl |simp [Fj]) ⟨by rw [<-Q0.out];exact hb,by rw [<-Q0.out,<-HQ.out];exact Fj,λj hj=>HF.out j (by rw [Q0.out];exact hj)⟩
   ·have Qmq:decide ((q:Int)<=200)=false:=(by simp;omega);go_wp2_with fail;go_ret;exact K9.no (by first |rfl |simp [Fj])
theorem Qhz (a:Option Addr) (c n:Nat) (l:List Nd) (w:World) (hn:n=l.length) (hN:Nodes w a l) (hm:n<=9223372036854775807):
  Calls prog 4 #[.slice a n c] w (K9 l w):=by
 rcases Xa 80 n with h |h
 ·exact Qqh a c n l w hn hN h hm
 ·exact Qn7 a c n l w hn hN h
end
end Go.Proofs.YtdncpkkhkbijfaaDoor
