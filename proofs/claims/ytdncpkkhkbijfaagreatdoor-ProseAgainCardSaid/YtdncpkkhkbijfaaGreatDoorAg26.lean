import Derived.Test.YtdncpkkhkbijfaaGreatDoorAg6
import Derived.Test.YtdncpkkhkbijfaaGreatDoorAg25
open Go.Proofs.Tryz
set_option linter.all false
set_option maxHeartbeats 0
set_option maxRecDepth 100000
namespace Go.Proofs.YtdncpkkhkbijfaaGreatDoor
section
variable {l:List Nd}{i:Nat}{x:Nd}
theorem Ox (l:List Nd) (x:Nd):(kk l x).length=x.kids.length:=by unfold kk;rw [Zr]
theorem Qjn {α:Type} {ks:List α} (h:ks.length=1): ∃a,ks=[a]:=by
 match ks,h with
 | [a],_=>exact ⟨a,rfl⟩
theorem Qu8 {α:Type} {ks:List α} (h:ks.length=2): ∃a b,ks=[a,b]:=by
 match ks,h with
 | [a,b],_=>exact ⟨a,b,rfl⟩
theorem Q1h {α:Type} {ks:List α} (h:ks.length=3): ∃a b c,ks=[a,b,c]:=by
 match ks,h with
 | [a,b,c],_=>exact ⟨a,b,c,rfl⟩
def Yp (l:List Nd) (k:Int):Int:=(nd l k.toNat).kind
theorem Qcf (l:List Nd) (x:Nd):kk l x=x.kids.map (Yp l):=rfl
theorem Qf8 {K:Int} (hK:K=5\/K=8\/K=14) (h:Y9 K (kk l x)=true): ∃a b,x.kids=[a,b]/\Q6 (Yp l a)=true/\Q6 (Yp l b)=true:=by unfold Y9 at h;rw [Qk hK,Yo,Wt,Ox]at h;obtain ⟨a,b,e⟩:=Qu8 h.1;refine ⟨a,b,e,?_⟩;have h2:=h.2;rw [Qcf,e]at h2;simp [exprs]at h2;exact h2
theorem Gs {K:Int} (hK:K=6\/K=7\/K=9\/K=10\/K=12\/K=13\/K=20\/K=21) (h:Y9 K (kk l x)=true): ∃a,x.kids=[a]/\Q6 (Yp l a)=true:=by unfold Y9 at h;rw [Qd (by omega),Qk hK,Yo,Wt,Ox]at h;obtain ⟨a,e⟩:=Qjn h.1;refine ⟨a,e,?_⟩;have h2:=h.2;rw [Qcf,e]at h2;simp [exprs]at h2;exact h2
theorem Q5m (h:Y9 11 (kk l x)=true):x.kids.length<=8/\ ∀a∈x.kids,Q6 (Yp l a)=true:=by have h:(decide ((kk l x).length<=8)&&exprs (kk l x) (kk l x).length)=true:=h;rw [Yo,Wt,Ox]at h;refine ⟨h.1,λa ha=> ?_⟩;have h2:=h.2;unfold exprs at h2;rw [Yo,<-Ox l x,List.take_length,Ou]at h2;exact h2.2 _ (List.mem_map_of_mem ha)
theorem Q6v (h:Y9 15 (kk l x)=true):(∃a b,x.kids=[a,b]/\Q6 (Yp l a)=true/\Yp l b=23)\/ ∃a b c,x.kids=[a,b,c]/\Q6 (Yp l a)=true/\Yp l b=23/\Yp l c=23:=by
 have h:(exprs (kk l x) 1&&decide (2<=(kk l x).length)&&Jd ((kk l x).drop 1) 23 2)=true:=h;rw [Yo,Yo,Wt,Ox]at h;obtain ⟨⟨h1,h2⟩,h3⟩:=h;have hlen:x.kids.length<=3:=by unfold Jd at h3;rw [Yo,Wt,Vf,Ox]at h3;omega
 rcases V7 x.kids.length 3 with hl |hl
 ·obtain ⟨a,b,e⟩:=Qu8 (show x.kids.length=2 by omega);rw [Qcf,e]at h1 h3;simp [exprs]at h1;simp [Jd]at h3;exact .inl ⟨a,b,e,h1,h3⟩
 ·obtain ⟨a,b,c,e⟩:=Q1h (show x.kids.length=3 by omega);rw [Qcf,e]at h1 h3;simp [exprs]at h1;simp [Jd]at h3;exact .inr ⟨a,b,c,e,h1,h3⟩
theorem Q4m (h:Y9 16 (kk l x)=true): ∃a b,x.kids=[a,b]/\Q6 (Yp l a)=true/\Yp l b=23:=by have h:(exprs (kk l x) 1&&decide ((kk l x).length=2)&&Jd ((kk l x).drop 1) 23 1)=true:=h;rw [Yo,Yo,Wt,Ox]at h;obtain ⟨⟨h1,h2⟩,h3⟩:=h;obtain ⟨a,b,e⟩:=Qu8 h2;rw [Qcf,e]at h1 h3;simp [exprs]at h1;simp [Jd]at h3;exact ⟨a,b,e,h1,h3⟩
theorem Q04 (h:Y9 17 (kk l x)=true): ∃a b c,x.kids=[a,b,c]/\Q6 (Yp l a)=true/\Q6 (Yp l b)=true/\Yp l c=23:=by have h:(exprs (kk l x) 2&&decide ((kk l x).length=3)&&Jd ((kk l x).drop 2) 23 1)=true:=h;rw [Yo,Yo,Wt,Ox]at h;obtain ⟨⟨h1,h2⟩,h3⟩:=h;obtain ⟨a,b,c,e⟩:=Q1h h2;rw [Qcf,e]at h1 h3;simp [exprs]at h1;simp [Jd]at h3;exact ⟨a,b,c,e,h1.1,h1.2,h3⟩
theorem Q0x (h:Y9 22 (kk l x)=true): ∃a,x.kids=[a]/\Yp l a=11:=by have h:(decide ((kk l x).length=1)&&decide ((kk l x).getD 0 0=11))=true:=h;rw [Yo,Wt,Wt,Ox]at h;obtain ⟨a,e⟩:=Qjn h.1;have h2:=h.2;rw [Qcf,e]at h2;exact ⟨a,e,h2⟩
theorem Qyj (h:Y9 23 (kk l x)=true): ∀a∈x.kids,Jv (Yp l a)=true:=by have h:(kk l x).all Jv=true:=h;rw [Ou]at h;exact λa ha=>h _ (List.mem_map_of_mem ha)
theorem Q8a (h:Y9 25 (kk l x)=true): ∃ps b,x.kids=ps++[b]/\ps.length<=8/\(∀a∈ps,Yp l a=24)/\Yp l b=23:=by
 have h:(decide (1<=(kk l x).length)&&Jd ((kk l x).take ((kk l x).length-1)) 24 8&&decide ((kk l x).getD ((kk l x).length-1) 0=23))=true:=h;rw [Yo,Yo,Wt,Wt,Ox]at h;obtain ⟨⟨h1,h2⟩,h3⟩:=h;have hne:x.kids≠[]:=by intro e;rw [e]at h1;simp at h1
 have e:=List.dropLast_concat_getLast hne;have hlen:x.kids.length=x.kids.dropLast.length+1:=by rw [List.length_dropLast];omega
 have hm:kk l x=x.kids.dropLast.map (Yp l)++[Yp l (x.kids.getLast hne)]:=by
  rw [Qcf]
  conv=>lhs;rw [<-e]
  rw [Zp];rfl
 have hl':x.kids.length-1=(x.kids.dropLast.map (Yp l)).length:=by rw [Zr];omega
 rw [hl',hm,List.take_left']at h2
 ·rw [hl',hm]at h3;unfold Jd at h2;rw [Yo,Ou,Wt,Zr]at h2;refine ⟨x.kids.dropLast,x.kids.getLast hne,e.symm,h2.2,λa ha=> ?_,?_⟩
  ·exact eq_of_beq (h2.1 _ (List.mem_map_of_mem ha))
  ·rw [Yc,Ht (Qh _)]at h3;simpa using h3
 ·rfl
theorem Qy2 (h:Y9 26 (kk l x)=true):x.kids.length<=200/\ ∀a∈x.kids,Yp l a=25:=by have h:Jd (kk l x) 25 200=true:=h;unfold Jd at h;rw [Yo,Ou,Wt,Ox]at h;exact ⟨h.2,λa ha=>eq_of_beq (h.1 _ (List.mem_map_of_mem ha))⟩
theorem Ma {K:Int} (hK:K=1\/K=2\/K=3\/K=4\/K=18\/K=19\/K=24) (h:Y9 K (kk l x)=true):x.kids=[]:=by
 have h:(decide ((kk l x).length=0))=true:=by rcases hK with rfl |rfl |rfl |rfl |rfl |rfl |rfl<;>exact h
 rw [Wt,Ox]at h;exact List.length_eq_zero_iff.1 h
end
section
variable {l:List Nd}{i:Nat}{k:Int}
theorem Wn8 {x:Nd} (h:ownB x=true):1<=x.kind/\x.kind<=26:=by unfold ownB at h;simp only [Yo,Wt]at h;exact ⟨h.1.1.1.1,h.1.1.1.2⟩
theorem He {x:Nd} {K:Int} (h:ownB x=true) (hK:x.kind=K) (hn:named K=true):X0 x.t:=by unfold ownB at h;simp only [Yo]at h;have h1:=h.1.2;rw [hK,Qk hn]at h1;exact Wrp h1
theorem Xw {x:Nd} {K:Int} (h:ownB x=true) (hK:x.kind=K) (hn:named K=false):x.t=[]:=by unfold ownB at h;simp only [Yo]at h;have h1:=h.1.2;rw [hK,Qd (by rw [hn];decide)]at h1;exact of_decide_eq_true h1
theorem Oz {x:Nd} {K:Int} (h:ownB x=true) (hK:x.kind=K):Ej K x.n=true:=by unfold ownB at h;simp only [Yo]at h;rw [<-hK];exact h.2
theorem Z0 {x:Nd} {K:Int} (h:ownB x=true) (hK:x.kind=K) (h0: ∀n,Ej K n=decide (n=0)):x.n=0:=by have:=Oz h hK;rw [h0]at this;exact of_decide_eq_true this
theorem XE.of {e:Ex} (h:XE l (k.toNat:Int) e):XE l k e:=⟨h.r,h.fin,h.t,h.z,h.h⟩
theorem XS.of {e:St} (h:XS l (k.toNat:Int) e):XS l k e:=⟨h.r,h.fin,h.t,h.z,h.h⟩
theorem XB.of {e:List St} (h:XB l (k.toNat:Int) e):XB l k e:=⟨h.r,h.fin,h.t,h.z,h.h⟩
theorem XP.of {e:List UInt8×Nat} (h:XP l (k.toNat:Int) e):XP l k e:=⟨h.r,h.fin,h.t,h.z,h.h⟩
theorem XF.of {e:Wm} (h:XF l (k.toNat:Int) e):XF l k e:=⟨h.r,h.fin,h.t,h.z,h.h⟩
structure Qv (l:List Nd) (i:Nat) (K n:Int) (s:List UInt8) (ks:List Int):Prop where
 hA:Ahead l
 hi:i<l.length
 k:(nd l i).kind=K
 n:(nd l i).n=n
 t:(nd l i).t=s
 ks:(nd l i).kids=ks
namespace Qv
variable {K n:Int}{s:List UInt8}{ks:List Int}
theorem Yb (h:Qv l i K n s ks):Yb l i=Qia K n s (ks.map λk=>Go.Proofs.YtdncpkkhkbijfaaGreatDoor.Yb l k.toNat):=by show val Qsc l i=_;rw [Qo8 h.hA h.hi];unfold Qsc;rw [h.k,h.n,h.t,h.ks];rfl
theorem tx (h:Qv l i K n s ks):tx l i=Z8 K n s (ks.map λk=>Go.Proofs.YtdncpkkhkbijfaaGreatDoor.tx l k.toNat):=by rw [Qtm h.hA h.hi,Wcp,h.k,h.n,h.t,h.ks]
theorem sz (h:Qv l i K n s ks):sz l i=1+(ks.map λk=>Go.Proofs.YtdncpkkhkbijfaaGreatDoor.sz l k.toNat).sum:=by rw [Qng h.hA h.hi,h.ks]
theorem hgt (h:Qv l i K n s ks):hgt l i=(ks.map λk=>Go.Proofs.YtdncpkkhkbijfaaGreatDoor.hgt l k.toNat).foldl (λh x=>max h (1+x)) 1:=by rw [Qf4 h.hA h.hi,h.ks]
theorem ex (h:Qv l i K n s ks) {e:Ex} (h1:Qia K n s (ks.map λk=>Go.Proofs.YtdncpkkhkbijfaaGreatDoor.Yb l k.toNat)= .ex e) (h2:e.fin) (h3:e.told=Z8 K n s (ks.map λk=>Go.Proofs.YtdncpkkhkbijfaaGreatDoor.tx l k.toNat)) (h4:e.size=1+(ks.map λk=>Go.Proofs.YtdncpkkhkbijfaaGreatDoor.sz l k.toNat).sum) (h5:e.ht=(ks.map λk=>Go.Proofs.YtdncpkkhkbijfaaGreatDoor.hgt l k.toNat).foldl (λh x=>max h (1+x)) 1):XE l (i:Int) e:=
 ⟨h.Yb.trans h1,h2,h3.trans h.tx.symm,h4.trans h.sz.symm,h5.trans h.hgt.symm⟩
theorem st (h:Qv l i K n s ks) {e:St} (h1:Qia K n s (ks.map λk=>Go.Proofs.YtdncpkkhkbijfaaGreatDoor.Yb l k.toNat)= .st e) (h2:e.fin) (h3:e.told=Z8 K n s (ks.map λk=>Go.Proofs.YtdncpkkhkbijfaaGreatDoor.tx l k.toNat)) (h4:e.part.size=1+(ks.map λk=>Go.Proofs.YtdncpkkhkbijfaaGreatDoor.sz l k.toNat).sum) (h5:e.part.ht=(ks.map λk=>Go.Proofs.YtdncpkkhkbijfaaGreatDoor.hgt l k.toNat).foldl (λh x=>max h (1+x)) 1):XS l (i:Int) e:=
 ⟨h.Yb.trans h1,h2,h3.trans h.tx.symm,h4.trans h.sz.symm,h5.trans h.hgt.symm⟩
end Qv
theorem ht1 (a:Nat):[a].foldl (λh x=>max h (1+x)) 1=a+1:=by show max 1 (1+a)=a+1;omega
theorem ht2 (a b:Nat):[a,b].foldl (λh x=>max h (1+x)) 1=max a b+1:=by show max (max 1 (1+a)) (1+b)=max a b+1;omega
theorem ht3 (a b c:Nat):[a,b,c].foldl (λh x=>max h (1+x)) 1=max a (max b c)+1:=by show max (max (max 1 (1+a)) (1+b)) (1+c)=max a (max b c)+1;omega
theorem Qkw (K n:Int) (s:List UInt8) (a:Part):(node K n s [a]).size=1+[a.size].sum:=by show a.size+0+1=1+(a.size+0);omega
theorem Qpg (K n:Int) (s:List UInt8) (a b:Part):(node K n s [a,b]).size=1+[a.size,b.size].sum:=by show a.size+(b.size+0)+1=1+(a.size+(b.size+0));omega
theorem Qx6 (K n:Int) (s:List UInt8) (a b c:Part):(node K n s [a,b,c]).size=1+[a.size,b.size,c.size].sum:=by show a.size+(b.size+(c.size+0))+1=1+(a.size+(b.size+(c.size+0)));omega
theorem Qkr (K n:Int) (s:List UInt8) (a:Part):(node K n s [a]).ht=[a.ht].foldl (λh x=>max h (1+x)) 1:=by rw [ht1];show max a.ht 0+1=_;omega
theorem Qqf (K n:Int) (s:List UInt8) (a b:Part):(node K n s [a,b]).ht=[a.ht,b.ht].foldl (λh x=>max h (1+x)) 1:=by rw [ht2];show max a.ht (max b.ht 0)+1=_;omega
theorem Q3j (K n:Int) (s:List UInt8) (a b c:Part):(node K n s [a,b,c]).ht=[a.ht,b.ht,c.ht].foldl (λh x=>max h (1+x)) 1:=by rw [ht3];show max a.ht (max b.ht (max c.ht 0))+1=_;omega
theorem Qxw {a:Int} {e:Ex} (h:Qv l i 6 0 [] [a]) (x:XE l a e):XE l (i:Int) (.neg e):=
 h.ex (by rw [Y6,Vi,x.r];rfl) (by rw [Ex.fin];exact x.fin) (by rw [Ex.told,x.t];rfl) (by rw [Ex.size,x.z];show _=1+(sz l a.toNat+0);omega) (by rw [Ex.ht,x.h];exact (ht1 _).symm)
theorem Q10 {a:Int} {e:Ex} (h:Qv l i 7 0 [] [a]) (x:XE l a e):XE l (i:Int) (.not e):=
 h.ex (by rw [Y6,Vi,x.r];rfl) (by rw [Ex.fin];exact x.fin) (by rw [Ex.told,x.t];rfl) (by rw [Ex.size,x.z];show _=1+(sz l a.toNat+0);omega) (by rw [Ex.ht,x.h];exact (ht1 _).symm)
theorem Qyu {a:Int} {e:Ex} (h:Qv l i 9 0 [] [a]) (x:XE l a e):XE l (i:Int) (.len e):=
 h.ex (by rw [Y6,Vi,x.r];rfl) (by rw [Ex.fin];exact x.fin) (by rw [Ex.told,x.t];rfl) (by rw [Ex.size,x.z];show _=1+(sz l a.toNat+0);omega) (by rw [Ex.ht,x.h];exact (ht1 _).symm)
theorem Q34 {a:Int} {e:Ex} (h:Qv l i 10 0 [] [a]) (x:XE l a e):XE l (i:Int) (.new e):=
 h.ex (by rw [Y6,Vi,x.r];rfl) (by rw [Ex.fin];exact x.fin) (by rw [Ex.told,x.t];rfl) (by rw [Ex.size,x.z];show _=1+(sz l a.toNat+0);omega) (by rw [Ex.ht,x.h];exact (ht1 _).symm)
theorem Qxd {op:Nat} {a b:Int} {e f:Ex} (h:Qv l i 5 (op:Int) [] [a,b]) (h1:1<=op) (h16:op<=16) (x:XE l a e) (y:XE l b f):XE l (i:Int) (.bin op e f):=
 h.ex (by rw [Y6,Y6,Vi,x.r,y.r];rfl) (by rw [Ex.fin];exact ⟨h1,h16,x.fin,y.fin⟩) (by rw [Ex.told,x.t,y.t];rfl) (by rw [Ex.size,x.z,y.z];show _=1+(sz l a.toNat+(sz l b.toNat+0));omega) (by rw [Ex.ht,x.h,y.h];exact (ht2 _ _).symm)
theorem Qw3 {a b:Int} {e f:Ex} (h:Qv l i 8 0 [] [a,b]) (x:XE l a e) (y:XE l b f):XE l (i:Int) (.index e f):=
 h.ex (by rw [Y6,Y6,Vi,x.r,y.r];rfl) (by rw [Ex.fin];exact ⟨x.fin,y.fin⟩) (by rw [Ex.told,x.t,y.t];rfl) (by rw [Ex.size,x.z,y.z];show _=1+(sz l a.toNat+(sz l b.toNat+0));omega) (by rw [Ex.ht,x.h,y.h];exact (ht2 _ _).symm)
theorem Qzj {n:Nat} (h:Qv l i 1 (n:Int) [] []) (hn:n<=9223372036854775807):XE l (i:Int) (.num n):=h.ex rfl (by rw [Ex.fin];exact hn) (by rw [Ex.told];rfl) rfl rfl
theorem Q0p {b:Bool} (h:Qv l i 2 (if b then 1 else 0) [] []):XE l (i:Int) (.bool b):=h.ex (by cases b<;>rfl) (by rw [Ex.fin];trivial) (by rw [Ex.told];rfl) rfl rfl
theorem Qwf (h:Qv l i 3 0 [] []):XE l (i:Int) .nil:=h.ex rfl (by rw [Ex.fin];trivial) (by rw [Ex.told];rfl) rfl rfl
theorem Q2w {s:List UInt8} (h:Qv l i 4 0 s []) (hs:X0 s):XE l (i:Int) (.var s):=h.ex rfl (by rw [Ex.fin];exact hs) (by rw [Ex.told];rfl) rfl rfl
theorem Q1i {s:List UInt8} {ks:List Int} {xs:List Ex} (h:Qv l i 11 0 s ks) (hs:X0 s) (h8:ks.length<=8) (x:Gc (XE l) ks xs):XE l (i:Int) (.call s xs):=by
 have hr:ks.map (λk=>Yb l k.toNat)=xs.map Yf.ex:=Gx x λk a ha=>ha.r;refine h.ex ?_ ?_ ?_ ?_ ?_
 ·rw [hr];show Yf.ex (.call s ((xs.map Yf.ex).map Yf.e))=_;rw [Ea];congr 2;exact List.map_id' xs
 ·rw [Ex.fin,Q24];exact ⟨hs,by rw [<-Qc6 x];exact h8,λa ha=>by obtain ⟨k,hk⟩:=Qig x a ha;exact hk.fin⟩
 ·rw [Ex.told,Qzo,Gx x λk a ha=>ha.t.symm]
 ·rw [Ex.size,Qv9,Gx x λk a ha=>ha.z.symm,Nat.add_comm]
 ·rw [Ex.ht,We4,Gx x λk a ha=>ha.h.symm]
theorem Qxh {s:List UInt8} {a:Int} {e:Ex} (h:Qv l i 12 0 s [a]) (hs:X0 s) (x:XE l a e):XS l (i:Int) (.let_ s e):=
 h.st (by rw [Y6,Vi,x.r];rfl) (by rw [St.fin];exact ⟨hs,x.fin⟩) (by rw [St.told,x.t];rfl) (by rw [St.part,Qkw];show _=1+[sz l a.toNat].sum;rw [<-x.z];rfl) (by rw [St.part,Qkr];show _=[hgt l a.toNat].foldl _ 1;rw [<-x.h];rfl)
theorem Q3u {s:List UInt8} {a:Int} {e:Ex} (h:Qv l i 13 0 s [a]) (hs:X0 s) (x:XE l a e):XS l (i:Int) (.set s e):=
 h.st (by rw [Y6,Vi,x.r];rfl) (by rw [St.fin];exact ⟨hs,x.fin⟩) (by rw [St.told,x.t];rfl) (by rw [St.part,Qkw];show _=1+[sz l a.toNat].sum;rw [<-x.z];rfl) (by rw [St.part,Qkr];show _=[hgt l a.toNat].foldl _ 1;rw [<-x.h];rfl)
theorem Qzg {a:Int} {e:Ex} (h:Qv l i 20 0 [] [a]) (x:XE l a e):XS l (i:Int) (.ret e):=
 h.st (by rw [Y6,Vi,x.r];rfl) (by rw [St.fin];exact x.fin) (by rw [St.told,x.t];rfl) (by rw [St.part,Qkw];show _=1+[sz l a.toNat].sum;rw [<-x.z];rfl) (by rw [St.part,Qkr];show _=[hgt l a.toNat].foldl _ 1;rw [<-x.h];rfl)
theorem Q2e {a:Int} {e:Ex} (h:Qv l i 21 0 [] [a]) (x:XE l a e):XS l (i:Int) (.print e):=
 h.st (by rw [Y6,Vi,x.r];rfl) (by rw [St.fin];exact x.fin) (by rw [St.told,x.t];rfl) (by rw [St.part,Qkw];show _=1+[sz l a.toNat].sum;rw [<-x.z];rfl) (by rw [St.part,Qkr];show _=[hgt l a.toNat].foldl _ 1;rw [<-x.h];rfl)
theorem Q67 {s:List UInt8} {xs:List Ex} {a:Int} (h:Qv l i 22 0 [] [a]) (x:XE l a (.call s xs)):XS l (i:Int) (.do_ s xs):=
 h.st (by rw [Y6,Vi,x.r];rfl) (by rw [St.fin];exact x.fin) (by rw [St.told,x.t];rfl) (by rw [St.part,Qkw];show _=1+[sz l a.toNat].sum;rw [<-x.z];rfl) (by rw [St.part,Qkr];show _=[hgt l a.toNat].foldl _ 1;rw [<-x.h];rfl)
theorem Qyb (h:Qv l i 18 0 [] []):XS l (i:Int) .brk:=h.st rfl (by rw [St.fin];trivial) (by rw [St.told];rfl) (by rw [St.part];rfl) (by rw [St.part];rfl)
theorem Q4z (h:Qv l i 19 0 [] []):XS l (i:Int) .cont:=h.st rfl (by rw [St.fin];trivial) (by rw [St.told];rfl) (by rw [St.part];rfl) (by rw [St.part];rfl)
theorem Q3e {s:List UInt8} {a b:Int} {e f:Ex} (h:Qv l i 14 0 s [a,b]) (hs:X0 s) (x:XE l a e) (y:XE l b f):XS l (i:Int) (.put s e f):=
 h.st (by rw [Y6,Y6,Vi,x.r,y.r];rfl) (by rw [St.fin];exact ⟨hs,x.fin,y.fin⟩) (by rw [St.told,x.t,y.t];rfl) (by rw [St.part,Qpg];show _=1+[sz l a.toNat,sz l b.toNat].sum;rw [<-x.z,<-y.z];rfl) (by rw [St.part,Qqf];show _=[hgt l a.toNat,hgt l b.toNat].foldl _ 1;rw [<-x.h,<-y.h];rfl)
theorem Q1x {a b:Int} {e:Ex} {f:List St} (h:Qv l i 16 0 [] [a,b]) (x:XE l a e) (y:XB l b f):XS l (i:Int) (.Kl e f):=
 h.st (by rw [Y6,Y6,Vi,x.r,y.r];rfl) (by rw [St.fin];exact ⟨x.fin,y.fin⟩) (by rw [St.told,x.t,show Z8 23 0 [] (Lp f)=Qca f from rfl,y.t];rfl) (by rw [St.part,Qpg];show _=1+[sz l a.toNat,sz l b.toNat].sum;rw [<-x.z,<-y.z];rfl) (by rw [St.part,Qqf];show _=[hgt l a.toNat,hgt l b.toNat].foldl _ 1;rw [<-x.h,<-y.h];rfl)
theorem Q5n {a b:Int} {e:Ex} {f:List St} (h:Qv l i 15 0 [] [a,b]) (x:XE l a e) (y:XB l b f):XS l (i:Int) (.if_ e f):=
 h.st (by rw [Y6,Y6,Vi,x.r,y.r];rfl) (by rw [St.fin];exact ⟨x.fin,y.fin⟩) (by rw [St.told,x.t,show Z8 23 0 [] (Lp f)=Qca f from rfl,y.t];rfl) (by rw [St.part,Qpg];show _=1+[sz l a.toNat,sz l b.toNat].sum;rw [<-x.z,<-y.z];rfl) (by rw [St.part,Qqf];show _=[hgt l a.toNat,hgt l b.toNat].foldl _ 1;rw [<-x.h,<-y.h];rfl)
theorem Qzy {a b c:Int} {e:Ex} {f g:List St} (h:Qv l i 15 0 [] [a,b,c]) (x:XE l a e) (y:XB l b f) (z:XB l c g):XS l (i:Int) (.Cz e f g):=
 h.st (by rw [Y6,Y6,Y6,Vi,x.r,y.r,z.r];rfl) (by rw [St.fin];exact ⟨x.fin,y.fin,z.fin⟩) (by rw [St.told,x.t,show Z8 23 0 [] (Lp f)=Qca f from rfl,show Z8 23 0 [] (Lp g)=Qca g from rfl,y.t,z.t];rfl) (by rw [St.part,Qx6];show _=1+[sz l a.toNat,sz l b.toNat,sz l c.toNat].sum;rw [<-x.z,<-y.z,<-z.z];rfl) (by rw [St.part,Q3j];show _=[hgt l a.toNat,hgt l b.toNat,hgt l c.toNat].foldl _ 1;rw [<-x.h,<-y.h,<-z.h];rfl)
theorem Q5v {s:List UInt8} {a b c:Int} {e f:Ex} {g:List St} (h:Qv l i 17 0 s [a,b,c]) (hs:X0 s) (x:XE l a e) (y:XE l b f) (z:XB l c g):XS l (i:Int) (.for_ s e f g):=
 h.st (by rw [Y6,Y6,Y6,Vi,x.r,y.r,z.r];rfl) (by rw [St.fin];exact ⟨hs,x.fin,y.fin,z.fin⟩) (by rw [St.told,x.t,y.t,show Z8 23 0 [] (Lp g)=Qca g from rfl,z.t];rfl) (by rw [St.part,Qx6];show _=1+[sz l a.toNat,sz l b.toNat,sz l c.toNat].sum;rw [<-x.z,<-y.z,<-z.z];rfl) (by rw [St.part,Q3j];show _=[hgt l a.toNat,hgt l b.toNat,hgt l c.toNat].foldl _ 1;rw [<-x.h,<-y.h,<-z.h];rfl)
theorem Qry (K n:Int) (s:List UInt8) (ps:List Part):(node K n s ps).size=1+(ps.map Part.size).sum:=by show Zg ps+1=_;rw [Qld];omega
theorem Qsu (K n:Int) (s:List UInt8) (ps:List Part):(node K n s ps).ht=(ps.map Part.ht).foldl (λh x=>max h (1+x)) 1:=by show Vb ps+1=_;rw [Wa2]
theorem Q8m {ks:List Int} {b:List St} (h:Qv l i 23 0 [] ks) (x:Gc (XS l) ks b):XB l (i:Int) b:=by
 have hr:ks.map (λk=>Yb l k.toNat)=b.map Yf.st:=Gx x λk a ha=>ha.r;refine ⟨?_,?_,?_,?_,?_⟩
 ·show Yb l i=_;rw [h.Yb,hr];show Yf.blk ((b.map Yf.st).map Yf.s)=_;rw [Ea];congr 1;exact List.map_id' b
 ·rw [Q3v];exact λa ha=>by obtain ⟨k,hk⟩:=Qig x a ha;exact hk.fin
 ·unfold Qca;show _=tx l i;rw [h.tx,Q8j,Gx x λk a ha=>ha.t.symm]
 ·show _=sz l i;unfold X6;rw [h.sz,Qry,Qhk,Ea,Gx x λk a ha=>ha.z.symm];rfl
 ·show _=hgt l i;unfold X6;rw [h.hgt,Qsu,Qhk,Ea,Gx x λk a ha=>ha.h.symm];rfl
theorem Q6d {s:List UInt8} {n:Nat} (h:Qv l i 24 (n:Int) s []) (hs:X0 s) (h1:1<=n) (h3:n<=3):XP l (i:Int) (s,n):=
 ⟨h.Yb,⟨hs,h1,h3⟩,h.tx.symm,h.sz.symm,h.hgt.symm⟩
theorem Q1o {s:List UInt8} {n:Nat} {ks:List Int} {b:Int} {ps:List (List UInt8×Nat)} {c:List St} (h:Qv l i 25 (n:Int) s (ks++[b])) (hs:X0 s) (h1:1<=n) (h3:n<=3) (h8:ks.length<=8) (x:Gc (XP l) ks ps) (y:XB l b c):XF l (i:Int) ⟨s,ps,n,c⟩:=by
 have hr:(ks++[b]).map (λk=>Yb l k.toNat)=ps.map Yf.par++[.blk c]:=by rw [Zp,Gx x λk a ha=>ha.r,Y6,Vi,y.r]
 refine ⟨?_,⟨hs,λp hp=>by obtain ⟨k,hk⟩:=Qig x p hp;exact hk.fin,by rw [<-Qc6 x];exact h8,h1,h3,y.fin⟩,?_,?_,?_⟩
 ·show Yb l i=_;rw [h.Yb,hr];show Yf.fn ⟨s,(ps.map Yf.par++[Yf.blk c]).dropLast.map Yf.p,n,(Vr (ps.map Yf.par++[Yf.blk c]) ((ps.map Yf.par++[Yf.blk c]).length-1)).b⟩=_;rw [List.dropLast_concat,Ea];have e1:ps.map (Yf.p∘Yf.par)=ps:=List.map_id' ps;have e2:Vr (ps.map Yf.par++[Yf.blk c]) ((ps.map Yf.par++[Yf.blk c]).length-1)= .blk c:=by unfold Vr;rw [Yc,Ht (by rw [Qf];simp)];simp
  rw [e1,e2];rfl
 ·unfold Wm.told;show _=tx l i;rw [h.tx,Zp,Gx x λk a ha=>ha.t.symm,Y6,Vi,y.t]
 ·show _=sz l i;unfold Wm.part Wm.parts;rw [h.sz,Qry,Zp,Zp,Ea,Gx x λk a ha=>ha.z.symm,Y6,Vi,Y6,Vi,y.z];rfl
 ·show _=hgt l i;unfold Wm.part Wm.parts;rw [h.hgt,Qsu,Zp,Zp,Ea,Gx x λk a ha=>ha.h.symm,Y6,Vi,Y6,Vi,y.h];rfl
theorem Qw8 {ks:List Int} {fs:List Wm} (h:Qv l i 26 0 [] ks) (h2:ks.length<=200) (x:Gc (XF l) ks fs):XR l (i:Int) fs:=by
 have hr:ks.map (λk=>Yb l k.toNat)=fs.map Yf.fn:=Gx x λk a ha=>ha.r;refine ⟨?_,⟨λf hf=>by obtain ⟨k,hk⟩:=Qig x f hf;exact hk.fin,by rw [<-Qc6 x];exact h2⟩,?_,?_,?_⟩
 ·show Yb l i=_;rw [h.Yb,hr];show Yf.pr ((fs.map Yf.fn).map Yf.f)=_;rw [Ea];congr 1;exact List.map_id' fs
 ·unfold Qo4;show _=tx l i;rw [h.tx,Gx x λk a ha=>ha.t.symm]
 ·show _=sz l i;unfold Ko;rw [h.sz,Qry,Ea,Gx x λk a ha=>ha.z.symm];rfl
 ·show _=hgt l i;unfold Ko;rw [h.hgt,Qsu,Ea,Gx x λk a ha=>ha.h.symm];rfl
end
section
variable {l:List Nd}{i:Nat}{k:Int}
theorem Nk {K:Int} (h:Q6 K=true):1<=K/\K<=11:=by unfold Q6 at h;simpa using h
theorem Sj {K:Int} (h:Jv K=true):12<=K/\K<=22:=by unfold Jv at h;simpa using h
theorem Il.Sg {e:Ex} (hk:Q6 (nd l i).kind=true) (hx:XE l i e) (h11:(nd l i).kind=11-> ∃s xs,e= .call s xs):Il l i where
 ex:=λ_=>⟨e,hx,h11⟩
 st:=λh=>by have:=Nk hk;have:=Sj h;omega
 blk:=λh=>by have:=Nk hk;omega
 par:=λh=>by have:=Nk hk;omega
 fn:=λh=>by have:=Nk hk;omega
 pr:=λh=>by have:=Nk hk;omega
theorem Il.mkS {e:St} (hk:Jv (nd l i).kind=true) (hx:XS l i e):Il l i where
 ex:=λh=>by have:=Sj hk;have:=Nk h;omega
 st:=λh=>⟨e,hx⟩
 blk:=λh=>by have:=Sj hk;omega
 par:=λh=>by have:=Sj hk;omega
 fn:=λh=>by have:=Sj hk;omega
 pr:=λh=>by have:=Sj hk;omega
theorem Il.mkB {e:List St} (hk:(nd l i).kind=23) (hx:XB l i e):Il l i where
 ex:=λh=>by have:=Nk h;omega
 st:=λh=>by have:=Sj h;omega
 blk:=λh=>⟨e,hx⟩
 par:=λh=>by omega
 fn:=λh=>by omega
 pr:=λh=>by omega
theorem Il.mkP {e:List UInt8×Nat} (hk:(nd l i).kind=24) (hx:XP l i e):Il l i where
 ex:=λh=>by have:=Nk h;omega
 st:=λh=>by have:=Sj h;omega
 blk:=λh=>by omega
 par:=λh=>⟨e,hx⟩
 fn:=λh=>by omega
 pr:=λh=>by omega
theorem Il.mkF {e:Wm} (hk:(nd l i).kind=25) (hx:XF l i e):Il l i where
 ex:=λh=>by have:=Nk h;omega
 st:=λh=>by have:=Sj h;omega
 blk:=λh=>by omega
 par:=λh=>by omega
 fn:=λh=>⟨e,hx⟩
 pr:=λh=>by omega
theorem Il.mkR {e:List Wm} (hk:(nd l i).kind=26) (hx:XR l i e):Il l i where
 ex:=λh=>by have:=Nk h;omega
 st:=λh=>by have:=Sj h;omega
 blk:=λh=>by omega
 par:=λh=>by omega
 fn:=λh=>by omega
 pr:=λh=>⟨e,hx⟩
theorem Q7l {n:Int} (h:Ej 2 n=true): ∃b:Bool,n=if b then 1 else 0:=by
 have h:(decide (n=0)||decide (n=1))=true:=h;rw [Bool.or_eq_true,Wt,Wt]at h;rcases h with h |h
 ·exact ⟨false,h⟩
 ·exact ⟨true,h⟩
theorem Qb4 {n:Int} (h:0<=n): ∃m:Nat,n=(m:Int):=⟨n.toNat,by omega⟩
theorem is9 (hA:Ahead l) (hF:Fits l) (hN: ∀j,j<l.length->(nd l j).n<=9223372036854775807): ∀N i,i<N->i<l.length->Il l i:=by
 intro N
 induction N with
 |zero=>intro i h;omega
 |succ N ih=>
  intro i hiN hi;have hfit:=hF i hi;unfold J7 at hfit;rw [Yo]at hfit;obtain ⟨hown,Yg⟩:=hfit;have Es: ∀k∈(nd l i).kids,Il l k.toNat:=λk hk=>by have:=hA i hi k hk;exact ih k.toNat (by omega) (by omega)
  have kE: ∀k∈(nd l i).kids,Q6 (Yp l k)=true-> ∃e,XE l k e:=λk hk h=>by obtain ⟨e,he,_⟩:=(Es k hk).ex h;exact ⟨e,he.of⟩
  have kS: ∀k∈(nd l i).kids,Jv (Yp l k)=true-> ∃e,XS l k e:=λk hk h=>by obtain ⟨e,he⟩:=(Es k hk).st h;exact ⟨e,he.of⟩
  have kB: ∀k∈(nd l i).kids,Yp l k=23-> ∃e,XB l k e:=λk hk h=>by obtain ⟨e,he⟩:=(Es k hk).blk h;exact ⟨e,he.of⟩
  obtain ⟨hK1,Wr5⟩:=Wn8 hown;have mk: ∀{K n:Int} {s:List UInt8} {ks:List Int},(nd l i).kind=K->(nd l i).n=n->(nd l i).t=s->(nd l i).kids=ks->Qv l i K n s ks:=λa b c d=>⟨hA,hi,a,b,c,d⟩;have hcases:(nd l i).kind=1\/(nd l i).kind=2\/(nd l i).kind=3\/(nd l i).kind=4\/(nd l i).kind=5\/(nd l i).kind=6\/(nd l i).kind=7\/(nd l i).kind=8\/(nd l i).kind=9\/(nd l i).kind=10\/(nd l i).kind=11\/(nd l i).kind=12\/(nd l i).kind=13\/(nd l i).kind=14\/(nd l i).kind=15\/(nd l i).kind=16\/(nd l i).kind=17\/(nd l i).kind=18\/(nd l i).kind=19\/(nd l i).kind=20\/(nd l i).kind=21\/(nd l i).kind=22\/(nd l i).kind=23\/(nd l i).kind=24\/(nd l i).kind=25\/(nd l i).kind=26:=by omega
  rcases hcases with hK |hK |hK |hK |hK |hK |hK |hK |hK |hK |hK |hK |hK |hK |hK |hK |hK |hK |hK |hK |hK |hK |hK |hK |hK |hK
  ·have ek:=Ma (K:=1) (by decide) (by rw [<-hK];exact Yg);have es:=Xw hown hK (K:=1) rfl;have hn:=Oz hown hK;obtain ⟨m,em⟩:=Qb4 (of_decide_eq_true (show decide (0<=(nd l i).n)=true from hn));have hm:=hN i hi;exact .Sg (by rw [hK];rfl) (Qzj (mk hK em es ek) (by omega)) (λh=>by rw [hK]at h;exact absurd h (by decide))
  ·have ek:=Ma (K:=2) (by decide) (by rw [<-hK];exact Yg);have es:=Xw hown hK (K:=2) rfl;obtain ⟨b,eb⟩:=Q7l (Oz hown hK);exact .Sg (by rw [hK];rfl) (Q0p (mk hK eb es ek)) (λh=>by rw [hK]at h;exact absurd h (by decide))
  ·have ek:=Ma (K:=3) (by decide) (by rw [<-hK];exact Yg);have es:=Xw hown hK (K:=3) rfl;have en:=Z0 hown hK (K:=3) (λn=>rfl);exact .Sg (by rw [hK];rfl) (Qwf (mk hK en es ek)) (λh=>by rw [hK]at h;exact absurd h (by decide))
  ·have ek:=Ma (K:=4) (by decide) (by rw [<-hK];exact Yg);have hs:=He hown hK (K:=4) rfl;have en:=Z0 hown hK (K:=4) (λn=>rfl);exact .Sg (by rw [hK];rfl) (Q2w (mk hK en rfl ek) hs) (λh=>by rw [hK]at h;exact absurd h (by decide))
  ·obtain ⟨a,b,ek,ha,hb⟩:=Qf8 (K:=5) (by decide) (by rw [<-hK];exact Yg);obtain ⟨xa,hxa⟩:=kE a (by rw [ek];simp) ha;obtain ⟨xb,hxb⟩:=kE b (by rw [ek];simp) hb;have es:=Xw hown hK (K:=5) rfl;have hn:(decide (1<=(nd l i).n)&&decide ((nd l i).n<=16))=true:=Oz hown hK;rw [Yo,Wt,Wt]at hn;obtain ⟨m,em⟩:=Qb4 (show 0<=(nd l i).n by omega);exact .Sg (by rw [hK];rfl) (Qxd (mk hK em es ek) (by omega) (by omega) hxa hxb) (λh=>by rw [hK]at h;exact absurd h (by decide))
  ·obtain ⟨a,ek,ha⟩:=Gs (K:=6) (by decide) (by rw [<-hK];exact Yg);obtain ⟨xa,hxa⟩:=kE a (by rw [ek];simp) ha;have es:=Xw hown hK (K:=6) rfl;have en:=Z0 hown hK (K:=6) (λn=>rfl);exact .Sg (by rw [hK];rfl) (Qxw (mk hK en es ek) hxa) (λh=>by rw [hK]at h;exact absurd h (by decide))
  ·obtain ⟨a,ek,ha⟩:=Gs (K:=7) (by decide) (by rw [<-hK];exact Yg);obtain ⟨xa,hxa⟩:=kE a (by rw [ek];simp) ha;have es:=Xw hown hK (K:=7) rfl;have en:=Z0 hown hK (K:=7) (λn=>rfl);exact .Sg (by rw [hK];rfl) (Q10 (mk hK en es ek) hxa) (λh=>by rw [hK]at h;exact absurd h (by decide))
  ·obtain ⟨a,b,ek,ha,hb⟩:=Qf8 (K:=8) (by decide) (by rw [<-hK];exact Yg);obtain ⟨xa,hxa⟩:=kE a (by rw [ek];simp) ha;obtain ⟨xb,hxb⟩:=kE b (by rw [ek];simp) hb;have es:=Xw hown hK (K:=8) rfl;have en:=Z0 hown hK (K:=8) (λn=>rfl);exact .Sg (by rw [hK];rfl) (Qw3 (mk hK en es ek) hxa hxb) (λh=>by rw [hK]at h;exact absurd h (by decide))
  ·obtain ⟨a,ek,ha⟩:=Gs (K:=9) (by decide) (by rw [<-hK];exact Yg);obtain ⟨xa,hxa⟩:=kE a (by rw [ek];simp) ha;have es:=Xw hown hK (K:=9) rfl;have en:=Z0 hown hK (K:=9) (λn=>rfl);exact .Sg (by rw [hK];rfl) (Qyu (mk hK en es ek) hxa) (λh=>by rw [hK]at h;exact absurd h (by decide))
  ·obtain ⟨a,ek,ha⟩:=Gs (K:=10) (by decide) (by rw [<-hK];exact Yg);obtain ⟨xa,hxa⟩:=kE a (by rw [ek];simp) ha;have es:=Xw hown hK (K:=10) rfl;have en:=Z0 hown hK (K:=10) (λn=>rfl);exact .Sg (by rw [hK];rfl) (Q34 (mk hK en es ek) hxa) (λh=>by rw [hK]at h;exact absurd h (by decide))
  ·obtain ⟨h8,ha⟩:=Q5m (by rw [<-hK];exact Yg);have hs:=He hown hK (K:=11) rfl;have en:=Z0 hown hK (K:=11) (λn=>rfl);obtain ⟨xs,hxs⟩:=Qab _ λk hk=>kE k hk (ha k hk);exact .Sg (by rw [hK];rfl) (Q1i (mk hK en rfl rfl) hs h8 hxs) (λ_=>⟨_,_,rfl⟩)
  ·obtain ⟨a,ek,ha⟩:=Gs (K:=12) (by decide) (by rw [<-hK];exact Yg);obtain ⟨xa,hxa⟩:=kE a (by rw [ek];simp) ha;have hs:=He hown hK (K:=12) rfl;have en:=Z0 hown hK (K:=12) (λn=>rfl);exact .mkS (by rw [hK];rfl) (Qxh (mk hK en rfl ek) hs hxa)
  ·obtain ⟨a,ek,ha⟩:=Gs (K:=13) (by decide) (by rw [<-hK];exact Yg);obtain ⟨xa,hxa⟩:=kE a (by rw [ek];simp) ha;have hs:=He hown hK (K:=13) rfl;have en:=Z0 hown hK (K:=13) (λn=>rfl);exact .mkS (by rw [hK];rfl) (Q3u (mk hK en rfl ek) hs hxa)
  ·obtain ⟨a,b,ek,ha,hb⟩:=Qf8 (K:=14) (by decide) (by rw [<-hK];exact Yg);obtain ⟨xa,hxa⟩:=kE a (by rw [ek];simp) ha;obtain ⟨xb,hxb⟩:=kE b (by rw [ek];simp) hb;have hs:=He hown hK (K:=14) rfl;have en:=Z0 hown hK (K:=14) (λn=>rfl);exact .mkS (by rw [hK];rfl) (Q3e (mk hK en rfl ek) hs hxa hxb)
  ·have es:=Xw hown hK (K:=15) rfl;have en:=Z0 hown hK (K:=15) (λn=>rfl);rcases Q6v (by rw [<-hK];exact Yg)with ⟨a,b,ek,ha,hb⟩ |⟨a,b,c,ek,ha,hb,hc⟩
   ·obtain ⟨xa,hxa⟩:=kE a (by rw [ek];simp) ha;obtain ⟨xb,hxb⟩:=kB b (by rw [ek];simp) hb;exact .mkS (by rw [hK];rfl) (Q5n (mk hK en es ek) hxa hxb)
   ·obtain ⟨xa,hxa⟩:=kE a (by rw [ek];simp) ha;obtain ⟨xb,hxb⟩:=kB b (by rw [ek];simp) hb;obtain ⟨xc,hxc⟩:=kB c (by rw [ek];simp) hc;exact .mkS (by rw [hK];rfl) (Qzy (mk hK en es ek) hxa hxb hxc)
  ·obtain ⟨a,b,ek,ha,hb⟩:=Q4m (by rw [<-hK];exact Yg);obtain ⟨xa,hxa⟩:=kE a (by rw [ek];simp) ha;obtain ⟨xb,hxb⟩:=kB b (by rw [ek];simp) hb;have es:=Xw hown hK (K:=16) rfl;have en:=Z0 hown hK (K:=16) (λn=>rfl);exact .mkS (by rw [hK];rfl) (Q1x (mk hK en es ek) hxa hxb)
  ·obtain ⟨a,b,c,ek,ha,hb,hc⟩:=Q04 (by rw [<-hK];exact Yg);obtain ⟨xa,hxa⟩:=kE a (by rw [ek];simp) ha;obtain ⟨xb,hxb⟩:=kE b (by rw [ek];simp) hb;obtain ⟨xc,hxc⟩:=kB c (by rw [ek];simp) hc;have hs:=He hown hK (K:=17) rfl;have en:=Z0 hown hK (K:=17) (λn=>rfl);exact .mkS (by rw [hK];rfl) (Q5v (mk hK en rfl ek) hs hxa hxb hxc)
  ·have ek:=Ma (K:=18) (by decide) (by rw [<-hK];exact Yg);have es:=Xw hown hK (K:=18) rfl;have en:=Z0 hown hK (K:=18) (λn=>rfl);exact .mkS (by rw [hK];rfl) (Qyb (mk hK en es ek))
  ·have ek:=Ma (K:=19) (by decide) (by rw [<-hK];exact Yg);have es:=Xw hown hK (K:=19) rfl;have en:=Z0 hown hK (K:=19) (λn=>rfl);exact .mkS (by rw [hK];rfl) (Q4z (mk hK en es ek))
  ·obtain ⟨a,ek,ha⟩:=Gs (K:=20) (by decide) (by rw [<-hK];exact Yg);obtain ⟨xa,hxa⟩:=kE a (by rw [ek];simp) ha;have es:=Xw hown hK (K:=20) rfl;have en:=Z0 hown hK (K:=20) (λn=>rfl);exact .mkS (by rw [hK];rfl) (Qzg (mk hK en es ek) hxa)
  ·obtain ⟨a,ek,ha⟩:=Gs (K:=21) (by decide) (by rw [<-hK];exact Yg);obtain ⟨xa,hxa⟩:=kE a (by rw [ek];simp) ha;have es:=Xw hown hK (K:=21) rfl;have en:=Z0 hown hK (K:=21) (λn=>rfl);exact .mkS (by rw [hK];rfl) (Q2e (mk hK en es ek) hxa)
  ·obtain ⟨a,ek,ha⟩:=Q0x (by rw [<-hK];exact Yg);have es:=Xw hown hK (K:=22) rfl;have en:=Z0 hown hK (K:=22) (λn=>rfl);obtain ⟨e,he,h11⟩:=(Es a (by rw [ek];simp)).ex (by show Q6 (Yp l a)=true;rw [ha];rfl);obtain ⟨s,xs,rfl⟩:=h11 ha;exact .mkS (by rw [hK];rfl) (Q67 (mk hK en es ek) he.of)
  ·have ha:=Qyj (by rw [<-hK];exact Yg);have es:=Xw hown hK (K:=23) rfl;have en:=Z0 hown hK (K:=23) (λn=>rfl);obtain ⟨xs,hxs⟩:=Qab _ λk hk=>kS k hk (ha k hk);exact .mkB hK (Q8m (mk hK en es rfl) hxs)
  ·have ek:=Ma (K:=24) (by decide) (by rw [<-hK];exact Yg);have hs:=He hown hK (K:=24) rfl;have hn:(decide (1<=(nd l i).n)&&decide ((nd l i).n<=3))=true:=Oz hown hK;rw [Yo,Wt,Wt]at hn;obtain ⟨m,em⟩:=Qb4 (show 0<=(nd l i).n by omega);exact .mkP hK (Q6d (mk hK em rfl ek) hs (by omega) (by omega))
  ·obtain ⟨ps,b,ek,h8,ha,hb⟩:=Q8a (by rw [<-hK];exact Yg);have hs:=He hown hK (K:=25) rfl;have hn:(decide (1<=(nd l i).n)&&decide ((nd l i).n<=3))=true:=Oz hown hK;rw [Yo,Wt,Wt]at hn;obtain ⟨m,em⟩:=Qb4 (show 0<=(nd l i).n by omega);obtain ⟨xb,hxb⟩:=kB b (by rw [ek];simp) hb;obtain ⟨xs,hxs⟩:=Qab (P:=XP l) ps λk hk=>by obtain ⟨e,he⟩:=(Es k (by rw [ek];exact List.mem_append_left _ hk)).par (ha k hk);exact ⟨e,he.of⟩
   exact .mkF hK (Q1o (mk hK em rfl ek) hs (by omega) (by omega) h8 hxs hxb)
  ·obtain ⟨h2,ha⟩:=Qy2 (by rw [<-hK];exact Yg);have es:=Xw hown hK (K:=26) rfl;have en:=Z0 hown hK (K:=26) (λn=>rfl);obtain ⟨xs,hxs⟩:=Qab (P:=XF l) _ λk hk=>by obtain ⟨e,he⟩:=(Es k hk).fn (ha k hk);exact ⟨e,he.of⟩
   exact .mkR hK (Qw8 (mk hK en es rfl) h2 hxs)
theorem Qu4 (hR:Rt l) (h26:(nd l (l.length-1)).kind=26) (hN: ∀j,j<l.length->(nd l j).n<=9223372036854775807): ∃fs,XR l ((l.length-1:Nat):Int) fs:=by have hl:=hR.1.1;exact (is9 hR.1.2.1 hR.2.1 hN l.length (l.length-1) (by omega) (by omega)).pr h26
end
section
variable {l:List Nd}{i:Nat}{k:Int}
structure Wz (l:List Nd):Prop where
 hA:Ahead l
 hF:Fits l
 hN: ∀j,j<l.length->(nd l j).n<=9223372036854775807
theorem Wz.of (hR:Rt l) (hN: ∀j,j<l.length->(nd l j).n<=9223372036854775807):Wz l:=⟨hR.1.2.1,hR.2.1,hN⟩
theorem Wz.is (H:Wz l) (hi:i<l.length):Il l i:=is9 H.hA H.hF H.hN (i+1) i (by omega) hi
theorem Wz.fit (H:Wz l) (hi:i<l.length):ownB (nd l i)=true/\Y9 (nd l i).kind (kk l (nd l i))=true:=by have h:=H.hF i hi;unfold J7 at h;rw [Yo]at h;exact h
theorem Wz.kid (H:Wz l) (hi:i<l.length) (hk:k∈(nd l i).kids):0<=k/\k<(i:Int):=H.hA i hi k hk
theorem Wz.kE (H:Wz l) (hi:i<l.length) (hk:k∈(nd l i).kids) (h:Q6 (Yp l k)=true): ∃e,XE l k e:=by have:=H.kid hi hk;obtain ⟨e,he,_⟩:=(H.is (i:=k.toNat) (by omega)).ex h;exact ⟨e,he.of⟩
theorem Wz.kS (H:Wz l) (hi:i<l.length) (hk:k∈(nd l i).kids) (h:Jv (Yp l k)=true): ∃e,XS l k e:=by have:=H.kid hi hk;obtain ⟨e,he⟩:=(H.is (i:=k.toNat) (by omega)).st h;exact ⟨e,he.of⟩
theorem Wz.kB (H:Wz l) (hi:i<l.length) (hk:k∈(nd l i).kids) (h:Yp l k=23): ∃e,XB l k e:=by have:=H.kid hi hk;obtain ⟨e,he⟩:=(H.is (i:=k.toNat) (by omega)).blk h;exact ⟨e,he.of⟩
theorem Wz.kP (H:Wz l) (hi:i<l.length) (hk:k∈(nd l i).kids) (h:Yp l k=24): ∃e,XP l k e:=by have:=H.kid hi hk;obtain ⟨e,he⟩:=(H.is (i:=k.toNat) (by omega)).par h;exact ⟨e,he.of⟩
theorem Wz.kF (H:Wz l) (hi:i<l.length) (hk:k∈(nd l i).kids) (h:Yp l k=25): ∃e,XF l k e:=by have:=H.kid hi hk;obtain ⟨e,he⟩:=(H.is (i:=k.toNat) (by omega)).fn h;exact ⟨e,he.of⟩
theorem XE.one {e f:Ex} (h:XE l k e) (g:XE l k f):e=f:=by have:=h.r.symm.trans g.r;injection this
theorem XS.one {e f:St} (h:XS l k e) (g:XS l k f):e=f:=by have:=h.r.symm.trans g.r;injection this
theorem XB.one {e f:List St} (h:XB l k e) (g:XB l k f):e=f:=by have:=h.r.symm.trans g.r;injection this
theorem XP.one {e f:List UInt8×Nat} (h:XP l k e) (g:XP l k f):e=f:=by have:=h.r.symm.trans g.r;injection this
theorem XF.one {e f:Wm} (h:XF l k e) (g:XF l k f):e=f:=by have:=h.r.symm.trans g.r;injection this
theorem XR.one {e f:List Wm} (h:XR l k e) (g:XR l k f):e=f:=by have:=h.r.symm.trans g.r;injection this
theorem Wz.k1 (H:Wz l) (hi:i<l.length) (hK:(nd l i).kind=1): ∃m:Nat,Qv l i 1 (m:Int) [] []/\XE l i (.num m):=by obtain ⟨hown,Yg⟩:=H.fit hi;have ek:=Ma (K:=1) (by decide) (by rw [<-hK];exact Yg);have es:=Xw hown hK (K:=1) rfl;have hn:=Oz hown hK;obtain ⟨m,em⟩:=Qb4 (of_decide_eq_true (show decide (0<=(nd l i).n)=true from hn));have hm:=H.hN i hi;have hat:Qv l i _ _ _ _:=⟨H.hA,hi,hK,em,es,ek⟩;exact ⟨m,hat,Qzj hat (by omega)⟩
theorem Wz.k2 (H:Wz l) (hi:i<l.length) (hK:(nd l i).kind=2): ∃b:Bool,Qv l i 2 (if b then 1 else 0) [] []/\XE l i (.bool b):=by obtain ⟨hown,Yg⟩:=H.fit hi;have ek:=Ma (K:=2) (by decide) (by rw [<-hK];exact Yg);have es:=Xw hown hK (K:=2) rfl;obtain ⟨b,eb⟩:=Q7l (Oz hown hK);have hat:Qv l i _ _ _ _:=⟨H.hA,hi,hK,eb,es,ek⟩;exact ⟨b,hat,Q0p hat⟩
theorem Wz.k3 (H:Wz l) (hi:i<l.length) (hK:(nd l i).kind=3):Qv l i 3 0 [] []/\XE l i .nil:=by obtain ⟨hown,Yg⟩:=H.fit hi;have ek:=Ma (K:=3) (by decide) (by rw [<-hK];exact Yg);have es:=Xw hown hK (K:=3) rfl;have en:=Z0 hown hK (K:=3) (λn=>rfl);have hat:Qv l i _ _ _ _:=⟨H.hA,hi,hK,en,es,ek⟩;exact ⟨hat,Qwf hat⟩
theorem Wz.k4 (H:Wz l) (hi:i<l.length) (hK:(nd l i).kind=4): ∃s,X0 s/\Qv l i 4 0 s []/\XE l i (.var s):=by obtain ⟨hown,Yg⟩:=H.fit hi;have ek:=Ma (K:=4) (by decide) (by rw [<-hK];exact Yg);have hs:=He hown hK (K:=4) rfl;have en:=Z0 hown hK (K:=4) (λn=>rfl);have hat:Qv l i _ _ _ _:=⟨H.hA,hi,hK,en,rfl,ek⟩;exact ⟨_,hs,hat,Q2w hat hs⟩
theorem Wz.k5 (H:Wz l) (hi:i<l.length) (hK:(nd l i).kind=5): ∃(op:Nat) (a b:Int) (x y:Ex),1<=op/\op<=16/\Qv l i 5 (op:Int) [] [a,b]/\Q6 (Yp l a)=true/\Q6 (Yp l b)=true/\XE l a x/\XE l b y/\XE l i (.bin op x y):=by obtain ⟨hown,Yg⟩:=H.fit hi;obtain ⟨a,b,ek,ha,hb⟩:=Qf8 (K:=5) (by decide) (by rw [<-hK];exact Yg);obtain ⟨xa,hxa⟩:=H.kE hi (k:=a) (by rw [ek];simp) ha;obtain ⟨xb,hxb⟩:=H.kE hi (k:=b) (by rw [ek];simp) hb;have es:=Xw hown hK (K:=5) rfl;have hn:(decide (1<=(nd l i).n)&&decide ((nd l i).n<=16))=true:=Oz hown hK;rw [Yo,Wt,Wt]at hn;obtain ⟨m,em⟩:=Qb4 (show 0<=(nd l i).n by omega);have hat:Qv l i _ _ _ _:=⟨H.hA,hi,hK,em,es,ek⟩;exact ⟨m,a,b,xa,xb,by omega,by omega,hat,ha,hb,hxa,hxb,Qxd hat (by omega) (by omega) hxa hxb⟩
theorem Wz.k6 (H:Wz l) (hi:i<l.length) (hK:(nd l i).kind=6): ∃(a:Int) (x:Ex),Qv l i 6 0 [] [a]/\Q6 (Yp l a)=true/\XE l a x/\XE l i (.neg x):=by obtain ⟨hown,Yg⟩:=H.fit hi;obtain ⟨a,ek,ha⟩:=Gs (K:=6) (by decide) (by rw [<-hK];exact Yg);obtain ⟨xa,hxa⟩:=H.kE hi (k:=a) (by rw [ek];simp) ha;have es:=Xw hown hK (K:=6) rfl;have en:=Z0 hown hK (K:=6) (λn=>rfl);have hat:Qv l i _ _ _ _:=⟨H.hA,hi,hK,en,es,ek⟩;exact ⟨a,xa,hat,ha,hxa,Qxw hat hxa⟩
theorem Wz.k7 (H:Wz l) (hi:i<l.length) (hK:(nd l i).kind=7): ∃(a:Int) (x:Ex),Qv l i 7 0 [] [a]/\Q6 (Yp l a)=true/\XE l a x/\XE l i (.not x):=by obtain ⟨hown,Yg⟩:=H.fit hi;obtain ⟨a,ek,ha⟩:=Gs (K:=7) (by decide) (by rw [<-hK];exact Yg);obtain ⟨xa,hxa⟩:=H.kE hi (k:=a) (by rw [ek];simp) ha;have es:=Xw hown hK (K:=7) rfl;have en:=Z0 hown hK (K:=7) (λn=>rfl);have hat:Qv l i _ _ _ _:=⟨H.hA,hi,hK,en,es,ek⟩;exact ⟨a,xa,hat,ha,hxa,Q10 hat hxa⟩
theorem Wz.k9 (H:Wz l) (hi:i<l.length) (hK:(nd l i).kind=9): ∃(a:Int) (x:Ex),Qv l i 9 0 [] [a]/\Q6 (Yp l a)=true/\XE l a x/\XE l i (.len x):=by obtain ⟨hown,Yg⟩:=H.fit hi;obtain ⟨a,ek,ha⟩:=Gs (K:=9) (by decide) (by rw [<-hK];exact Yg);obtain ⟨xa,hxa⟩:=H.kE hi (k:=a) (by rw [ek];simp) ha;have es:=Xw hown hK (K:=9) rfl;have en:=Z0 hown hK (K:=9) (λn=>rfl);have hat:Qv l i _ _ _ _:=⟨H.hA,hi,hK,en,es,ek⟩;exact ⟨a,xa,hat,ha,hxa,Qyu hat hxa⟩
theorem Wz.k10 (H:Wz l) (hi:i<l.length) (hK:(nd l i).kind=10): ∃(a:Int) (x:Ex),Qv l i 10 0 [] [a]/\Q6 (Yp l a)=true/\XE l a x/\XE l i (.new x):=by obtain ⟨hown,Yg⟩:=H.fit hi;obtain ⟨a,ek,ha⟩:=Gs (K:=10) (by decide) (by rw [<-hK];exact Yg);obtain ⟨xa,hxa⟩:=H.kE hi (k:=a) (by rw [ek];simp) ha;have es:=Xw hown hK (K:=10) rfl;have en:=Z0 hown hK (K:=10) (λn=>rfl);have hat:Qv l i _ _ _ _:=⟨H.hA,hi,hK,en,es,ek⟩;exact ⟨a,xa,hat,ha,hxa,Q34 hat hxa⟩
theorem Wz.k8 (H:Wz l) (hi:i<l.length) (hK:(nd l i).kind=8): ∃(a b:Int) (x y:Ex),Qv l i 8 0 [] [a,b]/\Q6 (Yp l a)=true/\Q6 (Yp l b)=true/\XE l a x/\XE l b y/\XE l i (.index x y):=by obtain ⟨hown,Yg⟩:=H.fit hi;obtain ⟨a,b,ek,ha,hb⟩:=Qf8 (K:=8) (by decide) (by rw [<-hK];exact Yg);obtain ⟨xa,hxa⟩:=H.kE hi (k:=a) (by rw [ek];simp) ha;obtain ⟨xb,hxb⟩:=H.kE hi (k:=b) (by rw [ek];simp) hb;have es:=Xw hown hK (K:=8) rfl;have en:=Z0 hown hK (K:=8) (λn=>rfl);have hat:Qv l i _ _ _ _:=⟨H.hA,hi,hK,en,es,ek⟩;exact ⟨a,b,xa,xb,hat,ha,hb,hxa,hxb,Qw3 hat hxa hxb⟩
theorem Wz.k11 (H:Wz l) (hi:i<l.length) (hK:(nd l i).kind=11): ∃(s:List UInt8) (ks:List Int) (xs:List Ex),X0 s/\ks.length<=8/\Qv l i 11 0 s ks/\(∀k∈ks,Q6 (Yp l k)=true)/\Gc (XE l) ks xs/\XE l i (.call s xs):=by obtain ⟨hown,Yg⟩:=H.fit hi;obtain ⟨h8,ha⟩:=Q5m (by rw [<-hK];exact Yg);have hs:=He hown hK (K:=11) rfl;have en:=Z0 hown hK (K:=11) (λn=>rfl);obtain ⟨xs,hxs⟩:=Qab _ λk hk=>H.kE hi hk (ha k hk);have hat:Qv l i _ _ _ _:=⟨H.hA,hi,hK,en,rfl,rfl⟩;exact ⟨_,_,xs,hs,h8,hat,ha,hxs,Q1i hat hs h8 hxs⟩
theorem Wz.k12 (H:Wz l) (hi:i<l.length) (hK:(nd l i).kind=12): ∃(s:List UInt8) (a:Int) (x:Ex),X0 s/\Qv l i 12 0 s [a]/\Q6 (Yp l a)=true/\XE l a x/\XS l i (.let_ s x):=by obtain ⟨hown,Yg⟩:=H.fit hi;obtain ⟨a,ek,ha⟩:=Gs (K:=12) (by decide) (by rw [<-hK];exact Yg);obtain ⟨xa,hxa⟩:=H.kE hi (k:=a) (by rw [ek];simp) ha;have hs:=He hown hK (K:=12) rfl;have en:=Z0 hown hK (K:=12) (λn=>rfl);have hat:Qv l i _ _ _ _:=⟨H.hA,hi,hK,en,rfl,ek⟩;exact ⟨_,a,xa,hs,hat,ha,hxa,Qxh hat hs hxa⟩
theorem Wz.k13 (H:Wz l) (hi:i<l.length) (hK:(nd l i).kind=13): ∃(s:List UInt8) (a:Int) (x:Ex),X0 s/\Qv l i 13 0 s [a]/\Q6 (Yp l a)=true/\XE l a x/\XS l i (.set s x):=by obtain ⟨hown,Yg⟩:=H.fit hi;obtain ⟨a,ek,ha⟩:=Gs (K:=13) (by decide) (by rw [<-hK];exact Yg);obtain ⟨xa,hxa⟩:=H.kE hi (k:=a) (by rw [ek];simp) ha;have hs:=He hown hK (K:=13) rfl;have en:=Z0 hown hK (K:=13) (λn=>rfl);have hat:Qv l i _ _ _ _:=⟨H.hA,hi,hK,en,rfl,ek⟩;exact ⟨_,a,xa,hs,hat,ha,hxa,Q3u hat hs hxa⟩
theorem Wz.k14 (H:Wz l) (hi:i<l.length) (hK:(nd l i).kind=14): ∃(s:List UInt8) (a b:Int) (x y:Ex),X0 s/\Qv l i 14 0 s [a,b]/\Q6 (Yp l a)=true/\Q6 (Yp l b)=true/\XE l a x/\XE l b y/\XS l i (.put s x y):=by obtain ⟨hown,Yg⟩:=H.fit hi;obtain ⟨a,b,ek,ha,hb⟩:=Qf8 (K:=14) (by decide) (by rw [<-hK];exact Yg);obtain ⟨xa,hxa⟩:=H.kE hi (k:=a) (by rw [ek];simp) ha;obtain ⟨xb,hxb⟩:=H.kE hi (k:=b) (by rw [ek];simp) hb;have hs:=He hown hK (K:=14) rfl;have en:=Z0 hown hK (K:=14) (λn=>rfl);have hat:Qv l i _ _ _ _:=⟨H.hA,hi,hK,en,rfl,ek⟩;exact ⟨_,a,b,xa,xb,hs,hat,ha,hb,hxa,hxb,Q3e hat hs hxa hxb⟩
theorem Wz.k15 (H:Wz l) (hi:i<l.length) (hK:(nd l i).kind=15):(∃(a b:Int) (x:Ex) (y:List St),Qv l i 15 0 [] [a,b]/\Q6 (Yp l a)=true/\Yp l b=23/\XE l a x/\XB l b y/\XS l i (.if_ x y))\/ ∃(a b c:Int) (x:Ex) (y z:List St),Qv l i 15 0 [] [a,b,c]/\Q6 (Yp l a)=true/\Yp l b=23/\Yp l c=23/\XE l a x/\XB l b y/\XB l c z/\XS l i (.Cz x y z):=by
 obtain ⟨hown,Yg⟩:=H.fit hi;have es:=Xw hown hK (K:=15) rfl;have en:=Z0 hown hK (K:=15) (λn=>rfl);rcases Q6v (by rw [<-hK];exact Yg)with ⟨a,b,ek,ha,hb⟩ |⟨a,b,c,ek,ha,hb,hc⟩
 ·obtain ⟨xa,hxa⟩:=H.kE hi (k:=a) (by rw [ek];simp) ha;obtain ⟨xb,hxb⟩:=H.kB hi (k:=b) (by rw [ek];simp) hb;have hat:Qv l i _ _ _ _:=⟨H.hA,hi,hK,en,es,ek⟩;exact .inl ⟨a,b,xa,xb,hat,ha,hb,hxa,hxb,Q5n hat hxa hxb⟩
 ·obtain ⟨xa,hxa⟩:=H.kE hi (k:=a) (by rw [ek];simp) ha;obtain ⟨xb,hxb⟩:=H.kB hi (k:=b) (by rw [ek];simp) hb;obtain ⟨xc,hxc⟩:=H.kB hi (k:=c) (by rw [ek];simp) hc;have hat:Qv l i _ _ _ _:=⟨H.hA,hi,hK,en,es,ek⟩;exact .inr ⟨a,b,c,xa,xb,xc,hat,ha,hb,hc,hxa,hxb,hxc,Qzy hat hxa hxb hxc⟩
theorem Wz.k16 (H:Wz l) (hi:i<l.length) (hK:(nd l i).kind=16): ∃(a b:Int) (x:Ex) (y:List St),Qv l i 16 0 [] [a,b]/\Q6 (Yp l a)=true/\Yp l b=23/\XE l a x/\XB l b y/\XS l i (.Kl x y):=by obtain ⟨hown,Yg⟩:=H.fit hi;obtain ⟨a,b,ek,ha,hb⟩:=Q4m (by rw [<-hK];exact Yg);obtain ⟨xa,hxa⟩:=H.kE hi (k:=a) (by rw [ek];simp) ha;obtain ⟨xb,hxb⟩:=H.kB hi (k:=b) (by rw [ek];simp) hb;have es:=Xw hown hK (K:=16) rfl;have en:=Z0 hown hK (K:=16) (λn=>rfl);have hat:Qv l i _ _ _ _:=⟨H.hA,hi,hK,en,es,ek⟩;exact ⟨a,b,xa,xb,hat,ha,hb,hxa,hxb,Q1x hat hxa hxb⟩
theorem Wz.k17 (H:Wz l) (hi:i<l.length) (hK:(nd l i).kind=17): ∃(s:List UInt8) (a b c:Int) (x y:Ex) (z:List St),X0 s/\Qv l i 17 0 s [a,b,c]/\Q6 (Yp l a)=true/\Q6 (Yp l b)=true/\Yp l c=23/\XE l a x/\XE l b y/\XB l c z/\XS l i (.for_ s x y z):=by obtain ⟨hown,Yg⟩:=H.fit hi;obtain ⟨a,b,c,ek,ha,hb,hc⟩:=Q04 (by rw [<-hK];exact Yg);obtain ⟨xa,hxa⟩:=H.kE hi (k:=a) (by rw [ek];simp) ha;obtain ⟨xb,hxb⟩:=H.kE hi (k:=b) (by rw [ek];simp) hb;obtain ⟨xc,hxc⟩:=H.kB hi (k:=c) (by rw [ek];simp) hc;have hs:=He hown hK (K:=17) rfl;have en:=Z0 hown hK (K:=17) (λn=>rfl);have hat:Qv l i _ _ _ _:=⟨H.hA,hi,hK,en,rfl,ek⟩;exact ⟨_,a,b,c,xa,xb,xc,hs,hat,ha,hb,hc,hxa,hxb,hxc,Q5v hat hs hxa hxb hxc⟩
theorem Wz.k18 (H:Wz l) (hi:i<l.length) (hK:(nd l i).kind=18):Qv l i 18 0 [] []/\XS l i .brk:=by obtain ⟨hown,Yg⟩:=H.fit hi;have ek:=Ma (K:=18) (by decide) (by rw [<-hK];exact Yg);have es:=Xw hown hK (K:=18) rfl;have en:=Z0 hown hK (K:=18) (λn=>rfl);have hat:Qv l i _ _ _ _:=⟨H.hA,hi,hK,en,es,ek⟩;exact ⟨hat,Qyb hat⟩
theorem Wz.k19 (H:Wz l) (hi:i<l.length) (hK:(nd l i).kind=19):Qv l i 19 0 [] []/\XS l i .cont:=by obtain ⟨hown,Yg⟩:=H.fit hi;have ek:=Ma (K:=19) (by decide) (by rw [<-hK];exact Yg);have es:=Xw hown hK (K:=19) rfl;have en:=Z0 hown hK (K:=19) (λn=>rfl);have hat:Qv l i _ _ _ _:=⟨H.hA,hi,hK,en,es,ek⟩;exact ⟨hat,Q4z hat⟩
theorem Wz.k20 (H:Wz l) (hi:i<l.length) (hK:(nd l i).kind=20): ∃(a:Int) (x:Ex),Qv l i 20 0 [] [a]/\Q6 (Yp l a)=true/\XE l a x/\XS l i (.ret x):=by obtain ⟨hown,Yg⟩:=H.fit hi;obtain ⟨a,ek,ha⟩:=Gs (K:=20) (by decide) (by rw [<-hK];exact Yg);obtain ⟨xa,hxa⟩:=H.kE hi (k:=a) (by rw [ek];simp) ha;have es:=Xw hown hK (K:=20) rfl;have en:=Z0 hown hK (K:=20) (λn=>rfl);have hat:Qv l i _ _ _ _:=⟨H.hA,hi,hK,en,es,ek⟩;exact ⟨a,xa,hat,ha,hxa,Qzg hat hxa⟩
theorem Wz.k21 (H:Wz l) (hi:i<l.length) (hK:(nd l i).kind=21): ∃(a:Int) (x:Ex),Qv l i 21 0 [] [a]/\Q6 (Yp l a)=true/\XE l a x/\XS l i (.print x):=by obtain ⟨hown,Yg⟩:=H.fit hi;obtain ⟨a,ek,ha⟩:=Gs (K:=21) (by decide) (by rw [<-hK];exact Yg);obtain ⟨xa,hxa⟩:=H.kE hi (k:=a) (by rw [ek];simp) ha;have es:=Xw hown hK (K:=21) rfl;have en:=Z0 hown hK (K:=21) (λn=>rfl);have hat:Qv l i _ _ _ _:=⟨H.hA,hi,hK,en,es,ek⟩;exact ⟨a,xa,hat,ha,hxa,Q2e hat hxa⟩
theorem Wz.k22 (H:Wz l) (hi:i<l.length) (hK:(nd l i).kind=22): ∃(a:Int) (s:List UInt8) (xs:List Ex),Qv l i 22 0 [] [a]/\Yp l a=11/\XE l a (.call s xs)/\XS l i (.do_ s xs):=by obtain ⟨hown,Yg⟩:=H.fit hi;obtain ⟨a,ek,ha⟩:=Q0x (by rw [<-hK];exact Yg);have es:=Xw hown hK (K:=22) rfl;have en:=Z0 hown hK (K:=22) (λn=>rfl);have hak:=H.kid hi (k:=a) (by rw [ek];simp);obtain ⟨e,he,h11⟩:=(H.is (i:=a.toNat) (by omega)).ex (by show Q6 (Yp l a)=true;rw [ha];rfl);obtain ⟨s,xs,rfl⟩:=h11 ha;have hat:Qv l i _ _ _ _:=⟨H.hA,hi,hK,en,es,ek⟩;exact ⟨a,s,xs,hat,ha,he.of,Q67 hat he.of⟩
theorem Wz.k23 (H:Wz l) (hi:i<l.length) (hK:(nd l i).kind=23): ∃(ks:List Int) (b:List St),Qv l i 23 0 [] ks/\(∀k∈ks,Jv (Yp l k)=true)/\Gc (XS l) ks b/\XB l i b:=by obtain ⟨hown,Yg⟩:=H.fit hi;have ha:=Qyj (by rw [<-hK];exact Yg);have es:=Xw hown hK (K:=23) rfl;have en:=Z0 hown hK (K:=23) (λn=>rfl);obtain ⟨xs,hxs⟩:=Qab _ λk hk=>H.kS hi hk (ha k hk);have hat:Qv l i _ _ _ _:=⟨H.hA,hi,hK,en,es,rfl⟩;exact ⟨_,xs,hat,ha,hxs,Q8m hat hxs⟩
theorem Wz.k24 (H:Wz l) (hi:i<l.length) (hK:(nd l i).kind=24): ∃(s:List UInt8) (m:Nat),X0 s/\1<=m/\m<=3/\Qv l i 24 (m:Int) s []/\XP l i (s,m):=by obtain ⟨hown,Yg⟩:=H.fit hi;have ek:=Ma (K:=24) (by decide) (by rw [<-hK];exact Yg);have hs:=He hown hK (K:=24) rfl;have hn:(decide (1<=(nd l i).n)&&decide ((nd l i).n<=3))=true:=Oz hown hK;rw [Yo,Wt,Wt]at hn;obtain ⟨m,em⟩:=Qb4 (show 0<=(nd l i).n by omega);have hat:Qv l i _ _ _ _:=⟨H.hA,hi,hK,em,rfl,ek⟩;exact ⟨_,m,hs,by omega,by omega,hat,Q6d hat hs (by omega) (by omega)⟩
theorem Wz.k25 (H:Wz l) (hi:i<l.length) (hK:(nd l i).kind=25): ∃(s:List UInt8) (m:Nat) (ks:List Int) (b:Int) (ps:List (List UInt8×Nat)) (c:List St),X0 s/\1<=m/\m<=3/\ks.length<=8/\Qv l i 25 (m:Int) s (ks++[b])/\(∀k∈ks,Yp l k=24)/\Yp l b=23/\Gc (XP l) ks ps/\XB l b c/\XF l i ⟨s,ps,m,c⟩:=by obtain ⟨hown,Yg⟩:=H.fit hi;obtain ⟨ps,b,ek,h8,ha,hb⟩:=Q8a (by rw [<-hK];exact Yg);have hs:=He hown hK (K:=25) rfl;have hn:(decide (1<=(nd l i).n)&&decide ((nd l i).n<=3))=true:=Oz hown hK;rw [Yo,Wt,Wt]at hn;obtain ⟨m,em⟩:=Qb4 (show 0<=(nd l i).n by omega);obtain ⟨xb,hxb⟩:=H.kB hi (k:=b) (by rw [ek];simp) hb;obtain ⟨xs,hxs⟩:=Qab (P:=XP l) ps λk hk=>H.kP hi (by rw [ek];exact List.mem_append_left _ hk) (ha k hk);have hat:Qv l i _ _ _ _:=⟨H.hA,hi,hK,em,rfl,ek⟩;exact ⟨_,m,ps,b,xs,xb,hs,by omega,by omega,h8,hat,ha,hb,hxs,hxb,Q1o hat hs (by omega) (by omega) h8 hxs hxb⟩
theorem Wz.k26 (H:Wz l) (hi:i<l.length) (hK:(nd l i).kind=26): ∃(ks:List Int) (fs:List Wm),ks.length<=200/\Qv l i 26 0 [] ks/\(∀k∈ks,Yp l k=25)/\Gc (XF l) ks fs/\XR l i fs:=by obtain ⟨hown,Yg⟩:=H.fit hi;obtain ⟨h2,ha⟩:=Qy2 (by rw [<-hK];exact Yg);have es:=Xw hown hK (K:=26) rfl;have en:=Z0 hown hK (K:=26) (λn=>rfl);obtain ⟨xs,hxs⟩:=Qab (P:=XF l) _ λk hk=>H.kF hi hk (ha k hk);have hat:Qv l i _ _ _ _:=⟨H.hA,hi,hK,en,es,rfl⟩;exact ⟨_,xs,h2,hat,ha,hxs,Qw8 hat h2 hxs⟩
def Jt (K n:Int):Nat:=if K=5 then (if n<0\/16<n then 0 else stOp n.toNat)else if K=6\/K=7 then 6 else if Q6 K then 7 else 0
theorem Wz.st (H:Wz l) (hi:i<l.length) {e:Ex} (hx:Q6 (nd l i).kind=true) (h:XE l i e):Jt (nd l i).kind (nd l i).n=e.st:=by
 have hk:=Nk hx;have hcases:(nd l i).kind=1\/(nd l i).kind=2\/(nd l i).kind=3\/(nd l i).kind=4\/(nd l i).kind=5\/(nd l i).kind=6\/(nd l i).kind=7\/(nd l i).kind=8\/(nd l i).kind=9\/(nd l i).kind=10\/(nd l i).kind=11:=by omega
 rcases hcases with hK |hK |hK |hK |hK |hK |hK |hK |hK |hK |hK
 ·obtain ⟨m,ha,hx⟩:=H.k1 hi hK;rw [h.one hx,hK];rfl
 ·obtain ⟨m,ha,hx⟩:=H.k2 hi hK;rw [h.one hx,hK];rfl
 ·obtain ⟨ha,hx⟩:=H.k3 hi hK;rw [h.one hx,hK];rfl
 ·obtain ⟨s,hs,ha,hx⟩:=H.k4 hi hK;rw [h.one hx,hK];rfl
 ·obtain ⟨op,a,b,x,y,h1,h16,ha,_,_,_,_,hx⟩:=H.k5 hi hK;rw [h.one hx,hK,ha.n];unfold Jt;rw [Qk rfl,Qd (by omega)];rfl
 ·obtain ⟨a,x,ha,_,_,hx⟩:=H.k6 hi hK;rw [h.one hx,hK];rfl
 ·obtain ⟨a,x,ha,_,_,hx⟩:=H.k7 hi hK;rw [h.one hx,hK];rfl
 ·obtain ⟨a,b,x,y,ha,_,_,_,_,hx⟩:=H.k8 hi hK;rw [h.one hx,hK];rfl
 ·obtain ⟨a,x,ha,_,_,hx⟩:=H.k9 hi hK;rw [h.one hx,hK];rfl
 ·obtain ⟨a,x,ha,_,_,hx⟩:=H.k10 hi hK;rw [h.one hx,hK];rfl
 ·obtain ⟨s,ks,xs,_,_,ha,_,_,hx⟩:=H.k11 hi hK;rw [h.one hx,hK];rfl
end
section
open Go.RowKit
def Q6y:Array Value:=(flat (H:=Unit) Rows.laid_balustrade_prose_heads).toArray
def Qym:Array Value:=(flat (H:=Unit) Rows.laid_balustrade_prose_strengths).toArray
def Wb9:List (List UInt8):=[[],[],[],[],[],[],[45],[33],[],[108,101,110],[110,101,119],[],[118,97,114,32],[],[],[105,102,32],[119,104,105,108,101,32],[102,111,114,32],[98,114,101,97,107],[99,111,110,116,105,110,117,101],[114,101,116,117,114,110,32],[112,114,105,110,116,32],[],[],[],[102,110,32]]
theorem Ac: ∀k,k<26->Q6y[k]? =some (txt (Wb9.getD k []))
 | 0,_=>by kernel_rfl
 | 1,_=>by kernel_rfl
 | 2,_=>by kernel_rfl
 | 3,_=>by kernel_rfl
 | 4,_=>by kernel_rfl
 | 5,_=>by kernel_rfl
 | 6,_=>by kernel_rfl
 | 7,_=>by kernel_rfl
 | 8,_=>by kernel_rfl
 | 9,_=>by kernel_rfl
 | 10,_=>by kernel_rfl
 | 11,_=>by kernel_rfl
 | 12,_=>by kernel_rfl
 | 13,_=>by kernel_rfl
 | 14,_=>by kernel_rfl
 | 15,_=>by kernel_rfl
 | 16,_=>by kernel_rfl
 | 17,_=>by kernel_rfl
 | 18,_=>by kernel_rfl
 | 19,_=>by kernel_rfl
 | 20,_=>by kernel_rfl
 | 21,_=>by kernel_rfl
 | 22,_=>by kernel_rfl
 | 23,_=>by kernel_rfl
 | 24,_=>by kernel_rfl
 | 25,_=>by kernel_rfl
 |n+26,h=>by omega
theorem Wqh: ∀k,k<17->Qym[k]? =some (.int .i64 (stOp k:Int))
 | 0,_=>by kernel_rfl
 | 1,_=>by kernel_rfl
 | 2,_=>by kernel_rfl
 | 3,_=>by kernel_rfl
 | 4,_=>by kernel_rfl
 | 5,_=>by kernel_rfl
 | 6,_=>by kernel_rfl
 | 7,_=>by kernel_rfl
 | 8,_=>by kernel_rfl
 | 9,_=>by kernel_rfl
 | 10,_=>by kernel_rfl
 | 11,_=>by kernel_rfl
 | 12,_=>by kernel_rfl
 | 13,_=>by kernel_rfl
 | 14,_=>by kernel_rfl
 | 15,_=>by kernel_rfl
 | 16,_=>by kernel_rfl
 |n+17,h=>by omega
structure Ir (w:World):Prop where
 tabs:Dp w
 heads: ∃t fr,w.heap[0]? =some (.cells Q6y t fr)
 strs: ∃t fr,w.heap[1]? =some (.cells Qym t fr)
theorem Ir.below {w w':World} (h:Ir w) (hb:Below w.heap.size w w'):Ir w':=
 ⟨h.tabs.below hb,Y0 h.heads hb,Y0 h.strs hb⟩
theorem Q09 {n:Int} (h:n<0\/17<=n):Jt 5 n=0:=by unfold Jt;rw [Qk rfl,Qk (by omega)]
theorem Q62 {k:Nat} (h:k<17):Jt 5 (k:Int)=stOp k:=by unfold Jt;rw [Qk rfl,Qd (by omega),Ja]
theorem Wcv {K n:Int} (h5:K≠5) (h6:K≠6) (h7:K≠7) (h:Q6 K=true):Jt K n=7:=by unfold Jt;rw [Qd h5,Qd (by omega),Qk h]
theorem Q30 {K n:Int} (h:Q6 K=false):Jt K n=0:=by
 have:K≠5/\K≠6/\K≠7:=by refine ⟨?_,?_,?_⟩<;>(intro e;rw [e]at h;exact absurd h (by decide))
 unfold Jt;rw [Qd this.1,Qd (by omega),Qd (by rw [h];decide)]
theorem Lm (K n:Int) (ka:Option Addr) (m kc:Nat) (s:ByteArray) (at_:Int) (w:World) (hT:Ir w):
  Calls prog 15 #[.agg #[.int .i64 K,.slice ka m kc,.int .i64 n,.string s,.int .i64 at_]] w λe w'=>e= .returned (.int .i64 ((Jt K n:Nat):Int))/\Below w.heap.size w w':=by
 have HB1:Hid (Below w.heap.size w (w.alloc (.cells #[.int .i64 K,.slice ka m kc,.int .i64 n,.string s,.int .i64 at_] 37))):=Qag;have HT:=Qa hT;clear hT;by_cases k5:K=5
 ·subst k5;rcases (show n<0\/0<=n by omega)with h |h
  ·have HS:=Qa (Q09 (.inl h));go_enter func15,ntmps15;go_wp2_with fail;go_ret;exact ⟨by rw [HS.out];rfl,HB1.out⟩
  ·rcases (show n<17\/17<=n by omega)with h2 |h2
   ·obtain ⟨k,rfl⟩: ∃k:Nat,n=k:=⟨n.toNat,by omega⟩;have hk:k<17:=(by omega);have HS:=Qa (Q62 hk);have hc:=Zc (HT.out.below HB1.out).strs (Wqh k hk);go_enter func15,ntmps15;go_wp2_with fail;go_ret;exact ⟨by rw [HS.out];rfl,HB1.out⟩
   ·have HS:=Qa (Q09 (.inr h2));go_enter func15,ntmps15;go_wp2_with fail;go_ret;exact ⟨by rw [HS.out];rfl,HB1.out⟩
 ·by_cases k67:K=6\/K=7
  ·rcases k67 with rfl |rfl
   ·go_enter func15,ntmps15;go_wp2_with fail;go_ret;exact ⟨rfl,HB1.out⟩
   ·go_enter func15,ntmps15;go_wp2_with fail;go_ret;exact ⟨rfl,HB1.out⟩
  ·have k6: ¬K=6:=λe=>k67 (.inl e);have k7: ¬K=7:=λe=>k67 (.inr e);clear k67;cases hx:Q6 K with
   |true=>
    have HS:=Qa (Wcv (n:=n) k5 k6 k7 hx);have hin:=Nk hx;have hcases:K=1\/K=2\/K=3\/K=4\/K=8\/K=9\/K=10\/K=11:=(by omega);clear hx hin k5 k6 k7;rcases hcases with rfl |rfl |rfl |rfl |rfl |rfl |rfl |rfl
    all_goals
     go_enter func15,ntmps15;go_wp2_with fail;go_ret;exact ⟨rfl,HB1.out⟩
   |false=>
    have HS:=Qa (Q30 (n:=n) hx);have hout:K<1\/11<K:=(by unfold Q6 at hx;simp at hx;omega);have k1: ¬K=1:=(by omega);have k2: ¬K=2:=(by omega);have k3: ¬K=3:=(by omega);have k4: ¬K=4:=(by omega);have k8: ¬K=8:=(by omega);have k9: ¬K=9:=(by omega);have k10: ¬K=10:=(by omega);have k11: ¬K=11:=(by omega);clear hout hx;go_enter func15,ntmps15;go_wp2_with fail;go_ret;exact ⟨by rw [HS.out];rfl,HB1.out⟩
end
end Go.Proofs.YtdncpkkhkbijfaaGreatDoor
