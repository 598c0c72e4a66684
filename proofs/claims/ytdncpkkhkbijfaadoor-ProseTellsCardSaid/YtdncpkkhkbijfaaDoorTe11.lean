import Derived.Test.YtdncpkkhkbijfaaDoorTe8
import Derived.Test.YtdncpkkhkbijfaaDoorTe10
set_option linter.all false
set_option maxHeartbeats 0
set_option maxRecDepth 100000
namespace Go.Proofs.YtdncpkkhkbijfaaDoor
section
variable {l:List Nd}{i:Nat}{k:Int}
theorem Qrw {x:Nd} (h:ownB x=true):1<=x.kind/\x.kind<=26:=by unfold ownB at h;simp only [Q7,Qu]at h;exact ⟨h.1.1.1.1,h.1.1.1.2⟩
theorem Vx {x:Nd} {K:Int} (h:ownB x=true) (hK:x.kind=K) (hn:named K=true):Y6 x.t:=by unfold ownB at h;simp only [Q7]at h;have h1:=h.1.2;rw [hK,Wy hn]at h1;exact Qoq h1
theorem Yy {x:Nd} {K:Int} (h:ownB x=true) (hK:x.kind=K) (hn:named K=false):x.t=[]:=by unfold ownB at h;simp only [Q7]at h;have h1:=h.1.2;rw [hK,Q6 (by rw [hn];decide)]at h1;exact of_decide_eq_true h1
theorem K8 {x:Nd} {K:Int} (h:ownB x=true) (hK:x.kind=K):Ko K x.n=true:=by unfold ownB at h;simp only [Q7]at h;rw [<-hK];exact h.2
theorem Yk {x:Nd} {K:Int} (h:ownB x=true) (hK:x.kind=K) (h0: ∀n,Ko K n=decide (n=0)):x.n=0:=by have:=K8 h hK;rw [h0]at this;exact of_decide_eq_true this
theorem XE.of {e:Ex} (h:XE l (k.toNat:Int) e):XE l k e:=⟨h.r,h.fin,h.t,h.z,h.h⟩
theorem XS.of {e:St} (h:XS l (k.toNat:Int) e):XS l k e:=⟨h.r,h.fin,h.t,h.z,h.h⟩
theorem XB.of {e:List St} (h:XB l (k.toNat:Int) e):XB l k e:=⟨h.r,h.fin,h.t,h.z,h.h⟩
theorem XP.of {e:List UInt8×Nat} (h:XP l (k.toNat:Int) e):XP l k e:=⟨h.r,h.fin,h.t,h.z,h.h⟩
theorem XF.of {e:Wd} (h:XF l (k.toNat:Int) e):XF l k e:=⟨h.r,h.fin,h.t,h.z,h.h⟩
structure Qg (l:List Nd) (i:Nat) (K n:Int) (s:List UInt8) (ks:List Int):Prop where
 hA:Ahead l
 hi:i<l.length
 k:(nd l i).kind=K
 n:(nd l i).n=n
 t:(nd l i).t=s
 ks:(nd l i).kids=ks
namespace Qg
variable {K n:Int}{s:List UInt8}{ks:List Int}
theorem Zv (h:Qg l i K n s ks):Zv l i=Ot K n s (ks.map λk=>Go.Proofs.YtdncpkkhkbijfaaDoor.Zv l k.toNat):=by show val Uv l i=_;rw [Oh h.hA h.hi];unfold Uv;rw [h.k,h.n,h.t,h.ks];rfl
theorem tx (h:Qg l i K n s ks):tx l i=Ym K n s (ks.map λk=>Go.Proofs.YtdncpkkhkbijfaaDoor.tx l k.toNat):=by rw [Qaa h.hA h.hi,Qqx,h.k,h.n,h.t,h.ks]
theorem sz (h:Qg l i K n s ks):sz l i=1+(ks.map λk=>Go.Proofs.YtdncpkkhkbijfaaDoor.sz l k.toNat).sum:=by rw [Og h.hA h.hi,h.ks]
theorem hgt (h:Qg l i K n s ks):hgt l i=(ks.map λk=>Go.Proofs.YtdncpkkhkbijfaaDoor.hgt l k.toNat).foldl (λh x=>max h (1+x)) 1:=by rw [Td h.hA h.hi,h.ks]
theorem ex (h:Qg l i K n s ks) {e:Ex} (h1:Ot K n s (ks.map λk=>Go.Proofs.YtdncpkkhkbijfaaDoor.Zv l k.toNat)= .ex e) (h2:e.fin) (h3:e.told=Ym K n s (ks.map λk=>Go.Proofs.YtdncpkkhkbijfaaDoor.tx l k.toNat)) (h4:e.size=1+(ks.map λk=>Go.Proofs.YtdncpkkhkbijfaaDoor.sz l k.toNat).sum) (h5:e.ht=(ks.map λk=>Go.Proofs.YtdncpkkhkbijfaaDoor.hgt l k.toNat).foldl (λh x=>max h (1+x)) 1):XE l (i:Int) e:=
 ⟨h.Zv.trans h1,h2,h3.trans h.tx.symm,h4.trans h.sz.symm,h5.trans h.hgt.symm⟩
theorem st (h:Qg l i K n s ks) {e:St} (h1:Ot K n s (ks.map λk=>Go.Proofs.YtdncpkkhkbijfaaDoor.Zv l k.toNat)= .st e) (h2:e.fin) (h3:e.told=Ym K n s (ks.map λk=>Go.Proofs.YtdncpkkhkbijfaaDoor.tx l k.toNat)) (h4:e.part.size=1+(ks.map λk=>Go.Proofs.YtdncpkkhkbijfaaDoor.sz l k.toNat).sum) (h5:e.part.ht=(ks.map λk=>Go.Proofs.YtdncpkkhkbijfaaDoor.hgt l k.toNat).foldl (λh x=>max h (1+x)) 1):XS l (i:Int) e:=
 ⟨h.Zv.trans h1,h2,h3.trans h.tx.symm,h4.trans h.sz.symm,h5.trans h.hgt.symm⟩
end Qg
theorem ht1 (a:Nat):[a].foldl (λh x=>max h (1+x)) 1=a+1:=by show max 1 (1+a)=a+1;omega
theorem ht2 (a b:Nat):[a,b].foldl (λh x=>max h (1+x)) 1=max a b+1:=by show max (max 1 (1+a)) (1+b)=max a b+1;omega
theorem ht3 (a b c:Nat):[a,b,c].foldl (λh x=>max h (1+x)) 1=max a (max b c)+1:=by show max (max (max 1 (1+a)) (1+b)) (1+c)=max a (max b c)+1;omega
theorem I6 (K n:Int) (s:List UInt8) (a:Part):(node K n s [a]).size=1+[a.size].sum:=by show a.size+0+1=1+(a.size+0);omega
theorem Uf (K n:Int) (s:List UInt8) (a b:Part):(node K n s [a,b]).size=1+[a.size,b.size].sum:=by show a.size+(b.size+0)+1=1+(a.size+(b.size+0));omega
theorem Qa7 (K n:Int) (s:List UInt8) (a b c:Part):(node K n s [a,b,c]).size=1+[a.size,b.size,c.size].sum:=by show a.size+(b.size+(c.size+0))+1=1+(a.size+(b.size+(c.size+0)));omega
theorem I5 (K n:Int) (s:List UInt8) (a:Part):(node K n s [a]).ht=[a.ht].foldl (λh x=>max h (1+x)) 1:=by rw [ht1];show max a.ht 0+1=_;omega
theorem Un (K n:Int) (s:List UInt8) (a b:Part):(node K n s [a,b]).ht=[a.ht,b.ht].foldl (λh x=>max h (1+x)) 1:=by rw [ht2];show max a.ht (max b.ht 0)+1=_;omega
theorem Qc3 (K n:Int) (s:List UInt8) (a b c:Part):(node K n s [a,b,c]).ht=[a.ht,b.ht,c.ht].foldl (λh x=>max h (1+x)) 1:=by rw [ht3];show max a.ht (max b.ht (max c.ht 0))+1=_;omega
theorem Qdz {a:Int} {e:Ex} (h:Qg l i 6 0 [] [a]) (x:XE l a e):XE l (i:Int) (.neg e):=
 h.ex (by rw [Yi,Z4,x.r];rfl) (by rw [Ex.fin];exact x.fin) (by rw [Ex.told,x.t];rfl) (by rw [Ex.size,x.z];show _=1+(sz l a.toNat+0);omega) (by rw [Ex.ht,x.h];exact (ht1 _).symm)
theorem Qbn {a:Int} {e:Ex} (h:Qg l i 7 0 [] [a]) (x:XE l a e):XE l (i:Int) (.not e):=
 h.ex (by rw [Yi,Z4,x.r];rfl) (by rw [Ex.fin];exact x.fin) (by rw [Ex.told,x.t];rfl) (by rw [Ex.size,x.z];show _=1+(sz l a.toNat+0);omega) (by rw [Ex.ht,x.h];exact (ht1 _).symm)
theorem Qe3 {a:Int} {e:Ex} (h:Qg l i 9 0 [] [a]) (x:XE l a e):XE l (i:Int) (.len e):=
 h.ex (by rw [Yi,Z4,x.r];rfl) (by rw [Ex.fin];exact x.fin) (by rw [Ex.told,x.t];rfl) (by rw [Ex.size,x.z];show _=1+(sz l a.toNat+0);omega) (by rw [Ex.ht,x.h];exact (ht1 _).symm)
theorem Qdy {a:Int} {e:Ex} (h:Qg l i 10 0 [] [a]) (x:XE l a e):XE l (i:Int) (.new e):=
 h.ex (by rw [Yi,Z4,x.r];rfl) (by rw [Ex.fin];exact x.fin) (by rw [Ex.told,x.t];rfl) (by rw [Ex.size,x.z];show _=1+(sz l a.toNat+0);omega) (by rw [Ex.ht,x.h];exact (ht1 _).symm)
theorem Qcn {op:Nat} {a b:Int} {e f:Ex} (h:Qg l i 5 (op:Int) [] [a,b]) (h1:1<=op) (h16:op<=16) (x:XE l a e) (y:XE l b f):XE l (i:Int) (.bin op e f):=
 h.ex (by rw [Yi,Yi,Z4,x.r,y.r];rfl) (by rw [Ex.fin];exact ⟨h1,h16,x.fin,y.fin⟩) (by rw [Ex.told,x.t,y.t];rfl) (by rw [Ex.size,x.z,y.z];show _=1+(sz l a.toNat+(sz l b.toNat+0));omega) (by rw [Ex.ht,x.h,y.h];exact (ht2 _ _).symm)
theorem Qg4 {a b:Int} {e f:Ex} (h:Qg l i 8 0 [] [a,b]) (x:XE l a e) (y:XE l b f):XE l (i:Int) (.index e f):=
 h.ex (by rw [Yi,Yi,Z4,x.r,y.r];rfl) (by rw [Ex.fin];exact ⟨x.fin,y.fin⟩) (by rw [Ex.told,x.t,y.t];rfl) (by rw [Ex.size,x.z,y.z];show _=1+(sz l a.toNat+(sz l b.toNat+0));omega) (by rw [Ex.ht,x.h,y.h];exact (ht2 _ _).symm)
theorem Qgn {n:Nat} (h:Qg l i 1 (n:Int) [] []) (hn:n<=9223372036854775807):XE l (i:Int) (.num n):=h.ex rfl (by rw [Ex.fin];exact hn) (by rw [Ex.told];rfl) rfl rfl
theorem Qch {b:Bool} (h:Qg l i 2 (if b then 1 else 0) [] []):XE l (i:Int) (.bool b):=h.ex (by cases b<;>rfl) (by rw [Ex.fin];trivial) (by rw [Ex.told];rfl) rfl rfl
theorem Qd2 (h:Qg l i 3 0 [] []):XE l (i:Int) .nil:=h.ex rfl (by rw [Ex.fin];trivial) (by rw [Ex.told];rfl) rfl rfl
theorem Qbf {s:List UInt8} (h:Qg l i 4 0 s []) (hs:Y6 s):XE l (i:Int) (.var s):=h.ex rfl (by rw [Ex.fin];exact hs) (by rw [Ex.told];rfl) rfl rfl
theorem Qcp {s:List UInt8} {ks:List Int} {xs:List Ex} (h:Qg l i 11 0 s ks) (hs:Y6 s) (h8:ks.length<=8) (x:Xr (XE l) ks xs):XE l (i:Int) (.call s xs):=by
 have hr:ks.map (λk=>Zv l k.toNat)=xs.map Wz.ex:=Vw x λk a ha=>ha.r;refine h.ex ?_ ?_ ?_ ?_ ?_
 ·rw [hr];show Wz.ex (.call s ((xs.map Wz.ex).map Wz.e))=_;rw [K7];congr 2;exact List.map_id' xs
 ·rw [Ex.fin,Qdb];exact ⟨hs,by rw [<-Cw x];exact h8,λa ha=>by obtain ⟨k,hk⟩:=G7 x a ha;exact hk.fin⟩
 ·rw [Ex.told,Qff,Vw x λk a ha=>ha.t.symm]
 ·rw [Ex.size,Qc8,Vw x λk a ha=>ha.z.symm,Nat.add_comm]
 ·rw [Ex.ht,Qoz,Vw x λk a ha=>ha.h.symm]
theorem Qga {s:List UInt8} {a:Int} {e:Ex} (h:Qg l i 12 0 s [a]) (hs:Y6 s) (x:XE l a e):XS l (i:Int) (.let_ s e):=
 h.st (by rw [Yi,Z4,x.r];rfl) (by rw [St.fin];exact ⟨hs,x.fin⟩) (by rw [St.told,x.t];rfl) (by rw [St.part,I6];show _=1+[sz l a.toNat].sum;rw [<-x.z];rfl) (by rw [St.part,I5];show _=[hgt l a.toNat].foldl _ 1;rw [<-x.h];rfl)
theorem Qgc {s:List UInt8} {a:Int} {e:Ex} (h:Qg l i 13 0 s [a]) (hs:Y6 s) (x:XE l a e):XS l (i:Int) (.set s e):=
 h.st (by rw [Yi,Z4,x.r];rfl) (by rw [St.fin];exact ⟨hs,x.fin⟩) (by rw [St.told,x.t];rfl) (by rw [St.part,I6];show _=1+[sz l a.toNat].sum;rw [<-x.z];rfl) (by rw [St.part,I5];show _=[hgt l a.toNat].foldl _ 1;rw [<-x.h];rfl)
theorem Qdu {a:Int} {e:Ex} (h:Qg l i 20 0 [] [a]) (x:XE l a e):XS l (i:Int) (.ret e):=
 h.st (by rw [Yi,Z4,x.r];rfl) (by rw [St.fin];exact x.fin) (by rw [St.told,x.t];rfl) (by rw [St.part,I6];show _=1+[sz l a.toNat].sum;rw [<-x.z];rfl) (by rw [St.part,I5];show _=[hgt l a.toNat].foldl _ 1;rw [<-x.h];rfl)
theorem Qdp {a:Int} {e:Ex} (h:Qg l i 21 0 [] [a]) (x:XE l a e):XS l (i:Int) (.print e):=
 h.st (by rw [Yi,Z4,x.r];rfl) (by rw [St.fin];exact x.fin) (by rw [St.told,x.t];rfl) (by rw [St.part,I6];show _=1+[sz l a.toNat].sum;rw [<-x.z];rfl) (by rw [St.part,I5];show _=[hgt l a.toNat].foldl _ 1;rw [<-x.h];rfl)
theorem Qcr {s:List UInt8} {xs:List Ex} {a:Int} (h:Qg l i 22 0 [] [a]) (x:XE l a (.call s xs)):XS l (i:Int) (.do_ s xs):=
 h.st (by rw [Yi,Z4,x.r];rfl) (by rw [St.fin];exact x.fin) (by rw [St.told,x.t];rfl) (by rw [St.part,I6];show _=1+[sz l a.toNat].sum;rw [<-x.z];rfl) (by rw [St.part,I5];show _=[hgt l a.toNat].foldl _ 1;rw [<-x.h];rfl)
theorem Qfj (h:Qg l i 18 0 [] []):XS l (i:Int) .brk:=h.st rfl (by rw [St.fin];trivial) (by rw [St.told];rfl) (by rw [St.part];rfl) (by rw [St.part];rfl)
theorem Qbl (h:Qg l i 19 0 [] []):XS l (i:Int) .cont:=h.st rfl (by rw [St.fin];trivial) (by rw [St.told];rfl) (by rw [St.part];rfl) (by rw [St.part];rfl)
theorem Qcl {s:List UInt8} {a b:Int} {e f:Ex} (h:Qg l i 14 0 s [a,b]) (hs:Y6 s) (x:XE l a e) (y:XE l b f):XS l (i:Int) (.put s e f):=
 h.st (by rw [Yi,Yi,Z4,x.r,y.r];rfl) (by rw [St.fin];exact ⟨hs,x.fin,y.fin⟩) (by rw [St.told,x.t,y.t];rfl) (by rw [St.part,Uf];show _=1+[sz l a.toNat,sz l b.toNat].sum;rw [<-x.z,<-y.z];rfl) (by rw [St.part,Un];show _=[hgt l a.toNat,hgt l b.toNat].foldl _ 1;rw [<-x.h,<-y.h];rfl)
theorem Qeg {a b:Int} {e:Ex} {f:List St} (h:Qg l i 16 0 [] [a,b]) (x:XE l a e) (y:XB l b f):XS l (i:Int) (.Kn e f):=
 h.st (by rw [Yi,Yi,Z4,x.r,y.r];rfl) (by rw [St.fin];exact ⟨x.fin,y.fin⟩) (by rw [St.told,x.t,show Ym 23 0 [] (Kg f)=Dr f from rfl,y.t];rfl) (by rw [St.part,Uf];show _=1+[sz l a.toNat,sz l b.toNat].sum;rw [<-x.z,<-y.z];rfl) (by rw [St.part,Un];show _=[hgt l a.toNat,hgt l b.toNat].foldl _ 1;rw [<-x.h,<-y.h];rfl)
theorem Qdr {a b:Int} {e:Ex} {f:List St} (h:Qg l i 15 0 [] [a,b]) (x:XE l a e) (y:XB l b f):XS l (i:Int) (.if_ e f):=
 h.st (by rw [Yi,Yi,Z4,x.r,y.r];rfl) (by rw [St.fin];exact ⟨x.fin,y.fin⟩) (by rw [St.told,x.t,show Ym 23 0 [] (Kg f)=Dr f from rfl,y.t];rfl) (by rw [St.part,Uf];show _=1+[sz l a.toNat,sz l b.toNat].sum;rw [<-x.z,<-y.z];rfl) (by rw [St.part,Un];show _=[hgt l a.toNat,hgt l b.toNat].foldl _ 1;rw [<-x.h,<-y.h];rfl)
theorem Qbu {a b c:Int} {e:Ex} {f g:List St} (h:Qg l i 15 0 [] [a,b,c]) (x:XE l a e) (y:XB l b f) (z:XB l c g):XS l (i:Int) (.Kt e f g):=
 h.st (by rw [Yi,Yi,Yi,Z4,x.r,y.r,z.r];rfl) (by rw [St.fin];exact ⟨x.fin,y.fin,z.fin⟩) (by rw [St.told,x.t,show Ym 23 0 [] (Kg f)=Dr f from rfl,show Ym 23 0 [] (Kg g)=Dr g from rfl,y.t,z.t];rfl) (by rw [St.part,Qa7];show _=1+[sz l a.toNat,sz l b.toNat,sz l c.toNat].sum;rw [<-x.z,<-y.z,<-z.z];rfl) (by rw [St.part,Qc3];show _=[hgt l a.toNat,hgt l b.toNat,hgt l c.toNat].foldl _ 1;rw [<-x.h,<-y.h,<-z.h];rfl)
theorem Qav {s:List UInt8} {a b c:Int} {e f:Ex} {g:List St} (h:Qg l i 17 0 s [a,b,c]) (hs:Y6 s) (x:XE l a e) (y:XE l b f) (z:XB l c g):XS l (i:Int) (.for_ s e f g):=
 h.st (by rw [Yi,Yi,Yi,Z4,x.r,y.r,z.r];rfl) (by rw [St.fin];exact ⟨hs,x.fin,y.fin,z.fin⟩) (by rw [St.told,x.t,y.t,show Ym 23 0 [] (Kg g)=Dr g from rfl,z.t];rfl) (by rw [St.part,Qa7];show _=1+[sz l a.toNat,sz l b.toNat,sz l c.toNat].sum;rw [<-x.z,<-y.z,<-z.z];rfl) (by rw [St.part,Qc3];show _=[hgt l a.toNat,hgt l b.toNat,hgt l c.toNat].foldl _ 1;rw [<-x.h,<-y.h,<-z.h];rfl)
theorem Qaf (K n:Int) (s:List UInt8) (ps:List Part):(node K n s ps).size=1+(ps.map Part.size).sum:=by show Y0 ps+1=_;rw [Ib];omega
theorem Qam (K n:Int) (s:List UInt8) (ps:List Part):(node K n s ps).ht=(ps.map Part.ht).foldl (λh x=>max h (1+x)) 1:=by show Dc ps+1=_;rw [Qof]
theorem Qa0 {ks:List Int} {b:List St} (h:Qg l i 23 0 [] ks) (x:Xr (XS l) ks b):XB l (i:Int) b:=by
 have hr:ks.map (λk=>Zv l k.toNat)=b.map Wz.st:=Vw x λk a ha=>ha.r;refine ⟨?_,?_,?_,?_,?_⟩
 ·show Zv l i=_;rw [h.Zv,hr];show Wz.blk ((b.map Wz.st).map Wz.s)=_;rw [K7];congr 1;exact List.map_id' b
 ·rw [Qgd];exact λa ha=>by obtain ⟨k,hk⟩:=G7 x a ha;exact hk.fin
 ·unfold Dr;show _=tx l i;rw [h.tx,Qa9,Vw x λk a ha=>ha.t.symm]
 ·show _=sz l i;unfold Ee;rw [h.sz,Qaf,U0,K7,Vw x λk a ha=>ha.z.symm];rfl
 ·show _=hgt l i;unfold Ee;rw [h.hgt,Qam,U0,K7,Vw x λk a ha=>ha.h.symm];rfl
theorem Qez {s:List UInt8} {n:Nat} (h:Qg l i 24 (n:Int) s []) (hs:Y6 s) (h1:1<=n) (h3:n<=3):XP l (i:Int) (s,n):=
 ⟨h.Zv,⟨hs,h1,h3⟩,h.tx.symm,h.sz.symm,h.hgt.symm⟩
theorem Qf8 {s:List UInt8} {n:Nat} {ks:List Int} {b:Int} {ps:List (List UInt8×Nat)} {c:List St} (h:Qg l i 25 (n:Int) s (ks++[b])) (hs:Y6 s) (h1:1<=n) (h3:n<=3) (h8:ks.length<=8) (x:Xr (XP l) ks ps) (y:XB l b c):XF l (i:Int) ⟨s,ps,n,c⟩:=by
 have hr:(ks++[b]).map (λk=>Zv l k.toNat)=ps.map Wz.par++[.blk c]:=by rw [J9,Vw x λk a ha=>ha.r,Yi,Z4,y.r]
 refine ⟨?_,⟨hs,λp hp=>by obtain ⟨k,hk⟩:=G7 x p hp;exact hk.fin,by rw [<-Cw x];exact h8,h1,h3,y.fin⟩,?_,?_,?_⟩
 ·show Zv l i=_;rw [h.Zv,hr];show Wz.fn ⟨s,(ps.map Wz.par++[Wz.blk c]).dropLast.map Wz.p,n,(Zg (ps.map Wz.par++[Wz.blk c]) ((ps.map Wz.par++[Wz.blk c]).length-1)).b⟩=_;rw [List.dropLast_concat,K7];have e1:ps.map (Wz.p∘Wz.par)=ps:=List.map_id' ps;have e2:Zg (ps.map Wz.par++[Wz.blk c]) ((ps.map Wz.par++[Wz.blk c]).length-1)= .blk c:=by unfold Zg;rw [Yh,H8 (by rw [Qd];simp)];simp
  rw [e1,e2];rfl
 ·unfold Wd.told;show _=tx l i;rw [h.tx,J9,Vw x λk a ha=>ha.t.symm,Yi,Z4,y.t]
 ·show _=sz l i;unfold Wd.part Wd.parts;rw [h.sz,Qaf,J9,J9,K7,Vw x λk a ha=>ha.z.symm,Yi,Z4,Yi,Z4,y.z];rfl
 ·show _=hgt l i;unfold Wd.part Wd.parts;rw [h.hgt,Qam,J9,J9,K7,Vw x λk a ha=>ha.h.symm,Yi,Z4,Yi,Z4,y.h];rfl
theorem Qfz {ks:List Int} {fs:List Wd} (h:Qg l i 26 0 [] ks) (h2:ks.length<=200) (x:Xr (XF l) ks fs):XR l (i:Int) fs:=by
 have hr:ks.map (λk=>Zv l k.toNat)=fs.map Wz.fn:=Vw x λk a ha=>ha.r;refine ⟨?_,⟨λf hf=>by obtain ⟨k,hk⟩:=G7 x f hf;exact hk.fin,by rw [<-Cw x];exact h2⟩,?_,?_,?_⟩
 ·show Zv l i=_;rw [h.Zv,hr];show Wz.pr ((fs.map Wz.fn).map Wz.f)=_;rw [K7];congr 1;exact List.map_id' fs
 ·unfold Qcd;show _=tx l i;rw [h.tx,Vw x λk a ha=>ha.t.symm]
 ·show _=sz l i;unfold Dv;rw [h.sz,Qaf,K7,Vw x λk a ha=>ha.z.symm];rfl
 ·show _=hgt l i;unfold Dv;rw [h.hgt,Qam,K7,Vw x λk a ha=>ha.h.symm];rfl
end
section
variable {l:List Nd}{i:Nat}{k:Int}
theorem Ke {K:Int} (h:Qt K=true):1<=K/\K<=11:=by unfold Qt at h;simpa using h
theorem Aa {K:Int} (h:Y9 K=true):12<=K/\K<=22:=by unfold Y9 at h;simpa using h
theorem Jw.Ap {e:Ex} (hk:Qt (nd l i).kind=true) (hx:XE l i e) (h11:(nd l i).kind=11-> ∃s xs,e= .call s xs):Jw l i where
 ex:=λ_=>⟨e,hx,h11⟩
 st:=λh=>by have:=Ke hk;have:=Aa h;omega
 blk:=λh=>by have:=Ke hk;omega
 par:=λh=>by have:=Ke hk;omega
 fn:=λh=>by have:=Ke hk;omega
 pr:=λh=>by have:=Ke hk;omega
theorem Jw.mkS {e:St} (hk:Y9 (nd l i).kind=true) (hx:XS l i e):Jw l i where
 ex:=λh=>by have:=Aa hk;have:=Ke h;omega
 st:=λh=>⟨e,hx⟩
 blk:=λh=>by have:=Aa hk;omega
 par:=λh=>by have:=Aa hk;omega
 fn:=λh=>by have:=Aa hk;omega
 pr:=λh=>by have:=Aa hk;omega
theorem Jw.mkB {e:List St} (hk:(nd l i).kind=23) (hx:XB l i e):Jw l i where
 ex:=λh=>by have:=Ke h;omega
 st:=λh=>by have:=Aa h;omega
 blk:=λh=>⟨e,hx⟩
 par:=λh=>by omega
 fn:=λh=>by omega
 pr:=λh=>by omega
theorem Jw.Te {e:List UInt8×Nat} (hk:(nd l i).kind=24) (hx:XP l i e):Jw l i where
 ex:=λh=>by have:=Ke h;omega
 st:=λh=>by have:=Aa h;omega
 blk:=λh=>by omega
 par:=λh=>⟨e,hx⟩
 fn:=λh=>by omega
 pr:=λh=>by omega
theorem Jw.mkF {e:Wd} (hk:(nd l i).kind=25) (hx:XF l i e):Jw l i where
 ex:=λh=>by have:=Ke h;omega
 st:=λh=>by have:=Aa h;omega
 blk:=λh=>by omega
 par:=λh=>by omega
 fn:=λh=>⟨e,hx⟩
 pr:=λh=>by omega
theorem Jw.mkR {e:List Wd} (hk:(nd l i).kind=26) (hx:XR l i e):Jw l i where
 ex:=λh=>by have:=Ke h;omega
 st:=λh=>by have:=Aa h;omega
 blk:=λh=>by omega
 par:=λh=>by omega
 fn:=λh=>by omega
 pr:=λh=>⟨e,hx⟩
theorem Qat {n:Int} (h:Ko 2 n=true): ∃b:Bool,n=if b then 1 else 0:=by
 have h:(decide (n=0)||decide (n=1))=true:=h;rw [Bool.or_eq_true,Qu,Qu]at h;rcases h with h |h
 ·exact ⟨false,h⟩
 ·exact ⟨true,h⟩
theorem Dj {n:Int} (h:0<=n): ∃m:Nat,n=(m:Int):=⟨n.toNat,by omega⟩
theorem is9 (hA:Ahead l) (hF:Fits l) (hN: ∀j,j<l.length->(nd l j).n<=9223372036854775807): ∀N i,i<N->i<l.length->Jw l i:=by
 intro N
 induction N with
 |zero=>intro i h;omega
 |succ N ih=>
  intro i Cv hi;have hfit:=hF i hi;unfold Xc at hfit;rw [Q7]at hfit;obtain ⟨hown,Qx⟩:=hfit;have Vb: ∀k∈(nd l i).kids,Jw l k.toNat:=λk hk=>by have:=hA i hi k hk;exact ih k.toNat (by omega) (by omega)
  have kE: ∀k∈(nd l i).kids,Qt (Qz l k)=true-> ∃e,XE l k e:=λk hk h=>by obtain ⟨e,he,_⟩:=(Vb k hk).ex h;exact ⟨e,he.of⟩
  have kS: ∀k∈(nd l i).kids,Y9 (Qz l k)=true-> ∃e,XS l k e:=λk hk h=>by obtain ⟨e,he⟩:=(Vb k hk).st h;exact ⟨e,he.of⟩
  have kB: ∀k∈(nd l i).kids,Qz l k=23-> ∃e,XB l k e:=λk hk h=>by obtain ⟨e,he⟩:=(Vb k hk).blk h;exact ⟨e,he.of⟩
  obtain ⟨hK1,Qtd⟩:=Qrw hown;have mk: ∀{K n:Int} {s:List UInt8} {ks:List Int},(nd l i).kind=K->(nd l i).n=n->(nd l i).t=s->(nd l i).kids=ks->Qg l i K n s ks:=λa b c d=>⟨hA,hi,a,b,c,d⟩;have hcases:(nd l i).kind=1\/(nd l i).kind=2\/(nd l i).kind=3\/(nd l i).kind=4\/(nd l i).kind=5\/(nd l i).kind=6\/(nd l i).kind=7\/(nd l i).kind=8\/(nd l i).kind=9\/(nd l i).kind=10\/(nd l i).kind=11\/(nd l i).kind=12\/(nd l i).kind=13\/(nd l i).kind=14\/(nd l i).kind=15\/(nd l i).kind=16\/(nd l i).kind=17\/(nd l i).kind=18\/(nd l i).kind=19\/(nd l i).kind=20\/(nd l i).kind=21\/(nd l i).kind=22\/(nd l i).kind=23\/(nd l i).kind=24\/(nd l i).kind=25\/(nd l i).kind=26:=by omega
  rcases hcases with hK |hK |hK |hK |hK |hK |hK |hK |hK |hK |hK |hK |hK |hK |hK |hK |hK |hK |hK |hK |hK |hK |hK |hK |hK |hK
  ·have ek:=Jz (K:=1) (by decide) (by rw [<-hK];exact Qx);have es:=Yy hown hK (K:=1) rfl;have hn:=K8 hown hK;obtain ⟨m,em⟩:=Dj (of_decide_eq_true (show decide (0<=(nd l i).n)=true from hn));have hm:=hN i hi;exact .Ap (by rw [hK];rfl) (Qgn (mk hK em es ek) (by omega)) (λh=>by rw [hK]at h;exact absurd h (by decide))
  ·have ek:=Jz (K:=2) (by decide) (by rw [<-hK];exact Qx);have es:=Yy hown hK (K:=2) rfl;obtain ⟨b,eb⟩:=Qat (K8 hown hK);exact .Ap (by rw [hK];rfl) (Qch (mk hK eb es ek)) (λh=>by rw [hK]at h;exact absurd h (by decide))
  ·have ek:=Jz (K:=3) (by decide) (by rw [<-hK];exact Qx);have es:=Yy hown hK (K:=3) rfl;have en:=Yk hown hK (K:=3) (λn=>rfl);exact .Ap (by rw [hK];rfl) (Qd2 (mk hK en es ek)) (λh=>by rw [hK]at h;exact absurd h (by decide))
  ·have ek:=Jz (K:=4) (by decide) (by rw [<-hK];exact Qx);have hs:=Vx hown hK (K:=4) rfl;have en:=Yk hown hK (K:=4) (λn=>rfl);exact .Ap (by rw [hK];rfl) (Qbf (mk hK en rfl ek) hs) (λh=>by rw [hK]at h;exact absurd h (by decide))
  ·obtain ⟨a,b,ek,ha,hb⟩:=F6 (K:=5) (by decide) (by rw [<-hK];exact Qx);obtain ⟨xa,hxa⟩:=kE a (by rw [ek];simp) ha;obtain ⟨xb,hxb⟩:=kE b (by rw [ek];simp) hb;have es:=Yy hown hK (K:=5) rfl;have hn:(decide (1<=(nd l i).n)&&decide ((nd l i).n<=16))=true:=K8 hown hK;rw [Q7,Qu,Qu]at hn;obtain ⟨m,em⟩:=Dj (show 0<=(nd l i).n by omega);exact .Ap (by rw [hK];rfl) (Qcn (mk hK em es ek) (by omega) (by omega) hxa hxb) (λh=>by rw [hK]at h;exact absurd h (by decide))
  ·obtain ⟨a,ek,ha⟩:=V6 (K:=6) (by decide) (by rw [<-hK];exact Qx);obtain ⟨xa,hxa⟩:=kE a (by rw [ek];simp) ha;have es:=Yy hown hK (K:=6) rfl;have en:=Yk hown hK (K:=6) (λn=>rfl);exact .Ap (by rw [hK];rfl) (Qdz (mk hK en es ek) hxa) (λh=>by rw [hK]at h;exact absurd h (by decide))
  ·obtain ⟨a,ek,ha⟩:=V6 (K:=7) (by decide) (by rw [<-hK];exact Qx);obtain ⟨xa,hxa⟩:=kE a (by rw [ek];simp) ha;have es:=Yy hown hK (K:=7) rfl;have en:=Yk hown hK (K:=7) (λn=>rfl);exact .Ap (by rw [hK];rfl) (Qbn (mk hK en es ek) hxa) (λh=>by rw [hK]at h;exact absurd h (by decide))
  ·obtain ⟨a,b,ek,ha,hb⟩:=F6 (K:=8) (by decide) (by rw [<-hK];exact Qx);obtain ⟨xa,hxa⟩:=kE a (by rw [ek];simp) ha;obtain ⟨xb,hxb⟩:=kE b (by rw [ek];simp) hb;have es:=Yy hown hK (K:=8) rfl;have en:=Yk hown hK (K:=8) (λn=>rfl);exact .Ap (by rw [hK];rfl) (Qg4 (mk hK en es ek) hxa hxb) (λh=>by rw [hK]at h;exact absurd h (by decide))
  ·obtain ⟨a,ek,ha⟩:=V6 (K:=9) (by decide) (by rw [<-hK];exact Qx);obtain ⟨xa,hxa⟩:=kE a (by rw [ek];simp) ha;have es:=Yy hown hK (K:=9) rfl;have en:=Yk hown hK (K:=9) (λn=>rfl);exact .Ap (by rw [hK];rfl) (Qe3 (mk hK en es ek) hxa) (λh=>by rw [hK]at h;exact absurd h (by decide))
  ·obtain ⟨a,ek,ha⟩:=V6 (K:=10) (by decide) (by rw [<-hK];exact Qx);obtain ⟨xa,hxa⟩:=kE a (by rw [ek];simp) ha;have es:=Yy hown hK (K:=10) rfl;have en:=Yk hown hK (K:=10) (λn=>rfl);exact .Ap (by rw [hK];rfl) (Qdy (mk hK en es ek) hxa) (λh=>by rw [hK]at h;exact absurd h (by decide))
  ·obtain ⟨h8,ha⟩:=Qgr (by rw [<-hK];exact Qx);have hs:=Vx hown hK (K:=11) rfl;have en:=Yk hown hK (K:=11) (λn=>rfl);obtain ⟨xs,hxs⟩:=Ck _ λk hk=>kE k hk (ha k hk);exact .Ap (by rw [hK];rfl) (Qcp (mk hK en rfl rfl) hs h8 hxs) (λ_=>⟨_,_,rfl⟩)
  ·obtain ⟨a,ek,ha⟩:=V6 (K:=12) (by decide) (by rw [<-hK];exact Qx);obtain ⟨xa,hxa⟩:=kE a (by rw [ek];simp) ha;have hs:=Vx hown hK (K:=12) rfl;have en:=Yk hown hK (K:=12) (λn=>rfl);exact .mkS (by rw [hK];rfl) (Qga (mk hK en rfl ek) hs hxa)
  ·obtain ⟨a,ek,ha⟩:=V6 (K:=13) (by decide) (by rw [<-hK];exact Qx);obtain ⟨xa,hxa⟩:=kE a (by rw [ek];simp) ha;have hs:=Vx hown hK (K:=13) rfl;have en:=Yk hown hK (K:=13) (λn=>rfl);exact .mkS (by rw [hK];rfl) (Qgc (mk hK en rfl ek) hs hxa)
  ·obtain ⟨a,b,ek,ha,hb⟩:=F6 (K:=14) (by decide) (by rw [<-hK];exact Qx);obtain ⟨xa,hxa⟩:=kE a (by rw [ek];simp) ha;obtain ⟨xb,hxb⟩:=kE b (by rw [ek];simp) hb;have hs:=Vx hown hK (K:=14) rfl;have en:=Yk hown hK (K:=14) (λn=>rfl);exact .mkS (by rw [hK];rfl) (Qcl (mk hK en rfl ek) hs hxa hxb)
  ·have es:=Yy hown hK (K:=15) rfl;have en:=Yk hown hK (K:=15) (λn=>rfl);rcases Qfw (by rw [<-hK];exact Qx)with ⟨a,b,ek,ha,hb⟩ |⟨a,b,c,ek,ha,hb,hc⟩
   ·obtain ⟨xa,hxa⟩:=kE a (by rw [ek];simp) ha;obtain ⟨xb,hxb⟩:=kB b (by rw [ek];simp) hb;exact .mkS (by rw [hK];rfl) (Qdr (mk hK en es ek) hxa hxb)
   ·obtain ⟨xa,hxa⟩:=kE a (by rw [ek];simp) ha;obtain ⟨xb,hxb⟩:=kB b (by rw [ek];simp) hb;obtain ⟨xc,hxc⟩:=kB c (by rw [ek];simp) hc;exact .mkS (by rw [hK];rfl) (Qbu (mk hK en es ek) hxa hxb hxc)
  ·obtain ⟨a,b,ek,ha,hb⟩:=Qgo (by rw [<-hK];exact Qx);obtain ⟨xa,hxa⟩:=kE a (by rw [ek];simp) ha;obtain ⟨xb,hxb⟩:=kB b (by rw [ek];simp) hb;have es:=Yy hown hK (K:=16) rfl;have en:=Yk hown hK (K:=16) (λn=>rfl);exact .mkS (by rw [hK];rfl) (Qeg (mk hK en es ek) hxa hxb)
  ·obtain ⟨a,b,c,ek,ha,hb,hc⟩:=Qbg (by rw [<-hK];exact Qx);obtain ⟨xa,hxa⟩:=kE a (by rw [ek];simp) ha;obtain ⟨xb,hxb⟩:=kE b (by rw [ek];simp) hb;obtain ⟨xc,hxc⟩:=kB c (by rw [ek];simp) hc;have hs:=Vx hown hK (K:=17) rfl;have en:=Yk hown hK (K:=17) (λn=>rfl);exact .mkS (by rw [hK];rfl) (Qav (mk hK en rfl ek) hs hxa hxb hxc)
  ·have ek:=Jz (K:=18) (by decide) (by rw [<-hK];exact Qx);have es:=Yy hown hK (K:=18) rfl;have en:=Yk hown hK (K:=18) (λn=>rfl);exact .mkS (by rw [hK];rfl) (Qfj (mk hK en es ek))
  ·have ek:=Jz (K:=19) (by decide) (by rw [<-hK];exact Qx);have es:=Yy hown hK (K:=19) rfl;have en:=Yk hown hK (K:=19) (λn=>rfl);exact .mkS (by rw [hK];rfl) (Qbl (mk hK en es ek))
  ·obtain ⟨a,ek,ha⟩:=V6 (K:=20) (by decide) (by rw [<-hK];exact Qx);obtain ⟨xa,hxa⟩:=kE a (by rw [ek];simp) ha;have es:=Yy hown hK (K:=20) rfl;have en:=Yk hown hK (K:=20) (λn=>rfl);exact .mkS (by rw [hK];rfl) (Qdu (mk hK en es ek) hxa)
  ·obtain ⟨a,ek,ha⟩:=V6 (K:=21) (by decide) (by rw [<-hK];exact Qx);obtain ⟨xa,hxa⟩:=kE a (by rw [ek];simp) ha;have es:=Yy hown hK (K:=21) rfl;have en:=Yk hown hK (K:=21) (λn=>rfl);exact .mkS (by rw [hK];rfl) (Qdp (mk hK en es ek) hxa)
  ·obtain ⟨a,ek,ha⟩:=Qfc (by rw [<-hK];exact Qx);have es:=Yy hown hK (K:=22) rfl;have en:=Yk hown hK (K:=22) (λn=>rfl);obtain ⟨e,he,h11⟩:=(Vb a (by rw [ek];simp)).ex (by show Qt (Qz l a)=true;rw [ha];rfl);obtain ⟨s,xs,rfl⟩:=h11 ha;exact .mkS (by rw [hK];rfl) (Qcr (mk hK en es ek) he.of)
  ·have ha:=Qaq (by rw [<-hK];exact Qx);have es:=Yy hown hK (K:=23) rfl;have en:=Yk hown hK (K:=23) (λn=>rfl);obtain ⟨xs,hxs⟩:=Ck _ λk hk=>kS k hk (ha k hk);exact .mkB hK (Qa0 (mk hK en es rfl) hxs)
  ·have ek:=Jz (K:=24) (by decide) (by rw [<-hK];exact Qx);have hs:=Vx hown hK (K:=24) rfl;have hn:(decide (1<=(nd l i).n)&&decide ((nd l i).n<=3))=true:=K8 hown hK;rw [Q7,Qu,Qu]at hn;obtain ⟨m,em⟩:=Dj (show 0<=(nd l i).n by omega);exact .Te hK (Qez (mk hK em rfl ek) hs (by omega) (by omega))
  ·obtain ⟨ps,b,ek,h8,ha,hb⟩:=Qe7 (by rw [<-hK];exact Qx);have hs:=Vx hown hK (K:=25) rfl;have hn:(decide (1<=(nd l i).n)&&decide ((nd l i).n<=3))=true:=K8 hown hK;rw [Q7,Qu,Qu]at hn;obtain ⟨m,em⟩:=Dj (show 0<=(nd l i).n by omega);obtain ⟨xb,hxb⟩:=kB b (by rw [ek];simp) hb;obtain ⟨xs,hxs⟩:=Ck (P:=XP l) ps λk hk=>by obtain ⟨e,he⟩:=(Vb k (by rw [ek];exact List.mem_append_left _ hk)).par (ha k hk);exact ⟨e,he.of⟩
   exact .mkF hK (Qf8 (mk hK em rfl ek) hs (by omega) (by omega) h8 hxs hxb)
  ·obtain ⟨h2,ha⟩:=Qew (by rw [<-hK];exact Qx);have es:=Yy hown hK (K:=26) rfl;have en:=Yk hown hK (K:=26) (λn=>rfl);obtain ⟨xs,hxs⟩:=Ck (P:=XF l) _ λk hk=>by obtain ⟨e,he⟩:=(Vb k hk).fn (ha k hk);exact ⟨e,he.of⟩
   exact .mkR hK (Qfz (mk hK en es rfl) h2 hxs)
end
end Go.Proofs.YtdncpkkhkbijfaaDoor
