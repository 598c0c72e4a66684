import Derived.Test.YtdncpkkhkbijfaaGreatDoorBa29
open Go.Proofs.Tryz
set_option linter.all false
set_option maxHeartbeats 0
set_option maxRecDepth 100000
namespace Go.Proofs.YtdncpkkhkbijfaaGreatDoor
section
variable {l:List Nd}{i:Nat}{k:Int}
structure Wz (l:List Nd):Prop where
 hA:Ahead l
 hF:Fits l
 hN: ∀j,j<l.length->(nd l j).n<=9223372036854775807
theorem Wz.of (hR:Rt l) (hN: ∀j,j<l.length->(nd l j).n<=9223372036854775807):Wz l:=⟨hR.1.2.1,hR.2.1,hN⟩
theorem Wz.is (H:Wz l) (hi:i<l.length):Il l i:=is9 H.hA H.hF H.hN (i+1) i (by omega) hi
theorem Wz.fit (H:Wz l) (hi:i<l.length):ownB (nd l i)=true/\Y9 (nd l i).kind (kk l (nd l i))=true:=by have h:=H.hF i hi;unfold J7 at h;rw [Yo]at h;exact h
theorem Wz.kid (H:Wz l) (hi:i<l.length) (hk:k∈(nd l i).kids):0<=k/\k<(i:Int):=H.hA i hi k hk
theorem Wz.kE (H:Wz l) (hi:i<l.length) (hk:k∈(nd l i).kids) (h:Q6 (Yp l k)=true): ∃e,XE l k e:=by have:=H.kid hi hk;obtain ⟨e,he,_⟩:=(H.is (i:=k.toNat) (by omega)).ex h;exact ⟨e,he.of⟩
theorem Wz.kS (H:Wz l) (hi:i<l.length) (hk:k∈(nd l i).kids) (h:Jv (Yp l k)=true): ∃e,XS l k e:=by have:=H.kid hi hk;obtain ⟨e,he⟩:=(H.is (i:=k.toNat) (by omega)).st h;exact ⟨e,he.of⟩
theorem Wz.kB (H:Wz l) (hi:i<l.length) (hk:k∈(nd l i).kids) (h:Yp l k=23): ∃e,XB l k e:=by have:=H.kid hi hk;obtain ⟨e,he⟩:=(H.is (i:=k.toNat) (by omega)).blk h;exact ⟨e,he.of⟩
theorem Wz.kP (H:Wz l) (hi:i<l.length) (hk:k∈(nd l i).kids) (h:Yp l k=24): ∃e,XP l k e:=by have:=H.kid hi hk;obtain ⟨e,he⟩:=(H.is (i:=k.toNat) (by omega)).par h;exact ⟨e,he.of⟩
theorem Wz.kF (H:Wz l) (hi:i<l.length) (hk:k∈(nd l i).kids) (h:Yp l k=25): ∃e,XF l k e:=by have:=H.kid hi hk;obtain ⟨e,he⟩:=(H.is (i:=k.toNat) (by omega)).fn h;exact ⟨e,he.of⟩
theorem XE.one {e f:Ex} (h:XE l k e) (g:XE l k f):e=f:=by have:=h.r.symm.trans g.r;injection this
theorem XS.one {e f:St} (h:XS l k e) (g:XS l k f):e=f:=by have:=h.r.symm.trans g.r;injection this
theorem XB.one {e f:List St} (h:XB l k e) (g:XB l k f):e=f:=by have:=h.r.symm.trans g.r;injection this
theorem XP.one {e f:List UInt8×Nat} (h:XP l k e) (g:XP l k f):e=f:=by have:=h.r.symm.trans g.r;injection this
theorem XF.one {e f:Wm} (h:XF l k e) (g:XF l k f):e=f:=by have:=h.r.symm.trans g.r;injection this
theorem XR.one {e f:List Wm} (h:XR l k e) (g:XR l k f):e=f:=by have:=h.r.symm.trans g.r;injection this
theorem Wz.k1 (H:Wz l) (hi:i<l.length) (hK:(nd l i).kind=1): ∃m:Nat,Qv l i 1 (m:Int) [] []/\XE l i (.num m):=by obtain ⟨hown,Yg⟩:=H.fit hi;have ek:=Ma (K:=1) (by decide) (by rw [<-hK];exact Yg);have es:=Xw hown hK (K:=1) rfl;have hn:=Oz hown hK;obtain ⟨m,em⟩:=Qb4 (of_decide_eq_true (show decide (0<=(nd l i).n)=true from hn));have hm:=H.hN i hi;have hat:Qv l i _ _ _ _:=⟨H.hA,hi,hK,em,es,ek⟩;exact ⟨m,hat,Qzj hat (by omega)⟩
theorem Wz.k2 (H:Wz l) (hi:i<l.length) (hK:(nd l i).kind=2): ∃b:Bool,Qv l i 2 (if b then 1 else 0) [] []/\XE l i (.bool b):=by obtain ⟨hown,Yg⟩:=H.fit hi;have ek:=Ma (K:=2) (by decide) (by rw [<-hK];exact Yg);have es:=Xw hown hK (K:=2) rfl;obtain ⟨b,eb⟩:=Q7l (Oz hown hK);have hat:Qv l i _ _ _ _:=⟨H.hA,hi,hK,eb,es,ek⟩;exact ⟨b,hat,Q0p hat⟩
theorem Wz.k3 (H:Wz l) (hi:i<l.length) (hK:(nd l i).kind=3):Qv l i 3 0 [] []/\XE l i .nil:=by obtain ⟨hown,Yg⟩:=H.fit hi;have ek:=Ma (K:=3) (by decide) (by rw [<-hK];exact Yg);have es:=Xw hown hK (K:=3) rfl;have en:=Z0 hown hK (K:=3) (λn=>rfl);have hat:Qv l i _ _ _ _:=⟨H.hA,hi,hK,en,es,ek⟩;exact ⟨hat,Qwf hat⟩
theorem Wz.k4 (H:Wz l) (hi:i<l.length) (hK:(nd l i).kind=4): ∃s,X0 s/\Qv l i 4 0 s []/\XE l i (.var s):=by obtain ⟨hown,Yg⟩:=H.fit hi;have ek:=Ma (K:=4) (by decide) (by rw [<-hK];exact Yg);have hs:=He hown hK (K:=4) rfl;have en:=Z0 hown hK (K:=4) (λn=>rfl);have hat:Qv l i _ _ _ _:=⟨H.hA,hi,hK,en,rfl,ek⟩;exact ⟨_,hs,hat,Q2w hat hs⟩
theorem Wz.k5 (H:Wz l) (hi:i<l.length) (hK:(nd l i).kind=5): ∃(op:Nat) (a b:Int) (x y:Ex),1<=op/\op<=16/\Qv l i 5 (op:Int) [] [a,b]/\Q6 (Yp l a)=true/\Q6 (Yp l b)=true/\XE l a x/\XE l b y/\XE l i (.bin op x y):=by obtain ⟨hown,Yg⟩:=H.fit hi;obtain ⟨a,b,ek,ha,hb⟩:=Qf8 (K:=5) (by decide) (by rw [<-hK];exact Yg);obtain ⟨xa,hxa⟩:=H.kE hi (k:=a) (by rw [ek];simp) ha;obtain ⟨xb,hxb⟩:=H.kE hi (k:=b) (by rw [ek];simp) hb;have es:=Xw hown hK (K:=5) rfl;have hn:(decide (1<=(nd l i).n)&&decide ((nd l i).n<=16))=true:=Oz hown hK;rw [Yo,Wt,Wt]at hn;obtain ⟨m,em⟩:=Qb4 (show 0<=(nd l i).n by omega);have hat:Qv l i _ _ _ _:=⟨H.hA,hi,hK,em,es,ek⟩;exact ⟨m,a,b,xa,xb,by omega,by omega,hat,ha,hb,hxa,hxb,Qxd hat (by omega) (by omega) hxa hxb⟩
theorem Wz.k6 (H:Wz l) (hi:i<l.length) (hK:(nd l i).kind=6): ∃(a:Int) (x:Ex),Qv l i 6 0 [] [a]/\Q6 (Yp l a)=true/\XE l a x/\XE l i (.neg x):=by obtain ⟨hown,Yg⟩:=H.fit hi;obtain ⟨a,ek,ha⟩:=Gs (K:=6) (by decide) (by rw [<-hK];exact Yg);obtain ⟨xa,hxa⟩:=H.kE hi (k:=a) (by rw [ek];simp) ha;have es:=Xw hown hK (K:=6) rfl;have en:=Z0 hown hK (K:=6) (λn=>rfl);have hat:Qv l i _ _ _ _:=⟨H.hA,hi,hK,en,es,ek⟩;exact ⟨a,xa,hat,ha,hxa,Qxw hat hxa⟩
theorem Wz.k7 (H:Wz l) (hi:i<l.length) (hK:(nd l i).kind=7): ∃(a:Int) (x:Ex),Qv l i 7 0 [] [a]/\Q6 (Yp l a)=true/\XE l a x/\XE l i (.not x):=by obtain ⟨hown,Yg⟩:=H.fit hi;obtain ⟨a,ek,ha⟩:=Gs (K:=7) (by decide) (by rw [<-hK];exact Yg);obtain ⟨xa,hxa⟩:=H.kE hi (k:=a) (by rw [ek];simp) ha;have es:=Xw hown hK (K:=7) rfl;have en:=Z0 hown hK (K:=7) (λn=>rfl);have hat:Qv l i _ _ _ _:=⟨H.hA,hi,hK,en,es,ek⟩;exact ⟨a,xa,hat,ha,hxa,Q10 hat hxa⟩
theorem Wz.k9 (H:Wz l) (hi:i<l.length) (hK:(nd l i).kind=9): ∃(a:Int) (x:Ex),Qv l i 9 0 [] [a]/\Q6 (Yp l a)=true/\XE l a x/\XE l i (.len x):=by obtain ⟨hown,Yg⟩:=H.fit hi;obtain ⟨a,ek,ha⟩:=Gs (K:=9) (by decide) (by rw [<-hK];exact Yg);obtain ⟨xa,hxa⟩:=H.kE hi (k:=a) (by rw [ek];simp) ha;have es:=Xw hown hK (K:=9) rfl;have en:=Z0 hown hK (K:=9) (λn=>rfl);have hat:Qv l i _ _ _ _:=⟨H.hA,hi,hK,en,es,ek⟩;exact ⟨a,xa,hat,ha,hxa,Qyu hat hxa⟩
theorem Wz.k10 (H:Wz l) (hi:i<l.length) (hK:(nd l i).kind=10): ∃(a:Int) (x:Ex),Qv l i 10 0 [] [a]/\Q6 (Yp l a)=true/\XE l a x/\XE l i (.new x):=by obtain ⟨hown,Yg⟩:=H.fit hi;obtain ⟨a,ek,ha⟩:=Gs (K:=10) (by decide) (by rw [<-hK];exact Yg);obtain ⟨xa,hxa⟩:=H.kE hi (k:=a) (by rw [ek];simp) ha;have es:=Xw hown hK (K:=10) rfl;have en:=Z0 hown hK (K:=10) (λn=>rfl);have hat:Qv l i _ _ _ _:=⟨H.hA,hi,hK,en,es,ek⟩;exact ⟨a,xa,hat,ha,hxa,Q34 hat hxa⟩
theorem Wz.k8 (H:Wz l) (hi:i<l.length) (hK:(nd l i).kind=8): ∃(a b:Int) (x y:Ex),Qv l i 8 0 [] [a,b]/\Q6 (Yp l a)=true/\Q6 (Yp l b)=true/\XE l a x/\XE l b y/\XE l i (.index x y):=by obtain ⟨hown,Yg⟩:=H.fit hi;obtain ⟨a,b,ek,ha,hb⟩:=Qf8 (K:=8) (by decide) (by rw [<-hK];exact Yg);obtain ⟨xa,hxa⟩:=H.kE hi (k:=a) (by rw [ek];simp) ha;obtain ⟨xb,hxb⟩:=H.kE hi (k:=b) (by rw [ek];simp) hb;have es:=Xw hown hK (K:=8) rfl;have en:=Z0 hown hK (K:=8) (λn=>rfl);have hat:Qv l i _ _ _ _:=⟨H.hA,hi,hK,en,es,ek⟩;exact ⟨a,b,xa,xb,hat,ha,hb,hxa,hxb,Qw3 hat hxa hxb⟩
theorem Wz.k11 (H:Wz l) (hi:i<l.length) (hK:(nd l i).kind=11): ∃(s:List UInt8) (ks:List Int) (xs:List Ex),X0 s/\ks.length<=8/\Qv l i 11 0 s ks/\(∀k∈ks,Q6 (Yp l k)=true)/\Gc (XE l) ks xs/\XE l i (.call s xs):=by obtain ⟨hown,Yg⟩:=H.fit hi;obtain ⟨h8,ha⟩:=Q5m (by rw [<-hK];exact Yg);have hs:=He hown hK (K:=11) rfl;have en:=Z0 hown hK (K:=11) (λn=>rfl);obtain ⟨xs,hxs⟩:=Qab _ λk hk=>H.kE hi hk (ha k hk);have hat:Qv l i _ _ _ _:=⟨H.hA,hi,hK,en,rfl,rfl⟩;exact ⟨_,_,xs,hs,h8,hat,ha,hxs,Q1i hat hs h8 hxs⟩
theorem Wz.k12 (H:Wz l) (hi:i<l.length) (hK:(nd l i).kind=12): ∃(s:List UInt8) (a:Int) (x:Ex),X0 s/\Qv l i 12 0 s [a]/\Q6 (Yp l a)=true/\XE l a x/\XS l i (.let_ s x):=by obtain ⟨hown,Yg⟩:=H.fit hi;obtain ⟨a,ek,ha⟩:=Gs (K:=12) (by decide) (by rw [<-hK];exact Yg);obtain ⟨xa,hxa⟩:=H.kE hi (k:=a) (by rw [ek];simp) ha;have hs:=He hown hK (K:=12) rfl;have en:=Z0 hown hK (K:=12) (λn=>rfl);have hat:Qv l i _ _ _ _:=⟨H.hA,hi,hK,en,rfl,ek⟩;exact ⟨_,a,xa,hs,hat,ha,hxa,Qxh hat hs hxa⟩
theorem Wz.k13 (H:Wz l) (hi:i<l.length) (hK:(nd l i).kind=13): ∃(s:List UInt8) (a:Int) (x:Ex),X0 s/\Qv l i 13 0 s [a]/\Q6 (Yp l a)=true/\XE l a x/\XS l i (.set s x):=by obtain ⟨hown,Yg⟩:=H.fit hi;obtain ⟨a,ek,ha⟩:=Gs (K:=13) (by decide) (by rw [<-hK];exact Yg);obtain ⟨xa,hxa⟩:=H.kE hi (k:=a) (by rw [ek];simp) ha;have hs:=He hown hK (K:=13) rfl;have en:=Z0 hown hK (K:=13) (λn=>rfl);have hat:Qv l i _ _ _ _:=⟨H.hA,hi,hK,en,rfl,ek⟩;exact ⟨_,a,xa,hs,hat,ha,hxa,Q3u hat hs hxa⟩
theorem Wz.k14 (H:Wz l) (hi:i<l.length) (hK:(nd l i).kind=14): ∃(s:List UInt8) (a b:Int) (x y:Ex),X0 s/\Qv l i 14 0 s [a,b]/\Q6 (Yp l a)=true/\Q6 (Yp l b)=true/\XE l a x/\XE l b y/\XS l i (.put s x y):=by obtain ⟨hown,Yg⟩:=H.fit hi;obtain ⟨a,b,ek,ha,hb⟩:=Qf8 (K:=14) (by decide) (by rw [<-hK];exact Yg);obtain ⟨xa,hxa⟩:=H.kE hi (k:=a) (by rw [ek];simp) ha;obtain ⟨xb,hxb⟩:=H.kE hi (k:=b) (by rw [ek];simp) hb;have hs:=He hown hK (K:=14) rfl;have en:=Z0 hown hK (K:=14) (λn=>rfl);have hat:Qv l i _ _ _ _:=⟨H.hA,hi,hK,en,rfl,ek⟩;exact ⟨_,a,b,xa,xb,hs,hat,ha,hb,hxa,hxb,Q3e hat hs hxa hxb⟩
theorem Wz.k15 (H:Wz l) (hi:i<l.length) (hK:(nd l i).kind=15):(∃(a b:Int) (x:Ex) (y:List St),Qv l i 15 0 [] [a,b]/\Q6 (Yp l a)=true/\Yp l b=23/\XE l a x/\XB l b y/\XS l i (.if_ x y))\/ ∃(a b c:Int) (x:Ex) (y z:List St),Qv l i 15 0 [] [a,b,c]/\Q6 (Yp l a)=true/\Yp l b=23/\Yp l c=23/\XE l a x/\XB l b y/\XB l c z/\XS l i (.Cz x y z):=by
 obtain ⟨hown,Yg⟩:=H.fit hi;have es:=Xw hown hK (K:=15) rfl;have en:=Z0 hown hK (K:=15) (λn=>rfl);rcases Q6v (by rw [<-hK];exact Yg)with ⟨a,b,ek,ha,hb⟩ |⟨a,b,c,ek,ha,hb,hc⟩
 ·obtain ⟨xa,hxa⟩:=H.kE hi (k:=a) (by rw [ek];simp) ha;obtain ⟨xb,hxb⟩:=H.kB hi (k:=b) (by rw [ek];simp) hb;have hat:Qv l i _ _ _ _:=⟨H.hA,hi,hK,en,es,ek⟩;exact .inl ⟨a,b,xa,xb,hat,ha,hb,hxa,hxb,Q5n hat hxa hxb⟩
 ·obtain ⟨xa,hxa⟩:=H.kE hi (k:=a) (by rw [ek];simp) ha;obtain ⟨xb,hxb⟩:=H.kB hi (k:=b) (by rw [ek];simp) hb;obtain ⟨xc,hxc⟩:=H.kB hi (k:=c) (by rw [ek];simp) hc;have hat:Qv l i _ _ _ _:=⟨H.hA,hi,hK,en,es,ek⟩;exact .inr ⟨a,b,c,xa,xb,xc,hat,ha,hb,hc,hxa,hxb,hxc,Qzy hat hxa hxb hxc⟩
theorem Wz.k16 (H:Wz l) (hi:i<l.length) (hK:(nd l i).kind=16): ∃(a b:Int) (x:Ex) (y:List St),Qv l i 16 0 [] [a,b]/\Q6 (Yp l a)=true/\Yp l b=23/\XE l a x/\XB l b y/\XS l i (.Kl x y):=by obtain ⟨hown,Yg⟩:=H.fit hi;obtain ⟨a,b,ek,ha,hb⟩:=Q4m (by rw [<-hK];exact Yg);obtain ⟨xa,hxa⟩:=H.kE hi (k:=a) (by rw [ek];simp) ha;obtain ⟨xb,hxb⟩:=H.kB hi (k:=b) (by rw [ek];simp) hb;have es:=Xw hown hK (K:=16) rfl;have en:=Z0 hown hK (K:=16) (λn=>rfl);have hat:Qv l i _ _ _ _:=⟨H.hA,hi,hK,en,es,ek⟩;exact ⟨a,b,xa,xb,hat,ha,hb,hxa,hxb,Q1x hat hxa hxb⟩
theorem Wz.k17 (H:Wz l) (hi:i<l.length) (hK:(nd l i).kind=17): ∃(s:List UInt8) (a b c:Int) (x y:Ex) (z:List St),X0 s/\Qv l i 17 0 s [a,b,c]/\Q6 (Yp l a)=true/\Q6 (Yp l b)=true/\Yp l c=23/\XE l a x/\XE l b y/\XB l c z/\XS l i (.for_ s x y z):=by obtain ⟨hown,Yg⟩:=H.fit hi;obtain ⟨a,b,c,ek,ha,hb,hc⟩:=Q04 (by rw [<-hK];exact Yg);obtain ⟨xa,hxa⟩:=H.kE hi (k:=a) (by rw [ek];simp) ha;obtain ⟨xb,hxb⟩:=H.kE hi (k:=b) (by rw [ek];simp) hb;obtain ⟨xc,hxc⟩:=H.kB hi (k:=c) (by rw [ek];simp) hc;have hs:=He hown hK (K:=17) rfl;have en:=Z0 hown hK (K:=17) (λn=>rfl);have hat:Qv l i _ _ _ _:=⟨H.hA,hi,hK,en,rfl,ek⟩;exact ⟨_,a,b,c,xa,xb,xc,hs,hat,ha,hb,hc,hxa,hxb,hxc,Q5v hat hs hxa hxb hxc⟩
theorem Wz.k18 (H:Wz l) (hi:i<l.length) (hK:(nd l i).kind=18):Qv l i 18 0 [] []/\XS l i .brk:=by obtain ⟨hown,Yg⟩:=H.fit hi;have ek:=Ma (K:=18) (by decide) (by rw [<-hK];exact Yg);have es:=Xw hown hK (K:=18) rfl;have en:=Z0 hown hK (K:=18) (λn=>rfl);have hat:Qv l i _ _ _ _:=⟨H.hA,hi,hK,en,es,ek⟩;exact ⟨hat,Qyb hat⟩
theorem Wz.k19 (H:Wz l) (hi:i<l.length) (hK:(nd l i).kind=19):Qv l i 19 0 [] []/\XS l i .cont:=by obtain ⟨hown,Yg⟩:=H.fit hi;have ek:=Ma (K:=19) (by decide) (by rw [<-hK];exact Yg);have es:=Xw hown hK (K:=19) rfl;have en:=Z0 hown hK (K:=19) (λn=>rfl);have hat:Qv l i _ _ _ _:=⟨H.hA,hi,hK,en,es,ek⟩;exact ⟨hat,Q4z hat⟩
theorem Wz.k20 (H:Wz l) (hi:i<l.length) (hK:(nd l i).kind=20): ∃(a:Int) (x:Ex),Qv l i 20 0 [] [a]/\Q6 (Yp l a)=true/\XE l a x/\XS l i (.ret x):=by obtain ⟨hown,Yg⟩:=H.fit hi;obtain ⟨a,ek,ha⟩:=Gs (K:=20) (by decide) (by rw [<-hK];exact Yg);obtain ⟨xa,hxa⟩:=H.kE hi (k:=a) (by rw [ek];simp) ha;have es:=Xw hown hK (K:=20) rfl;have en:=Z0 hown hK (K:=20) (λn=>rfl);have hat:Qv l i _ _ _ _:=⟨H.hA,hi,hK,en,es,ek⟩;exact ⟨a,xa,hat,ha,hxa,Qzg hat hxa⟩
theorem Wz.k21 (H:Wz l) (hi:i<l.length) (hK:(nd l i).kind=21): ∃(a:Int) (x:Ex),Qv l i 21 0 [] [a]/\Q6 (Yp l a)=true/\XE l a x/\XS l i (.print x):=by obtain ⟨hown,Yg⟩:=H.fit hi;obtain ⟨a,ek,ha⟩:=Gs (K:=21) (by decide) (by rw [<-hK];exact Yg);obtain ⟨xa,hxa⟩:=H.kE hi (k:=a) (by rw [ek];simp) ha;have es:=Xw hown hK (K:=21) rfl;have en:=Z0 hown hK (K:=21) (λn=>rfl);have hat:Qv l i _ _ _ _:=⟨H.hA,hi,hK,en,es,ek⟩;exact ⟨a,xa,hat,ha,hxa,Q2e hat hxa⟩
theorem Wz.k22 (H:Wz l) (hi:i<l.length) (hK:(nd l i).kind=22): ∃(a:Int) (s:List UInt8) (xs:List Ex),Qv l i 22 0 [] [a]/\Yp l a=11/\XE l a (.call s xs)/\XS l i (.do_ s xs):=by obtain ⟨hown,Yg⟩:=H.fit hi;obtain ⟨a,ek,ha⟩:=Q0x (by rw [<-hK];exact Yg);have es:=Xw hown hK (K:=22) rfl;have en:=Z0 hown hK (K:=22) (λn=>rfl);have hak:=H.kid hi (k:=a) (by rw [ek];simp);obtain ⟨e,he,h11⟩:=(H.is (i:=a.toNat) (by omega)).ex (by show Q6 (Yp l a)=true;rw [ha];rfl);obtain ⟨s,xs,rfl⟩:=h11 ha;have hat:Qv l i _ _ _ _:=⟨H.hA,hi,hK,en,es,ek⟩;exact ⟨a,s,xs,hat,ha,he.of,Q67 hat he.of⟩
theorem Wz.k23 (H:Wz l) (hi:i<l.length) (hK:(nd l i).kind=23): ∃(ks:List Int) (b:List St),Qv l i 23 0 [] ks/\(∀k∈ks,Jv (Yp l k)=true)/\Gc (XS l) ks b/\XB l i b:=by obtain ⟨hown,Yg⟩:=H.fit hi;have ha:=Qyj (by rw [<-hK];exact Yg);have es:=Xw hown hK (K:=23) rfl;have en:=Z0 hown hK (K:=23) (λn=>rfl);obtain ⟨xs,hxs⟩:=Qab _ λk hk=>H.kS hi hk (ha k hk);have hat:Qv l i _ _ _ _:=⟨H.hA,hi,hK,en,es,rfl⟩;exact ⟨_,xs,hat,ha,hxs,Q8m hat hxs⟩
theorem Wz.k24 (H:Wz l) (hi:i<l.length) (hK:(nd l i).kind=24): ∃(s:List UInt8) (m:Nat),X0 s/\1<=m/\m<=3/\Qv l i 24 (m:Int) s []/\XP l i (s,m):=by obtain ⟨hown,Yg⟩:=H.fit hi;have ek:=Ma (K:=24) (by decide) (by rw [<-hK];exact Yg);have hs:=He hown hK (K:=24) rfl;have hn:(decide (1<=(nd l i).n)&&decide ((nd l i).n<=3))=true:=Oz hown hK;rw [Yo,Wt,Wt]at hn;obtain ⟨m,em⟩:=Qb4 (show 0<=(nd l i).n by omega);have hat:Qv l i _ _ _ _:=⟨H.hA,hi,hK,em,rfl,ek⟩;exact ⟨_,m,hs,by omega,by omega,hat,Q6d hat hs (by omega) (by omega)⟩
theorem Wz.k25 (H:Wz l) (hi:i<l.length) (hK:(nd l i).kind=25): ∃(s:List UInt8) (m:Nat) (ks:List Int) (b:Int) (ps:List (List UInt8×Nat)) (c:List St),X0 s/\1<=m/\m<=3/\ks.length<=8/\Qv l i 25 (m:Int) s (ks++[b])/\(∀k∈ks,Yp l k=24)/\Yp l b=23/\Gc (XP l) ks ps/\XB l b c/\XF l i ⟨s,ps,m,c⟩:=by obtain ⟨hown,Yg⟩:=H.fit hi;obtain ⟨ps,b,ek,h8,ha,hb⟩:=Q8a (by rw [<-hK];exact Yg);have hs:=He hown hK (K:=25) rfl;have hn:(decide (1<=(nd l i).n)&&decide ((nd l i).n<=3))=true:=Oz hown hK;rw [Yo,Wt,Wt]at hn;obtain ⟨m,em⟩:=Qb4 (show 0<=(nd l i).n by omega);obtain ⟨xb,hxb⟩:=H.kB hi (k:=b) (by rw [ek];simp) hb;obtain ⟨xs,hxs⟩:=Qab (P:=XP l) ps λk hk=>H.kP hi (by rw [ek];exact List.mem_append_left _ hk) (ha k hk);have hat:Qv l i _ _ _ _:=⟨H.hA,hi,hK,em,rfl,ek⟩;exact ⟨_,m,ps,b,xs,xb,hs,by omega,by omega,h8,hat,ha,hb,hxs,hxb,Q1o hat hs (by omega) (by omega) h8 hxs hxb⟩
theorem Wz.k26 (H:Wz l) (hi:i<l.length) (hK:(nd l i).kind=26): ∃(ks:List Int) (fs:List Wm),ks.length<=200/\Qv l i 26 0 [] ks/\(∀k∈ks,Yp l k=25)/\Gc (XF l) ks fs/\XR l i fs:=by obtain ⟨hown,Yg⟩:=H.fit hi;obtain ⟨h2,ha⟩:=Qy2 (by rw [<-hK];exact Yg);have es:=Xw hown hK (K:=26) rfl;have en:=Z0 hown hK (K:=26) (λn=>rfl);obtain ⟨xs,hxs⟩:=Qab (P:=XF l) _ λk hk=>H.kF hi hk (ha k hk);have hat:Qv l i _ _ _ _:=⟨H.hA,hi,hK,en,es,rfl⟩;exact ⟨_,xs,h2,hat,ha,hxs,Qw8 hat h2 hxs⟩
def Jt (K n:Int):Nat:=if K=5 then (if n<0\/16<n then 0 else stOp n.toNat)else if K=6\/K=7 then 6 else if Q6 K then 7 else 0
theorem Wz.st (H:Wz l) (hi:i<l.length) {e:Ex} (hx:Q6 (nd l i).kind=true) (h:XE l i e):Jt (nd l i).kind (nd l i).n=e.st:=by
 have hk:=Nk hx;have hcases:(nd l i).kind=1\/(nd l i).kind=2\/(nd l i).kind=3\/(nd l i).kind=4\/(nd l i).kind=5\/(nd l i).kind=6\/(nd l i).kind=7\/(nd l i).kind=8\/(nd l i).kind=9\/(nd l i).kind=10\/(nd l i).kind=11:=by omega
 rcases hcases with hK |hK |hK |hK |hK |hK |hK |hK |hK |hK |hK
 ·obtain ⟨m,ha,hx⟩:=H.k1 hi hK;rw [h.one hx,hK];rfl
 ·obtain ⟨m,ha,hx⟩:=H.k2 hi hK;rw [h.one hx,hK];rfl
 ·obtain ⟨ha,hx⟩:=H.k3 hi hK;rw [h.one hx,hK];rfl
 ·obtain ⟨s,hs,ha,hx⟩:=H.k4 hi hK;rw [h.one hx,hK];rfl
 ·obtain ⟨op,a,b,x,y,h1,h16,ha,_,_,_,_,hx⟩:=H.k5 hi hK;rw [h.one hx,hK,ha.n];unfold Jt;rw [Qk rfl,Qd (by omega)];rfl
 ·obtain ⟨a,x,ha,_,_,hx⟩:=H.k6 hi hK;rw [h.one hx,hK];rfl
 ·obtain ⟨a,x,ha,_,_,hx⟩:=H.k7 hi hK;rw [h.one hx,hK];rfl
 ·obtain ⟨a,b,x,y,ha,_,_,_,_,hx⟩:=H.k8 hi hK;rw [h.one hx,hK];rfl
 ·obtain ⟨a,x,ha,_,_,hx⟩:=H.k9 hi hK;rw [h.one hx,hK];rfl
 ·obtain ⟨a,x,ha,_,_,hx⟩:=H.k10 hi hK;rw [h.one hx,hK];rfl
 ·obtain ⟨s,ks,xs,_,_,ha,_,_,hx⟩:=H.k11 hi hK;rw [h.one hx,hK];rfl
end
section
open Go.RowKit
def Q6y:Array Value:=(flat (H:=Unit) Rows.laid_balustrade_prose_heads).toArray
def Qym:Array Value:=(flat (H:=Unit) Rows.laid_balustrade_prose_strengths).toArray
def Wb9:List (List UInt8):=[[],[],[],[],[],[],[45],[33],[],[108,101,110],[110,101,119],[],[118,97,114,32],[],[],[105,102,32],[119,104,105,108,101,32],[102,111,114,32],[98,114,101,97,107],[99,111,110,116,105,110,117,101],[114,101,116,117,114,110,32],[112,114,105,110,116,32],[],[],[],[102,110,32]]
theorem Ac: ∀k,k<26->Q6y[k]? =some (txt (Wb9.getD k []))
 | 0,_=>by kernel_rfl
 | 1,_=>by kernel_rfl
 | 2,_=>by kernel_rfl
 | 3,_=>by kernel_rfl
 | 4,_=>by kernel_rfl
 | 5,_=>by kernel_rfl
 | 6,_=>by kernel_rfl
 | 7,_=>by kernel_rfl
 | 8,_=>by kernel_rfl
 | 9,_=>by kernel_rfl
 | 10,_=>by kernel_rfl
 | 11,_=>by kernel_rfl
 | 12,_=>by kernel_rfl
 | 13,_=>by kernel_rfl
 | 14,_=>by kernel_rfl
 | 15,_=>by kernel_rfl
 | 16,_=>by kernel_rfl
 | 17,_=>by kernel_rfl
 | 18,_=>by kernel_rfl
 | 19,_=>by kernel_rfl
 | 20,_=>by kernel_rfl
 | 21,_=>by kernel_rfl
 | 22,_=>by kernel_rfl
 | 23,_=>by kernel_rfl
 | 24,_=>by kernel_rfl
 | 25,_=>by kernel_rfl
 |n+26,h=>by omega
theorem Wqh: ∀k,k<17->Qym[k]? =some (.int .i64 (stOp k:Int))
 | 0,_=>by kernel_rfl
 | 1,_=>by kernel_rfl
 | 2,_=>by kernel_rfl
 | 3,_=>by kernel_rfl
 | 4,_=>by kernel_rfl
 | 5,_=>by kernel_rfl
 | 6,_=>by kernel_rfl
 | 7,_=>by kernel_rfl
 | 8,_=>by kernel_rfl
 | 9,_=>by kernel_rfl
 | 10,_=>by kernel_rfl
 | 11,_=>by kernel_rfl
 | 12,_=>by kernel_rfl
 | 13,_=>by kernel_rfl
 | 14,_=>by kernel_rfl
 | 15,_=>by kernel_rfl
 | 16,_=>by kernel_rfl
 |n+17,h=>by omega
structure Ir (w:World):Prop where
 tabs:Dp w
 heads: ∃t fr,w.heap[0]? =some (.cells Q6y t fr)
 strs: ∃t fr,w.heap[1]? =some (.cells Qym t fr)
theorem Ir.below {w w':World} (h:Ir w) (hb:Below w.heap.size w w'):Ir w':=
 ⟨h.tabs.below hb,Y0 h.heads hb,Y0 h.strs hb⟩
theorem Q09 {n:Int} (h:n<0\/17<=n):Jt 5 n=0:=by unfold Jt;rw [Qk rfl,Qk (by omega)]
theorem Q62 {k:Nat} (h:k<17):Jt 5 (k:Int)=stOp k:=by unfold Jt;rw [Qk rfl,Qd (by omega),Ja]
theorem Wcv {K n:Int} (h5:K≠5) (h6:K≠6) (h7:K≠7) (h:Q6 K=true):Jt K n=7:=by unfold Jt;rw [Qd h5,Qd (by omega),Qk h]
theorem Q30 {K n:Int} (h:Q6 K=false):Jt K n=0:=by
 have:K≠5/\K≠6/\K≠7:=by refine ⟨?_,?_,?_⟩<;>(intro e;rw [e]at h;exact absurd h (by decide))
 unfold Jt;rw [Qd this.1,Qd (by omega),Qd (by rw [h];decide)]
theorem Lm (K n:Int) (ka:Option Addr) (m kc:Nat) (s:ByteArray) (at_:Int) (w:World) (hT:Ir w):
  Calls prog 15 #[.agg #[.int .i64 K,.slice ka m kc,.int .i64 n,.string s,.int .i64 at_]] w λe w'=>e= .returned (.int .i64 ((Jt K n:Nat):Int))/\Below w.heap.size w w':=by
 have HB1:Hid (Below w.heap.size w (w.alloc (.cells #[.int .i64 K,.slice ka m kc,.int .i64 n,.string s,.int .i64 at_] 37))):=Qag;have HT:=Qa hT;clear hT;by_cases k5:K=5
 ·subst k5;rcases (show n<0\/0<=n by omega)with h |h
  ·have HS:=Qa (Q09 (.inl h));go_enter func15,ntmps15;go_wp2_with fail;go_ret;exact ⟨by rw [HS.out];rfl,HB1.out⟩
  ·rcases (show n<17\/17<=n by omega)with h2 |h2
   ·obtain ⟨k,rfl⟩: ∃k:Nat,n=k:=⟨n.toNat,by omega⟩;have hk:k<17:=(by omega);have HS:=Qa (Q62 hk);have hc:=Zc (HT.out.below HB1.out).strs (Wqh k hk);go_enter func15,ntmps15;go_wp2_with fail;go_ret;exact ⟨by rw [HS.out];rfl,HB1.out⟩
   ·have HS:=Qa (Q09 (.inr h2));go_enter func15,ntmps15;go_wp2_with fail;go_ret;exact ⟨by rw [HS.out];rfl,HB1.out⟩
 ·by_cases k67:K=6\/K=7
  ·rcases k67 with rfl |rfl
   ·go_enter func15,ntmps15;go_wp2_with fail;go_ret;exact ⟨rfl,HB1.out⟩
   ·go_enter func15,ntmps15;go_wp2_with fail;go_ret;exact ⟨rfl,HB1.out⟩
  ·have k6: ¬K=6:=λe=>k67 (.inl e);have k7: ¬K=7:=λe=>k67 (.inr e);clear k67;cases hx:Q6 K with
   |true=>
    have HS:=Qa (Wcv (n:=n) k5 k6 k7 hx);have hin:=Nk hx;have hcases:K=1\/K=2\/K=3\/K=4\/K=8\/K=9\/K=10\/K=11:=(by omega);clear hx hin k5 k6 k7;rcases hcases with rfl |rfl |rfl |rfl |rfl |rfl |rfl |rfl
    all_goals
     go_enter func15,ntmps15;go_wp2_with fail;go_ret;exact ⟨rfl,HB1.out⟩
   |false=>
    have HS:=Qa (Q30 (n:=n) hx);have hout:K<1\/11<K:=(by unfold Q6 at hx;simp at hx;omega);have k1: ¬K=1:=(by omega);have k2: ¬K=2:=(by omega);have k3: ¬K=3:=(by omega);have k4: ¬K=4:=(by omega);have k8: ¬K=8:=(by omega);have k9: ¬K=9:=(by omega);have k10: ¬K=10:=(by omega);have k11: ¬K=11:=(by omega);clear hout hx;go_enter func15,ntmps15;go_wp2_with fail;go_ret;exact ⟨by rw [HS.out];rfl,HB1.out⟩
def Bd (B ob:Nat) (t:List UInt8) (w:World):Prop:=Lib.IsBuilderF 42 5 B ob (Lib.byteCells t) w
theorem Bd.below {B ob:Nat} {t:List UInt8} {w w':World} (h:Bd B ob t w) (hb:Below w.heap.size w w'):Bd B ob t w':=Qh3 h hb
theorem Bd.size {B ob:Nat} {t:List UInt8} {w:World} (h:Bd B ob t w):B<=w.heap.size:=Qcy h
theorem Bd.lt {B ob:Nat} {t:List UInt8} {w:World} (h:Bd B ob t w):ob<w.heap.size:=by
 rcases h with h |h
 ·exact h.lt
 ·exact h.lt
structure Qi (B ob:Nat) (w w':World):Prop where
 below:Below B w w'
 kept:Lib.OthersKept 5 (some ob) w w'
theorem Qi.refl (B ob:Nat) (w:World):Qi B ob w w:=⟨Below.refl _ _,Lib.OthersKept.refl _ _ _⟩
theorem Qi.trans {B ob:Nat} {w w1 w2:World} (h:Qi B ob w w1) (g:Qi B ob w1 w2):Qi B ob w w2:=⟨h.below.trans g.below,h.kept.trans g.kept⟩
theorem Qi.of {B ob:Nat} {w w':World} (h:B<=w.heap.size) (hb:Below w.heap.size w w'):Qi B ob w w':=⟨hb.mono h,Qj9 hb⟩
theorem Qi.held {B ob:Nat} {w w':World} (h:Qi B ob w w') {g:Nat} {T:TypeId} {cs:Array Value} (hh:Held w g T cs) (hg:g≠ob) (hT:T≠5):Held w' g T cs:=
 h.kept _ _ hh (λe=>hg (by injection e)) (λc fz e=>hT (by injection e))
theorem Qli {B ob:Nat} {t:List UInt8} {w:World} (s:ByteArray) (h:Bd B ob t w) (hl:t.length+s.size<=140737488355328):
  Calls prog 18 #[.pointer (some ⟨ob,0,none⟩),.string s] w λe w'=>e= .returned (.tuple #[.int .i64 s.size,.nilIface])/\Bd B ob (t++s.data.toList) w'/\Qi B ob w w':=by
 refine (Tryz.Builder_WriteString_k B ob (Lib.byteCells t) s w h (by rw [Lib.byteCells_length];exact hl) h.size).mono ?_;rintro e w' ⟨he,hb,h1,h2⟩;refine ⟨he,?_,⟨h1,h2⟩⟩;have hb':=hb;rw [Lib.strCells_eq,<-Lib.byteCells_append]at hb';exact .inr hb'
theorem Zw {B ob:Nat} {t:List UInt8} {w:World} (s:List UInt8) (h:Bd B ob t w) (hl:t.length+s.length<=140737488355328):
  Calls prog 18 #[.pointer (some ⟨ob,0,none⟩),.string ⟨s.toArray⟩] w λe w'=>e= .returned (.tuple #[.int .i64 (⟨s.toArray⟩:ByteArray).size,.nilIface])/\Bd B ob (t++s) w'/\Qi B ob w w':=
 Qli ⟨s.toArray⟩ h hl
theorem Bn {B ob:Nat} {t:List UInt8} {w:World} (s:ByteArray) (b:List UInt8) (hs:s.data.toList=b) (h:Bd B ob t w) (hl:t.length+b.length<=140737488355328):
  Calls prog 18 #[.pointer (some ⟨ob,0,none⟩),.string s] w λe w'=>e= .returned (.tuple #[.int .i64 s.size,.nilIface])/\Bd B ob (t++b) w'/\Qi B ob w w':=by
 subst hs;exact Qli s h (by rw [Au]at hl;exact hl)
structure Pl where
 w0:World
 a:Option Addr
 l:List Nd
 n:Nat
 c:Nat
 ob:Nat
 lb:Nat
 xb:Nat
 bb:Nat
 pb:Nat
def Pl.B (P:Pl):Nat:=P.w0.heap.size
structure Zt (P:Pl) (t:List UInt8) (w:World):Prop where
 nodes:Nodes P.w0 P.a P.l
 len:P.n=P.l.length
 few:P.n<=1000000000
 cap:P.n<=P.c
 tree:Wz P.l
 tabs:Ir P.w0
 below:Below P.B P.w0 w
 bd:Bd P.B P.ob t w
 lc:Held w P.lb 22 #[.slice P.a P.n P.c]
 xc:Held w P.xb 39 #[.pointer (some ⟨P.ob,0,none⟩)]
 bc:Held w P.bb 43 #[.func (.func 79) #[] #[.pointer (some ⟨P.lb,0,none⟩),.pointer (some ⟨P.pb,0,none⟩),.pointer (some ⟨P.xb,0,none⟩)]]
 pc:Held w P.pb 82 #[.func (.func 80) #[] #[.pointer (some ⟨P.lb,0,none⟩),.pointer (some ⟨P.xb,0,none⟩),.pointer (some ⟨P.bb,0,none⟩),.pointer (some ⟨P.pb,0,none⟩)]]
 lo:P.lb≠P.ob
 xo:P.xb≠P.ob
 bo:P.bb≠P.ob
 po:P.pb≠P.ob
theorem Zt.keep {P:Pl} {t t':List UInt8} {w w':World} (h:Zt P t w) (hk:Qi P.B P.ob w w') (hb:Bd P.B P.ob t' w'):Zt P t' w':=
 ⟨h.nodes,h.len,h.few,h.cap,h.tree,h.tabs,h.below.trans hk.below,hb,hk.held h.lc h.lo (by decide),hk.held h.xc h.xo (by decide),hk.held h.bc h.bo (by decide),hk.held h.pc h.po (by decide),h.lo,h.xo,h.bo,h.po⟩
theorem Zt.since {P:Pl} {t:List UInt8} {w w':World} (h:Zt P t w) (hb:Below w.heap.size w w'):Zt P t w':=h.keep (.of h.bd.size hb) (h.bd.below hb)
def Qra (P:Pl) (t:List UInt8) (w:World) (e:Ending) (w':World):Prop:=e= .returned (.tuple #[])/\Zt P t w'/\Qi P.B P.ob w w'
def Xg (P:Pl) (q:Nat) (e:Ex):Prop:= ∀(t:List UInt8) (w:World),Zt P t w->t.length+e.txt.length<=140737488355328->
 Calls prog 80 #[.int .i64 (q:Int),.pointer (some ⟨P.lb,0,none⟩),.pointer (some ⟨P.xb,0,none⟩),.pointer (some ⟨P.bb,0,none⟩),.pointer (some ⟨P.pb,0,none⟩)] w (Qra P (t++e.txt) w)
theorem Qnh (t:List UInt8):K6 true t=[40]++t++[41]:=rfl
theorem Wip (t:List UInt8):K6 false t=t:=rfl
theorem Wem {P:Pl} {q m:Nat} {x:Ex} {t:List UInt8} {w:World} (hq:q<P.l.length) (hx:XE P.l (q:Int) x) (hk:Q6 (nd P.l q).kind=true) (hput:Xg P q x) (hE:Zt P t w) (hl:t.length+(K6 (decide (x.st<m)) x.txt).length<=140737488355328):
  Calls prog 79 #[.int .i64 (q:Int),.int .i64 (m:Int),.pointer (some ⟨P.lb,0,none⟩),.pointer (some ⟨P.pb,0,none⟩),.pointer (some ⟨P.xb,0,none⟩)] w (Qra P (t++K6 (decide (x.st<m)) x.txt) w):=by
 have HST:=Qa (hE.tree.st hq hk hx);have HE:=Qa hE;have Df:=Qa hput;have HL:=Qa hl;have hqn:(q:Int)<(P.n:Int):=by have:=hE.len;omega
 clear hE hput hl hx hk;have cL:=HE.out.lc.at_ (j:=0) rfl;obtain ⟨nb,no,ha,hnb,c0,c1,c2,c3,c4⟩:=(HE.out.nodes.below HE.out.below).at_ hq;rw [ha]at cL;obtain ⟨y,hy⟩:=Qb (nd P.l q);rw [<-hy]at c0 c1 c2 c3 c4 HST;have Jb:=Qa (Lm y.kind y.n y.ka y.kids.length y.kc y.s y.at_ w ⟨HE.out.tabs.tabs.below HE.out.below,Y0 HE.out.tabs.heads HE.out.below,Y0 HE.out.tabs.strs HE.out.below⟩);rw [HST.out]at Jb;clear hy ha HST;obtain ⟨k,hk⟩:=Qb x.st;rw [<-hk]at Jb HL ⊢;clear hk;by_cases hkm:k<m
 ·have hge: ¬(m:Int)<=(k:Int):=by omega
  rw [decide_eq_true hkm]at HL ⊢;clear hkm;go_enter func79,ntmps79;go_wp2_with fail;refine Jb.out.mono ?_;rintro e w1 ⟨rfl,hb1⟩;have Qu:=Qa (HE.out.since hb1);have Zh:Hid (Qi P.B P.ob w w1):=.of HE.out.bd.size hb1;clear hb1 c0 c1 c2 c3 c4 cL;have cX:=Qu.out.xc.at_ (j:=0) rfl;go_wp2_with fail;refine (Qli _ Qu.out.bd (by have h1:=HL.out;rw [Qnh,Qf,Qf]at h1;show _+1<=_;have e1:[(40:UInt8)].length=1:=rfl;omega)).mono ?_;rintro e w2 ⟨rfl,hb2,hk2⟩;have Yq:Hid (Qi P.B P.ob w w2):=Zh.out.trans hk2;have HE2:=Qa (Qu.out.keep hk2 hb2);clear hb2 hk2 cX;have cP:=HE2.out.pc.at_ (j:=0) rfl;have hp:=Df.out _ w2 HE2.out (by have h1:=HL.out;rw [Qnh,Qf,Qf]at h1;rw [Qf];show _+1+_<=_;have e1:[(40:UInt8)].length=1:=rfl;omega);have HP:=Qa hp;clear hp;go_wp2_with fail;refine HP.out.mono ?_;rintro e w3 ⟨rfl,Ye,hk3⟩;have Yj:Hid (Qi P.B P.ob w w3):=Yq.out.trans hk3;have Qx:=Qa Ye;clear Ye hk3 cP;have cX:=Qx.out.xc.at_ (j:=0) rfl;go_wp2_with fail;refine (Qli _ Qx.out.bd (by have h1:=HL.out;rw [Qnh,Qf,Qf]at h1;rw [Qf,Qf];show _+1+_+1<=_;have e1:[(40:UInt8)].length=1:=rfl;have e2:[(41:UInt8)].length=1:=rfl;omega)).mono ?_;rintro e w4 ⟨rfl,hb4,hk4⟩;have Zv:Hid (Qi P.B P.ob w w4):=Yj.out.trans hk4;have Ya:=Qa (Qx.out.keep hk4 hb4);clear hb4 hk4;go_wp2_with fail;go_end0;refine ⟨rfl,?_,Zv.out⟩;have h:=Ya.out;rw [Qnh,<-Qy,<-Qy];exact h
 ·have hge:(m:Int)<=(k:Int):=by omega
  rw [decide_eq_false hkm,Wip]at HL ⊢;clear hkm;go_enter func79,ntmps79;go_wp2_with fail;refine Jb.out.mono ?_;rintro e w1 ⟨rfl,hb1⟩;have Qu:=Qa (HE.out.since hb1);have Zh:Hid (Qi P.B P.ob w w1):=.of HE.out.bd.size hb1;clear hb1 c0 c1 c2 c3 c4 cL;have cP:=Qu.out.pc.at_ (j:=0) rfl;have hp:=Df.out _ w1 Qu.out HL.out;have HP:=Qa hp;clear hp;go_wp2_with fail;refine HP.out.mono ?_;rintro e w3 ⟨rfl,Ye,hk3⟩;have Yj:Hid (Qi P.B P.ob w w3):=Zh.out.trans hk3;have Qx:=Qa Ye;clear Ye hk3;go_wp2_with fail;go_end0;exact ⟨rfl,Qx.out,Yj.out⟩
theorem Qep {P:Pl} {q m:Nat} {x:Ex} {t:List UInt8} {w:World} {c:Bool} (hc:c=decide (x.st<m)) (hq:q<P.l.length) (hx:XE P.l (q:Int) x) (hk:Q6 (nd P.l q).kind=true) (hput:Xg P q x) (hE:Zt P t w) (hl:t.length+(K6 c x.txt).length<=140737488355328):
  Calls prog 79 #[.int .i64 (q:Int),.int .i64 (m:Int),.pointer (some ⟨P.lb,0,none⟩),.pointer (some ⟨P.pb,0,none⟩),.pointer (some ⟨P.xb,0,none⟩)] w (Qra P (t++K6 c x.txt) w):=by
 subst hc;exact Wem hq hx hk hput hE hl
theorem Q3k (x:Nd):x.s=⟨x.t.toArray⟩:=by show x.s=⟨x.s.data.toList.toArray⟩;rw [Array.toArray_toList]
structure Wfy (P:Pl) (i:Nat) (K n:Int) (s:List UInt8) (ks:List Int) (nb no:Nat) (ka:Option Addr) (kc:Nat) (at_:Int):Prop where
 base:P.a=some ⟨nb,no,none⟩
 cells: ∀(t:List UInt8) (w:World),Zt P t w->w.cell? ⟨nb,no+i*5,none⟩=some (.int .i64 K)/\w.cell? ⟨nb,no+i*5+1,none⟩=some (.slice ka ks.length kc)/\w.cell? ⟨nb,no+i*5+2,none⟩=some (.int .i64 n)/\w.cell? ⟨nb,no+i*5+3,none⟩=some (.string ⟨s.toArray⟩)/\w.cell? ⟨nb,no+i*5+4,none⟩=some (.int .i64 at_)
 cap:ks.length<=kc
 kids:0<ks.length-> ∃kb ko,ka=some ⟨kb,ko,none⟩/\ ∀(t:List UInt8) (w:World),Zt P t w-> ∀j v,ks[j]? =some v->w.cell? ⟨kb,ko+j,none⟩=some (.int .i64 v)
theorem K4 {P:Pl} {t:List UInt8} {w:World} (hE:Zt P t w) {i:Nat} {K n:Int} {s:List UInt8} {ks:List Int} (h:Qv P.l i K n s ks): ∃nb no ka kc at_,Wfy P i K n s ks nb no ka kc at_:=by
 obtain ⟨nb,no,ha,hnb,hc⟩:=hE.nodes.at_ h.hi;have hok:=hE.nodes.2 i h.hi;refine ⟨nb,no,(nd P.l i).ka,(nd P.l i).kc,(nd P.l i).at_,ha,?_,?_,?_⟩
 ·intro t' w' hE';obtain ⟨d0,d1,d2,d3,d4⟩:=hc.below hE'.below hnb;rw [h.k]at d0;rw [h.ks]at d1;rw [h.n]at d2;rw [Q3k,h.t]at d3;exact ⟨d0,d1,d2,d3,d4⟩
 ·rw [<-h.ks];exact hok.cap
 ·intro hp;obtain ⟨kb,ko,hka,hkb,hkc⟩:=hok.rows (by rw [h.ks];exact hp);refine ⟨kb,ko,hka,λt' w' hE' j v hj=> ?_⟩;have hjl:j<ks.length:=(List.getElem?_eq_some_iff.1 hj).1;have h1:=hkc j (by rw [h.ks];exact hjl);rw [hE'.below.cell (p:=⟨kb,ko+j,none⟩) hkb,h1];show some (Value.int .i64 ((nd P.l i).kids.getD j 0))=_;rw [h.ks,Yc,hj];rfl
theorem Qos {α:Type} {d:α} {xs:List α} {j:Nat} (hj:j<xs.length):xs.take (j+1)=xs.take j++[xs.getD j d]:=by rw [List.take_add_one,Y3 hj,Yc,Y3 hj];rfl
def Gt (f:Bool) (n:Nat):List UInt8:=if f=true/\n=0 then []else [44,32]
theorem Q1k (a:Ex): ∀(f:Bool) (xs:List Ex),Zo f (xs++[a])=Zo f xs++(Gt f xs.length++a.txt)
 |true,[]=>by simp [Zo,Gt]
 |false,[]=>by simp [Zo,Gt]
 |f,x::xs=>by
  have h:Gt f (x::xs).length=[44,32]:=by unfold Gt;rw [Qd (by simp)]
  have h2:Gt false xs.length=[44,32]:=rfl;show (if f then []else [44,32])++(x.txt++Zo false (xs++[a]))=(if f then []else [44,32])++(x.txt++Zo false xs)++_;rw [Q1k a false xs,h,h2];simp only [Qy]
theorem Qqw {xs:List Ex} {j:Nat} (hj:j<xs.length):Zo true (xs.take (j+1))=Zo true (xs.take j)++Gt true j++(xs.getD j .nil).txt:=by rw [Qos (d:=Ex.nil) hj,Q1k,F9,Nat.min_eq_left (by omega),Qy]
theorem Qnj: ∀(f:Bool) (xs:List Ex) (j:Nat),(Zo f (xs.take j)).length<=(Zo f xs).length
 |f,[],j=>by rw [List.take_nil];exact Qh _
 |f,x::xs,0=>by rw [List.take_zero];exact Vh _
 |f,x::xs,j+1=>by have:=Qnj false xs j;show ((if f then []else [44,32])++(x.txt++Zo false (xs.take j))).length<=((if f then []else [44,32])++(x.txt++Zo false xs)).length;simp only [Qf];omega
theorem Whn {P:Pl} {i a:Nat} {x:Ex} (h:Qv P.l i 6 0 [] [(a:Int)]) (hq:a<P.l.length) (hx:XE P.l (a:Int) x) (hk:Q6 (nd P.l a).kind=true) (hp:Xg P a x):Xg P i (.neg x):=by
 intro t w hE hl;have Qo:Hid ((Ex.neg x).txt=[45]++K6 (decide (x.st<=5)) x.txt):=by show _=_;rw [Ex.txt];rfl
 have Uq:=Qa hp;have HX:=Qa hx;have HQ:=Qa hq;have Vx:=Qa hk;have Xj:0<([(a:Int)]:List Int).length:=by simp
 clear hp hx hq hk;obtain ⟨nb,no,ka,kc,at_,hN⟩:=K4 hE h;obtain ⟨kb,ko,rfl,hkc⟩:=hN.kids Xj;have Z7:=Qa hkc;clear hkc;have HE:=Qa hE;have HN:=Qa hN;have HL:=Qa hl;have hin:(i:Int)<(P.n:Int):=by have:=hE.len;have:=h.hi;omega
 clear hE hN hl h;have cL:=HE.out.lc.at_ (j:=0) rfl;rw [HN.out.base]at cL;obtain ⟨c0,c1,c2,c3,c4⟩:=HN.out.cells t w HE.out;have c1:w.cell? ⟨nb,no+i*5+1,none⟩=some (.slice (some ⟨kb,ko,none⟩) 1 kc):=c1;obtain ⟨SB,hsb⟩:=Qb (⟨([]:List UInt8).toArray⟩:ByteArray);rw [<-hsb]at c3;have Zj:Hid (SB.data.toList=[]):=by show _=_;rw [hsb]
 clear hsb;have Jb:Hid (∀w',Below w.heap.size w w'->Calls prog 15 #[.agg #[.int .i64 6,.slice (some ⟨kb,ko,none⟩) 1 kc,.int .i64 0,.string SB,.int .i64 at_]] w' λe w''=>e= .returned (.int .i64 ((6:Nat):Int))/\Below w'.heap.size w' w''):=by intro w' hb;have h1:=Lm 6 0 (some ⟨kb,ko,none⟩) 1 kc SB at_ w' ⟨HE.out.tabs.tabs.below (HE.out.since hb).below,Y0 HE.out.tabs.heads (HE.out.since hb).below,Y0 HE.out.tabs.strs (HE.out.since hb).below⟩;rw [show Jt 6 0=6 from rfl]at h1;exact h1
 go_enter func80,ntmps80;go_wp2_with fail;obtain ⟨w1,hw1⟩:=Qb (w.alloc (.cells #[.int .i64 6,.slice (some ⟨kb,ko,none⟩) 1 kc,.int .i64 0,.string SB,.int .i64 at_] 37));obtain ⟨xn,hxn⟩:=Qb w.heap.size;have HB1:Hid (Below w.heap.size w w1):=by rw [hw1];exact Qag
 have Wo:Hid (Held w1 xn 37 #[.int .i64 6,.slice (some ⟨kb,ko,none⟩) 1 kc,.int .i64 0,.string SB,.int .i64 at_]):=by rw [hw1,hxn];exact Held.new w _ _
 have Q5:Hid (xn≠P.ob):=by have:=HE.out.bd.lt;show _≠_;omega
 rw [<-hw1,<-hxn];clear hw1 hxn c0 c1 c2 c3 c4 cL;refine (Jb.out w1 HB1.out).mono ?_;rintro e w2 ⟨rfl,hb2⟩;have HE2:=Qa ((HE.out.since HB1.out).since hb2);have Yq:Hid (Qi P.B P.ob w w2):=(Qi.of HE.out.bd.size HB1.out).trans (.of (HE.out.since HB1.out).bd.size hb2);have Q7:=Qa (Wo.out.since hb2);clear hb2;have c0:=Q7.out.at_ (j:=0) rfl;have cX:=HE2.out.xc.at_ (j:=0) rfl;have cH:w2.cell? ⟨0,6,none⟩=some (.string ⟨([45]:List UInt8).toArray⟩):=Zc (Y0 HE2.out.tabs.heads HE2.out.below) (Ac 6 (by decide));go_wp2_with fail;go_still_tail 5,(by kernel_rfl);change wpList _ _ _ _ _ w2.drew;obtain ⟨v2,hv2⟩:=Qb w2.drew;have HD2:Hid (Below w2.heap.size w2 v2):=by rw [hv2];exact Wq w2 1 _
 rw [<-hv2];clear hv2 c0 cX cH;go_wp2_with fail;refine (Zw [45] (HE2.out.since HD2.out).bd (by have h1:=HL.out;rw [Qo.out]at h1;simp only [Qf,Qp,Q8]at h1 ⊢;omega)).mono ?_;rintro e w3 ⟨rfl,Ye,hk3⟩;have Yj:Hid (Qi P.B P.ob w w3):=(Yq.out.trans (.of HE2.out.bd.size HD2.out)).trans hk3;have Q9:=Qa (((Qi.of HE2.out.bd.size HD2.out).trans hk3).held Q7.out Q5.out (by decide));have Qx:=Qa (HE2.out.keep ((Qi.of HE2.out.bd.size HD2.out).trans hk3) Ye);clear Ye hk3;have c0:=Q9.out.at_ (j:=0) rfl;have c1:=Q9.out.at_ (j:=1) rfl;have ck:w3.cell? ⟨kb,ko,none⟩=some (.int .i64 (a:Int)):=Z7.out _ w3 Qx.out 0 _ rfl;have cB:=Qx.out.bc.at_ (j:=0) rfl;go_wp2_with fail;go_still_tail 6,(by kernel_rfl);change wpList _ _ _ _ _ w3.drew;obtain ⟨v3,hv3⟩:=Qb w3.drew;have HD3:Hid (Below w3.heap.size w3 v3):=by rw [hv3];exact Wq w3 1 _
 rw [<-hv3];clear hv3 c0 c1 ck cB;go_wp2_with fail;refine (Qep (m:=6) (c:=decide (x.st<=5)) (by congr 1;exact propext ⟨λh=>by omega,λh=>by omega⟩) HQ.out HX.out Vx.out Uq.out (Qx.out.since HD3.out) (by have h1:=HL.out;rw [Qo.out]at h1;simp only [Qf,Qp,Q8]at h1 ⊢;omega)).mono ?_;rintro e w4 ⟨rfl,Yz,hk4⟩;have Zv:Hid (Qi P.B P.ob w w4):=(Yj.out.trans (.of Qx.out.bd.size HD3.out)).trans hk4;have X5:=Qa (((Qi.of Qx.out.bd.size HD3.out).trans hk4).held Q9.out Q5.out (by decide));have Ya:=Qa Yz;clear Yz hk4;go_wp2_with fail;go_end0;refine ⟨rfl,?_,Zv.out⟩;have h9:=Ya.out;rw [Qo.out];simp only [Qy]at h9 ⊢;exact h9
theorem Wkw {P:Pl} {i a:Nat} {x:Ex} (h:Qv P.l i 7 0 [] [(a:Int)]) (hq:a<P.l.length) (hx:XE P.l (a:Int) x) (hk:Q6 (nd P.l a).kind=true) (hp:Xg P a x):Xg P i (.not x):=by
 intro t w hE hl;have Qo:Hid ((Ex.not x).txt=[33]++K6 (decide (x.st<=5)) x.txt):=by show _=_;rw [Ex.txt];rfl
 have Uq:=Qa hp;have HX:=Qa hx;have HQ:=Qa hq;have Vx:=Qa hk;have Xj:0<([(a:Int)]:List Int).length:=by simp
 clear hp hx hq hk;obtain ⟨nb,no,ka,kc,at_,hN⟩:=K4 hE h;obtain ⟨kb,ko,rfl,hkc⟩:=hN.kids Xj;have Z7:=Qa hkc;clear hkc;have HE:=Qa hE;have HN:=Qa hN;have HL:=Qa hl;have hin:(i:Int)<(P.n:Int):=by have:=hE.len;have:=h.hi;omega
 clear hE hN hl h;have cL:=HE.out.lc.at_ (j:=0) rfl;rw [HN.out.base]at cL;obtain ⟨c0,c1,c2,c3,c4⟩:=HN.out.cells t w HE.out;have c1:w.cell? ⟨nb,no+i*5+1,none⟩=some (.slice (some ⟨kb,ko,none⟩) 1 kc):=c1;obtain ⟨SB,hsb⟩:=Qb (⟨([]:List UInt8).toArray⟩:ByteArray);rw [<-hsb]at c3;have Zj:Hid (SB.data.toList=[]):=by show _=_;rw [hsb]
 clear hsb;have Jb:Hid (∀w',Below w.heap.size w w'->Calls prog 15 #[.agg #[.int .i64 7,.slice (some ⟨kb,ko,none⟩) 1 kc,.int .i64 0,.string SB,.int .i64 at_]] w' λe w''=>e= .returned (.int .i64 ((6:Nat):Int))/\Below w'.heap.size w' w''):=by intro w' hb;have h1:=Lm 7 0 (some ⟨kb,ko,none⟩) 1 kc SB at_ w' ⟨HE.out.tabs.tabs.below (HE.out.since hb).below,Y0 HE.out.tabs.heads (HE.out.since hb).below,Y0 HE.out.tabs.strs (HE.out.since hb).below⟩;rw [show Jt 7 0=6 from rfl]at h1;exact h1
 go_enter func80,ntmps80;go_wp2_with fail;obtain ⟨w1,hw1⟩:=Qb (w.alloc (.cells #[.int .i64 7,.slice (some ⟨kb,ko,none⟩) 1 kc,.int .i64 0,.string SB,.int .i64 at_] 37));obtain ⟨xn,hxn⟩:=Qb w.heap.size;have HB1:Hid (Below w.heap.size w w1):=by rw [hw1];exact Qag
 have Wo:Hid (Held w1 xn 37 #[.int .i64 7,.slice (some ⟨kb,ko,none⟩) 1 kc,.int .i64 0,.string SB,.int .i64 at_]):=by rw [hw1,hxn];exact Held.new w _ _
 have Q5:Hid (xn≠P.ob):=by have:=HE.out.bd.lt;show _≠_;omega
 rw [<-hw1,<-hxn];clear hw1 hxn c0 c1 c2 c3 c4 cL;refine (Jb.out w1 HB1.out).mono ?_;rintro e w2 ⟨rfl,hb2⟩;have HE2:=Qa ((HE.out.since HB1.out).since hb2);have Yq:Hid (Qi P.B P.ob w w2):=(Qi.of HE.out.bd.size HB1.out).trans (.of (HE.out.since HB1.out).bd.size hb2);have Q7:=Qa (Wo.out.since hb2);clear hb2;have c0:=Q7.out.at_ (j:=0) rfl;have cX:=HE2.out.xc.at_ (j:=0) rfl;have cH:w2.cell? ⟨0,7,none⟩=some (.string ⟨([33]:List UInt8).toArray⟩):=Zc (Y0 HE2.out.tabs.heads HE2.out.below) (Ac 7 (by decide));go_wp2_with fail;go_still_tail 5,(by kernel_rfl);change wpList _ _ _ _ _ w2.drew;obtain ⟨v2,hv2⟩:=Qb w2.drew;have HD2:Hid (Below w2.heap.size w2 v2):=by rw [hv2];exact Wq w2 1 _
 rw [<-hv2];clear hv2 c0 cX cH;go_wp2_with fail;refine (Zw [33] (HE2.out.since HD2.out).bd (by have h1:=HL.out;rw [Qo.out]at h1;simp only [Qf,Qp,Q8]at h1 ⊢;omega)).mono ?_;rintro e w3 ⟨rfl,Ye,hk3⟩;have Yj:Hid (Qi P.B P.ob w w3):=(Yq.out.trans (.of HE2.out.bd.size HD2.out)).trans hk3;have Q9:=Qa (((Qi.of HE2.out.bd.size HD2.out).trans hk3).held Q7.out Q5.out (by decide));have Qx:=Qa (HE2.out.keep ((Qi.of HE2.out.bd.size HD2.out).trans hk3) Ye);clear Ye hk3;have c0:=Q9.out.at_ (j:=0) rfl;have c1:=Q9.out.at_ (j:=1) rfl;have ck:w3.cell? ⟨kb,ko,none⟩=some (.int .i64 (a:Int)):=Z7.out _ w3 Qx.out 0 _ rfl;have cB:=Qx.out.bc.at_ (j:=0) rfl;go_wp2_with fail;go_still_tail 6,(by kernel_rfl);change wpList _ _ _ _ _ w3.drew;obtain ⟨v3,hv3⟩:=Qb w3.drew;have HD3:Hid (Below w3.heap.size w3 v3):=by rw [hv3];exact Wq w3 1 _
 rw [<-hv3];clear hv3 c0 c1 ck cB;go_wp2_with fail;refine (Qep (m:=6) (c:=decide (x.st<=5)) (by congr 1;exact propext ⟨λh=>by omega,λh=>by omega⟩) HQ.out HX.out Vx.out Uq.out (Qx.out.since HD3.out) (by have h1:=HL.out;rw [Qo.out]at h1;simp only [Qf,Qp,Q8]at h1 ⊢;omega)).mono ?_;rintro e w4 ⟨rfl,Yz,hk4⟩;have Zv:Hid (Qi P.B P.ob w w4):=(Yj.out.trans (.of Qx.out.bd.size HD3.out)).trans hk4;have X5:=Qa (((Qi.of Qx.out.bd.size HD3.out).trans hk4).held Q9.out Q5.out (by decide));have Ya:=Qa Yz;clear Yz hk4;go_wp2_with fail;go_end0;refine ⟨rfl,?_,Zv.out⟩;have h9:=Ya.out;rw [Qo.out];simp only [Qy]at h9 ⊢;exact h9
end
end Go.Proofs.YtdncpkkhkbijfaaGreatDoor
