import Derived.Test.YtdncpkkhkbijfaaDoorTe11
open Go.Proofs.Tryd
set_option linter.all false
set_option maxHeartbeats 0
set_option maxRecDepth 100000
namespace Go.Proofs.YtdncpkkhkbijfaaDoor
section
variable {l:List Nd}{i:Nat}{k:Int}
structure Qo (l:List Nd):Prop where
 hA:Ahead l
 hF:Fits l
 hN: ∀j,j<l.length->(nd l j).n<=9223372036854775807
theorem Qo.of (hR:Rt l) (hN: ∀j,j<l.length->(nd l j).n<=9223372036854775807):Qo l:=⟨hR.1.2.1,hR.2.1,hN⟩
theorem Qo.is (H:Qo l) (hi:i<l.length):Jw l i:=is9 H.hA H.hF H.hN (i+1) i (by omega) hi
theorem Qo.fit (H:Qo l) (hi:i<l.length):ownB (nd l i)=true/\Qq (nd l i).kind (kk l (nd l i))=true:=by have h:=H.hF i hi;unfold Xc at h;rw [Q7]at h;exact h
theorem Qo.kid (H:Qo l) (hi:i<l.length) (hk:k∈(nd l i).kids):0<=k/\k<(i:Int):=H.hA i hi k hk
theorem Qo.kE (H:Qo l) (hi:i<l.length) (hk:k∈(nd l i).kids) (h:Qt (Qz l k)=true): ∃e,XE l k e:=by have:=H.kid hi hk;obtain ⟨e,he,_⟩:=(H.is (i:=k.toNat) (by omega)).ex h;exact ⟨e,he.of⟩
theorem Qo.kS (H:Qo l) (hi:i<l.length) (hk:k∈(nd l i).kids) (h:Y9 (Qz l k)=true): ∃e,XS l k e:=by have:=H.kid hi hk;obtain ⟨e,he⟩:=(H.is (i:=k.toNat) (by omega)).st h;exact ⟨e,he.of⟩
theorem Qo.kB (H:Qo l) (hi:i<l.length) (hk:k∈(nd l i).kids) (h:Qz l k=23): ∃e,XB l k e:=by have:=H.kid hi hk;obtain ⟨e,he⟩:=(H.is (i:=k.toNat) (by omega)).blk h;exact ⟨e,he.of⟩
theorem Qo.kP (H:Qo l) (hi:i<l.length) (hk:k∈(nd l i).kids) (h:Qz l k=24): ∃e,XP l k e:=by have:=H.kid hi hk;obtain ⟨e,he⟩:=(H.is (i:=k.toNat) (by omega)).par h;exact ⟨e,he.of⟩
theorem Qo.kF (H:Qo l) (hi:i<l.length) (hk:k∈(nd l i).kids) (h:Qz l k=25): ∃e,XF l k e:=by have:=H.kid hi hk;obtain ⟨e,he⟩:=(H.is (i:=k.toNat) (by omega)).fn h;exact ⟨e,he.of⟩
theorem XE.one {e f:Ex} (h:XE l k e) (g:XE l k f):e=f:=by have:=h.r.symm.trans g.r;injection this
theorem XS.one {e f:St} (h:XS l k e) (g:XS l k f):e=f:=by have:=h.r.symm.trans g.r;injection this
theorem XB.one {e f:List St} (h:XB l k e) (g:XB l k f):e=f:=by have:=h.r.symm.trans g.r;injection this
theorem XP.one {e f:List UInt8×Nat} (h:XP l k e) (g:XP l k f):e=f:=by have:=h.r.symm.trans g.r;injection this
theorem XF.one {e f:Wd} (h:XF l k e) (g:XF l k f):e=f:=by have:=h.r.symm.trans g.r;injection this
theorem XR.one {e f:List Wd} (h:XR l k e) (g:XR l k f):e=f:=by have:=h.r.symm.trans g.r;injection this
theorem Qo.k1 (H:Qo l) (hi:i<l.length) (hK:(nd l i).kind=1): ∃m:Nat,Qg l i 1 (m:Int) [] []/\XE l i (.num m):=by obtain ⟨hown,Qx⟩:=H.fit hi;have ek:=Jz (K:=1) (by decide) (by rw [<-hK];exact Qx);have es:=Yy hown hK (K:=1) rfl;have hn:=K8 hown hK;obtain ⟨m,em⟩:=Dj (of_decide_eq_true (show decide (0<=(nd l i).n)=true from hn));have hm:=H.hN i hi;have hat:Qg l i _ _ _ _:=⟨H.hA,hi,hK,em,es,ek⟩;exact ⟨m,hat,Qgn hat (by omega)⟩
theorem Qo.k2 (H:Qo l) (hi:i<l.length) (hK:(nd l i).kind=2): ∃b:Bool,Qg l i 2 (if b then 1 else 0) [] []/\XE l i (.bool b):=by obtain ⟨hown,Qx⟩:=H.fit hi;have ek:=Jz (K:=2) (by decide) (by rw [<-hK];exact Qx);have es:=Yy hown hK (K:=2) rfl;obtain ⟨b,eb⟩:=Qat (K8 hown hK);have hat:Qg l i _ _ _ _:=⟨H.hA,hi,hK,eb,es,ek⟩;exact ⟨b,hat,Qch hat⟩
theorem Qo.k3 (H:Qo l) (hi:i<l.length) (hK:(nd l i).kind=3):Qg l i 3 0 [] []/\XE l i .nil:=by obtain ⟨hown,Qx⟩:=H.fit hi;have ek:=Jz (K:=3) (by decide) (by rw [<-hK];exact Qx);have es:=Yy hown hK (K:=3) rfl;have en:=Yk hown hK (K:=3) (λn=>rfl);have hat:Qg l i _ _ _ _:=⟨H.hA,hi,hK,en,es,ek⟩;exact ⟨hat,Qd2 hat⟩
theorem Qo.k4 (H:Qo l) (hi:i<l.length) (hK:(nd l i).kind=4): ∃s,Y6 s/\Qg l i 4 0 s []/\XE l i (.var s):=by obtain ⟨hown,Qx⟩:=H.fit hi;have ek:=Jz (K:=4) (by decide) (by rw [<-hK];exact Qx);have hs:=Vx hown hK (K:=4) rfl;have en:=Yk hown hK (K:=4) (λn=>rfl);have hat:Qg l i _ _ _ _:=⟨H.hA,hi,hK,en,rfl,ek⟩;exact ⟨_,hs,hat,Qbf hat hs⟩
theorem Qo.k5 (H:Qo l) (hi:i<l.length) (hK:(nd l i).kind=5): ∃(op:Nat) (a b:Int) (x y:Ex),1<=op/\op<=16/\Qg l i 5 (op:Int) [] [a,b]/\Qt (Qz l a)=true/\Qt (Qz l b)=true/\XE l a x/\XE l b y/\XE l i (.bin op x y):=by obtain ⟨hown,Qx⟩:=H.fit hi;obtain ⟨a,b,ek,ha,hb⟩:=F6 (K:=5) (by decide) (by rw [<-hK];exact Qx);obtain ⟨xa,hxa⟩:=H.kE hi (k:=a) (by rw [ek];simp) ha;obtain ⟨xb,hxb⟩:=H.kE hi (k:=b) (by rw [ek];simp) hb;have es:=Yy hown hK (K:=5) rfl;have hn:(decide (1<=(nd l i).n)&&decide ((nd l i).n<=16))=true:=K8 hown hK;rw [Q7,Qu,Qu]at hn;obtain ⟨m,em⟩:=Dj (show 0<=(nd l i).n by omega);have hat:Qg l i _ _ _ _:=⟨H.hA,hi,hK,em,es,ek⟩;exact ⟨m,a,b,xa,xb,by omega,by omega,hat,ha,hb,hxa,hxb,Qcn hat (by omega) (by omega) hxa hxb⟩
theorem Qo.k6 (H:Qo l) (hi:i<l.length) (hK:(nd l i).kind=6): ∃(a:Int) (x:Ex),Qg l i 6 0 [] [a]/\Qt (Qz l a)=true/\XE l a x/\XE l i (.neg x):=by obtain ⟨hown,Qx⟩:=H.fit hi;obtain ⟨a,ek,ha⟩:=V6 (K:=6) (by decide) (by rw [<-hK];exact Qx);obtain ⟨xa,hxa⟩:=H.kE hi (k:=a) (by rw [ek];simp) ha;have es:=Yy hown hK (K:=6) rfl;have en:=Yk hown hK (K:=6) (λn=>rfl);have hat:Qg l i _ _ _ _:=⟨H.hA,hi,hK,en,es,ek⟩;exact ⟨a,xa,hat,ha,hxa,Qdz hat hxa⟩
theorem Qo.k7 (H:Qo l) (hi:i<l.length) (hK:(nd l i).kind=7): ∃(a:Int) (x:Ex),Qg l i 7 0 [] [a]/\Qt (Qz l a)=true/\XE l a x/\XE l i (.not x):=by obtain ⟨hown,Qx⟩:=H.fit hi;obtain ⟨a,ek,ha⟩:=V6 (K:=7) (by decide) (by rw [<-hK];exact Qx);obtain ⟨xa,hxa⟩:=H.kE hi (k:=a) (by rw [ek];simp) ha;have es:=Yy hown hK (K:=7) rfl;have en:=Yk hown hK (K:=7) (λn=>rfl);have hat:Qg l i _ _ _ _:=⟨H.hA,hi,hK,en,es,ek⟩;exact ⟨a,xa,hat,ha,hxa,Qbn hat hxa⟩
theorem Qo.k9 (H:Qo l) (hi:i<l.length) (hK:(nd l i).kind=9): ∃(a:Int) (x:Ex),Qg l i 9 0 [] [a]/\Qt (Qz l a)=true/\XE l a x/\XE l i (.len x):=by obtain ⟨hown,Qx⟩:=H.fit hi;obtain ⟨a,ek,ha⟩:=V6 (K:=9) (by decide) (by rw [<-hK];exact Qx);obtain ⟨xa,hxa⟩:=H.kE hi (k:=a) (by rw [ek];simp) ha;have es:=Yy hown hK (K:=9) rfl;have en:=Yk hown hK (K:=9) (λn=>rfl);have hat:Qg l i _ _ _ _:=⟨H.hA,hi,hK,en,es,ek⟩;exact ⟨a,xa,hat,ha,hxa,Qe3 hat hxa⟩
theorem Qo.k10 (H:Qo l) (hi:i<l.length) (hK:(nd l i).kind=10): ∃(a:Int) (x:Ex),Qg l i 10 0 [] [a]/\Qt (Qz l a)=true/\XE l a x/\XE l i (.new x):=by obtain ⟨hown,Qx⟩:=H.fit hi;obtain ⟨a,ek,ha⟩:=V6 (K:=10) (by decide) (by rw [<-hK];exact Qx);obtain ⟨xa,hxa⟩:=H.kE hi (k:=a) (by rw [ek];simp) ha;have es:=Yy hown hK (K:=10) rfl;have en:=Yk hown hK (K:=10) (λn=>rfl);have hat:Qg l i _ _ _ _:=⟨H.hA,hi,hK,en,es,ek⟩;exact ⟨a,xa,hat,ha,hxa,Qdy hat hxa⟩
theorem Qo.k8 (H:Qo l) (hi:i<l.length) (hK:(nd l i).kind=8): ∃(a b:Int) (x y:Ex),Qg l i 8 0 [] [a,b]/\Qt (Qz l a)=true/\Qt (Qz l b)=true/\XE l a x/\XE l b y/\XE l i (.index x y):=by obtain ⟨hown,Qx⟩:=H.fit hi;obtain ⟨a,b,ek,ha,hb⟩:=F6 (K:=8) (by decide) (by rw [<-hK];exact Qx);obtain ⟨xa,hxa⟩:=H.kE hi (k:=a) (by rw [ek];simp) ha;obtain ⟨xb,hxb⟩:=H.kE hi (k:=b) (by rw [ek];simp) hb;have es:=Yy hown hK (K:=8) rfl;have en:=Yk hown hK (K:=8) (λn=>rfl);have hat:Qg l i _ _ _ _:=⟨H.hA,hi,hK,en,es,ek⟩;exact ⟨a,b,xa,xb,hat,ha,hb,hxa,hxb,Qg4 hat hxa hxb⟩
theorem Qo.k11 (H:Qo l) (hi:i<l.length) (hK:(nd l i).kind=11): ∃(s:List UInt8) (ks:List Int) (xs:List Ex),Y6 s/\ks.length<=8/\Qg l i 11 0 s ks/\(∀k∈ks,Qt (Qz l k)=true)/\Xr (XE l) ks xs/\XE l i (.call s xs):=by obtain ⟨hown,Qx⟩:=H.fit hi;obtain ⟨h8,ha⟩:=Qgr (by rw [<-hK];exact Qx);have hs:=Vx hown hK (K:=11) rfl;have en:=Yk hown hK (K:=11) (λn=>rfl);obtain ⟨xs,hxs⟩:=Ck _ λk hk=>H.kE hi hk (ha k hk);have hat:Qg l i _ _ _ _:=⟨H.hA,hi,hK,en,rfl,rfl⟩;exact ⟨_,_,xs,hs,h8,hat,ha,hxs,Qcp hat hs h8 hxs⟩
theorem Qo.k12 (H:Qo l) (hi:i<l.length) (hK:(nd l i).kind=12): ∃(s:List UInt8) (a:Int) (x:Ex),Y6 s/\Qg l i 12 0 s [a]/\Qt (Qz l a)=true/\XE l a x/\XS l i (.let_ s x):=by obtain ⟨hown,Qx⟩:=H.fit hi;obtain ⟨a,ek,ha⟩:=V6 (K:=12) (by decide) (by rw [<-hK];exact Qx);obtain ⟨xa,hxa⟩:=H.kE hi (k:=a) (by rw [ek];simp) ha;have hs:=Vx hown hK (K:=12) rfl;have en:=Yk hown hK (K:=12) (λn=>rfl);have hat:Qg l i _ _ _ _:=⟨H.hA,hi,hK,en,rfl,ek⟩;exact ⟨_,a,xa,hs,hat,ha,hxa,Qga hat hs hxa⟩
theorem Qo.k13 (H:Qo l) (hi:i<l.length) (hK:(nd l i).kind=13): ∃(s:List UInt8) (a:Int) (x:Ex),Y6 s/\Qg l i 13 0 s [a]/\Qt (Qz l a)=true/\XE l a x/\XS l i (.set s x):=by obtain ⟨hown,Qx⟩:=H.fit hi;obtain ⟨a,ek,ha⟩:=V6 (K:=13) (by decide) (by rw [<-hK];exact Qx);obtain ⟨xa,hxa⟩:=H.kE hi (k:=a) (by rw [ek];simp) ha;have hs:=Vx hown hK (K:=13) rfl;have en:=Yk hown hK (K:=13) (λn=>rfl);have hat:Qg l i _ _ _ _:=⟨H.hA,hi,hK,en,rfl,ek⟩;exact ⟨_,a,xa,hs,hat,ha,hxa,Qgc hat hs hxa⟩
theorem Qo.k14 (H:Qo l) (hi:i<l.length) (hK:(nd l i).kind=14): ∃(s:List UInt8) (a b:Int) (x y:Ex),Y6 s/\Qg l i 14 0 s [a,b]/\Qt (Qz l a)=true/\Qt (Qz l b)=true/\XE l a x/\XE l b y/\XS l i (.put s x y):=by obtain ⟨hown,Qx⟩:=H.fit hi;obtain ⟨a,b,ek,ha,hb⟩:=F6 (K:=14) (by decide) (by rw [<-hK];exact Qx);obtain ⟨xa,hxa⟩:=H.kE hi (k:=a) (by rw [ek];simp) ha;obtain ⟨xb,hxb⟩:=H.kE hi (k:=b) (by rw [ek];simp) hb;have hs:=Vx hown hK (K:=14) rfl;have en:=Yk hown hK (K:=14) (λn=>rfl);have hat:Qg l i _ _ _ _:=⟨H.hA,hi,hK,en,rfl,ek⟩;exact ⟨_,a,b,xa,xb,hs,hat,ha,hb,hxa,hxb,Qcl hat hs hxa hxb⟩
theorem Qo.k15 (H:Qo l) (hi:i<l.length) (hK:(nd l i).kind=15):(∃(a b:Int) (x:Ex) (y:List St),Qg l i 15 0 [] [a,b]/\Qt (Qz l a)=true/\Qz l b=23/\XE l a x/\XB l b y/\XS l i (.if_ x y))\/ ∃(a b c:Int) (x:Ex) (y z:List St),Qg l i 15 0 [] [a,b,c]/\Qt (Qz l a)=true/\Qz l b=23/\Qz l c=23/\XE l a x/\XB l b y/\XB l c z/\XS l i (.Kt x y z):=by
 obtain ⟨hown,Qx⟩:=H.fit hi;have es:=Yy hown hK (K:=15) rfl;have en:=Yk hown hK (K:=15) (λn=>rfl);rcases Qfw (by rw [<-hK];exact Qx)with ⟨a,b,ek,ha,hb⟩ |⟨a,b,c,ek,ha,hb,hc⟩
 ·obtain ⟨xa,hxa⟩:=H.kE hi (k:=a) (by rw [ek];simp) ha;obtain ⟨xb,hxb⟩:=H.kB hi (k:=b) (by rw [ek];simp) hb;have hat:Qg l i _ _ _ _:=⟨H.hA,hi,hK,en,es,ek⟩;exact .inl ⟨a,b,xa,xb,hat,ha,hb,hxa,hxb,Qdr hat hxa hxb⟩
 ·obtain ⟨xa,hxa⟩:=H.kE hi (k:=a) (by rw [ek];simp) ha;obtain ⟨xb,hxb⟩:=H.kB hi (k:=b) (by rw [ek];simp) hb;obtain ⟨xc,hxc⟩:=H.kB hi (k:=c) (by rw [ek];simp) hc;have hat:Qg l i _ _ _ _:=⟨H.hA,hi,hK,en,es,ek⟩;exact .inr ⟨a,b,c,xa,xb,xc,hat,ha,hb,hc,hxa,hxb,hxc,Qbu hat hxa hxb hxc⟩
theorem Qo.k16 (H:Qo l) (hi:i<l.length) (hK:(nd l i).kind=16): ∃(a b:Int) (x:Ex) (y:List St),Qg l i 16 0 [] [a,b]/\Qt (Qz l a)=true/\Qz l b=23/\XE l a x/\XB l b y/\XS l i (.Kn x y):=by obtain ⟨hown,Qx⟩:=H.fit hi;obtain ⟨a,b,ek,ha,hb⟩:=Qgo (by rw [<-hK];exact Qx);obtain ⟨xa,hxa⟩:=H.kE hi (k:=a) (by rw [ek];simp) ha;obtain ⟨xb,hxb⟩:=H.kB hi (k:=b) (by rw [ek];simp) hb;have es:=Yy hown hK (K:=16) rfl;have en:=Yk hown hK (K:=16) (λn=>rfl);have hat:Qg l i _ _ _ _:=⟨H.hA,hi,hK,en,es,ek⟩;exact ⟨a,b,xa,xb,hat,ha,hb,hxa,hxb,Qeg hat hxa hxb⟩
theorem Qo.k17 (H:Qo l) (hi:i<l.length) (hK:(nd l i).kind=17): ∃(s:List UInt8) (a b c:Int) (x y:Ex) (z:List St),Y6 s/\Qg l i 17 0 s [a,b,c]/\Qt (Qz l a)=true/\Qt (Qz l b)=true/\Qz l c=23/\XE l a x/\XE l b y/\XB l c z/\XS l i (.for_ s x y z):=by obtain ⟨hown,Qx⟩:=H.fit hi;obtain ⟨a,b,c,ek,ha,hb,hc⟩:=Qbg (by rw [<-hK];exact Qx);obtain ⟨xa,hxa⟩:=H.kE hi (k:=a) (by rw [ek];simp) ha;obtain ⟨xb,hxb⟩:=H.kE hi (k:=b) (by rw [ek];simp) hb;obtain ⟨xc,hxc⟩:=H.kB hi (k:=c) (by rw [ek];simp) hc;have hs:=Vx hown hK (K:=17) rfl;have en:=Yk hown hK (K:=17) (λn=>rfl);have hat:Qg l i _ _ _ _:=⟨H.hA,hi,hK,en,rfl,ek⟩;exact ⟨_,a,b,c,xa,xb,xc,hs,hat,ha,hb,hc,hxa,hxb,hxc,Qav hat hs hxa hxb hxc⟩
theorem Qo.k18 (H:Qo l) (hi:i<l.length) (hK:(nd l i).kind=18):Qg l i 18 0 [] []/\XS l i .brk:=by obtain ⟨hown,Qx⟩:=H.fit hi;have ek:=Jz (K:=18) (by decide) (by rw [<-hK];exact Qx);have es:=Yy hown hK (K:=18) rfl;have en:=Yk hown hK (K:=18) (λn=>rfl);have hat:Qg l i _ _ _ _:=⟨H.hA,hi,hK,en,es,ek⟩;exact ⟨hat,Qfj hat⟩
theorem Qo.k19 (H:Qo l) (hi:i<l.length) (hK:(nd l i).kind=19):Qg l i 19 0 [] []/\XS l i .cont:=by obtain ⟨hown,Qx⟩:=H.fit hi;have ek:=Jz (K:=19) (by decide) (by rw [<-hK];exact Qx);have es:=Yy hown hK (K:=19) rfl;have en:=Yk hown hK (K:=19) (λn=>rfl);have hat:Qg l i _ _ _ _:=⟨H.hA,hi,hK,en,es,ek⟩;exact ⟨hat,Qbl hat⟩
theorem Qo.k20 (H:Qo l) (hi:i<l.length) (hK:(nd l i).kind=20): ∃(a:Int) (x:Ex),Qg l i 20 0 [] [a]/\Qt (Qz l a)=true/\XE l a x/\XS l i (.ret x):=by obtain ⟨hown,Qx⟩:=H.fit hi;obtain ⟨a,ek,ha⟩:=V6 (K:=20) (by decide) (by rw [<-hK];exact Qx);obtain ⟨xa,hxa⟩:=H.kE hi (k:=a) (by rw [ek];simp) ha;have es:=Yy hown hK (K:=20) rfl;have en:=Yk hown hK (K:=20) (λn=>rfl);have hat:Qg l i _ _ _ _:=⟨H.hA,hi,hK,en,es,ek⟩;exact ⟨a,xa,hat,ha,hxa,Qdu hat hxa⟩
theorem Qo.k21 (H:Qo l) (hi:i<l.length) (hK:(nd l i).kind=21): ∃(a:Int) (x:Ex),Qg l i 21 0 [] [a]/\Qt (Qz l a)=true/\XE l a x/\XS l i (.print x):=by obtain ⟨hown,Qx⟩:=H.fit hi;obtain ⟨a,ek,ha⟩:=V6 (K:=21) (by decide) (by rw [<-hK];exact Qx);obtain ⟨xa,hxa⟩:=H.kE hi (k:=a) (by rw [ek];simp) ha;have es:=Yy hown hK (K:=21) rfl;have en:=Yk hown hK (K:=21) (λn=>rfl);have hat:Qg l i _ _ _ _:=⟨H.hA,hi,hK,en,es,ek⟩;exact ⟨a,xa,hat,ha,hxa,Qdp hat hxa⟩
theorem Qo.k22 (H:Qo l) (hi:i<l.length) (hK:(nd l i).kind=22): ∃(a:Int) (s:List UInt8) (xs:List Ex),Qg l i 22 0 [] [a]/\Qz l a=11/\XE l a (.call s xs)/\XS l i (.do_ s xs):=by obtain ⟨hown,Qx⟩:=H.fit hi;obtain ⟨a,ek,ha⟩:=Qfc (by rw [<-hK];exact Qx);have es:=Yy hown hK (K:=22) rfl;have en:=Yk hown hK (K:=22) (λn=>rfl);have hak:=H.kid hi (k:=a) (by rw [ek];simp);obtain ⟨e,he,h11⟩:=(H.is (i:=a.toNat) (by omega)).ex (by show Qt (Qz l a)=true;rw [ha];rfl);obtain ⟨s,xs,rfl⟩:=h11 ha;have hat:Qg l i _ _ _ _:=⟨H.hA,hi,hK,en,es,ek⟩;exact ⟨a,s,xs,hat,ha,he.of,Qcr hat he.of⟩
theorem Qo.k23 (H:Qo l) (hi:i<l.length) (hK:(nd l i).kind=23): ∃(ks:List Int) (b:List St),Qg l i 23 0 [] ks/\(∀k∈ks,Y9 (Qz l k)=true)/\Xr (XS l) ks b/\XB l i b:=by obtain ⟨hown,Qx⟩:=H.fit hi;have ha:=Qaq (by rw [<-hK];exact Qx);have es:=Yy hown hK (K:=23) rfl;have en:=Yk hown hK (K:=23) (λn=>rfl);obtain ⟨xs,hxs⟩:=Ck _ λk hk=>H.kS hi hk (ha k hk);have hat:Qg l i _ _ _ _:=⟨H.hA,hi,hK,en,es,rfl⟩;exact ⟨_,xs,hat,ha,hxs,Qa0 hat hxs⟩
theorem Qo.k24 (H:Qo l) (hi:i<l.length) (hK:(nd l i).kind=24): ∃(s:List UInt8) (m:Nat),Y6 s/\1<=m/\m<=3/\Qg l i 24 (m:Int) s []/\XP l i (s,m):=by obtain ⟨hown,Qx⟩:=H.fit hi;have ek:=Jz (K:=24) (by decide) (by rw [<-hK];exact Qx);have hs:=Vx hown hK (K:=24) rfl;have hn:(decide (1<=(nd l i).n)&&decide ((nd l i).n<=3))=true:=K8 hown hK;rw [Q7,Qu,Qu]at hn;obtain ⟨m,em⟩:=Dj (show 0<=(nd l i).n by omega);have hat:Qg l i _ _ _ _:=⟨H.hA,hi,hK,em,rfl,ek⟩;exact ⟨_,m,hs,by omega,by omega,hat,Qez hat hs (by omega) (by omega)⟩
theorem Qo.k25 (H:Qo l) (hi:i<l.length) (hK:(nd l i).kind=25): ∃(s:List UInt8) (m:Nat) (ks:List Int) (b:Int) (ps:List (List UInt8×Nat)) (c:List St),Y6 s/\1<=m/\m<=3/\ks.length<=8/\Qg l i 25 (m:Int) s (ks++[b])/\(∀k∈ks,Qz l k=24)/\Qz l b=23/\Xr (XP l) ks ps/\XB l b c/\XF l i ⟨s,ps,m,c⟩:=by obtain ⟨hown,Qx⟩:=H.fit hi;obtain ⟨ps,b,ek,h8,ha,hb⟩:=Qe7 (by rw [<-hK];exact Qx);have hs:=Vx hown hK (K:=25) rfl;have hn:(decide (1<=(nd l i).n)&&decide ((nd l i).n<=3))=true:=K8 hown hK;rw [Q7,Qu,Qu]at hn;obtain ⟨m,em⟩:=Dj (show 0<=(nd l i).n by omega);obtain ⟨xb,hxb⟩:=H.kB hi (k:=b) (by rw [ek];simp) hb;obtain ⟨xs,hxs⟩:=Ck (P:=XP l) ps λk hk=>H.kP hi (by rw [ek];exact List.mem_append_left _ hk) (ha k hk);have hat:Qg l i _ _ _ _:=⟨H.hA,hi,hK,em,rfl,ek⟩;exact ⟨_,m,ps,b,xs,xb,hs,by omega,by omega,h8,hat,ha,hb,hxs,hxb,Qf8 hat hs (by omega) (by omega) h8 hxs hxb⟩
theorem Qo.k26 (H:Qo l) (hi:i<l.length) (hK:(nd l i).kind=26): ∃(ks:List Int) (fs:List Wd),ks.length<=200/\Qg l i 26 0 [] ks/\(∀k∈ks,Qz l k=25)/\Xr (XF l) ks fs/\XR l i fs:=by obtain ⟨hown,Qx⟩:=H.fit hi;obtain ⟨h2,ha⟩:=Qew (by rw [<-hK];exact Qx);have es:=Yy hown hK (K:=26) rfl;have en:=Yk hown hK (K:=26) (λn=>rfl);obtain ⟨xs,hxs⟩:=Ck (P:=XF l) _ λk hk=>H.kF hi hk (ha k hk);have hat:Qg l i _ _ _ _:=⟨H.hA,hi,hK,en,es,rfl⟩;exact ⟨_,xs,h2,hat,ha,hxs,Qfz hat h2 hxs⟩
def Yf (K n:Int):Nat:=if K=5 then (if n<0\/16<n then 0 else stOp n.toNat)else if K=6\/K=7 then 6 else if Qt K then 7 else 0
theorem Qo.st (H:Qo l) (hi:i<l.length) {e:Ex} (hx:Qt (nd l i).kind=true) (h:XE l i e):Yf (nd l i).kind (nd l i).n=e.st:=by
 have hk:=Ke hx;have hcases:(nd l i).kind=1\/(nd l i).kind=2\/(nd l i).kind=3\/(nd l i).kind=4\/(nd l i).kind=5\/(nd l i).kind=6\/(nd l i).kind=7\/(nd l i).kind=8\/(nd l i).kind=9\/(nd l i).kind=10\/(nd l i).kind=11:=by omega
 rcases hcases with hK |hK |hK |hK |hK |hK |hK |hK |hK |hK |hK
 ·obtain ⟨m,ha,hx⟩:=H.k1 hi hK;rw [h.one hx,hK];rfl
 ·obtain ⟨m,ha,hx⟩:=H.k2 hi hK;rw [h.one hx,hK];rfl
 ·obtain ⟨ha,hx⟩:=H.k3 hi hK;rw [h.one hx,hK];rfl
 ·obtain ⟨s,hs,ha,hx⟩:=H.k4 hi hK;rw [h.one hx,hK];rfl
 ·obtain ⟨op,a,b,x,y,h1,h16,ha,_,_,_,_,hx⟩:=H.k5 hi hK;rw [h.one hx,hK,ha.n];unfold Yf;rw [Wy rfl,Q6 (by omega)];rfl
 ·obtain ⟨a,x,ha,_,_,hx⟩:=H.k6 hi hK;rw [h.one hx,hK];rfl
 ·obtain ⟨a,x,ha,_,_,hx⟩:=H.k7 hi hK;rw [h.one hx,hK];rfl
 ·obtain ⟨a,b,x,y,ha,_,_,_,_,hx⟩:=H.k8 hi hK;rw [h.one hx,hK];rfl
 ·obtain ⟨a,x,ha,_,_,hx⟩:=H.k9 hi hK;rw [h.one hx,hK];rfl
 ·obtain ⟨a,x,ha,_,_,hx⟩:=H.k10 hi hK;rw [h.one hx,hK];rfl
 ·obtain ⟨s,ks,xs,_,_,ha,_,_,hx⟩:=H.k11 hi hK;rw [h.one hx,hK];rfl
theorem Qma {op a:Nat} (h1:1<=op) (h16:op<=16):decide (a<=Ec op)=(decide (a<stOp op)||(decide (a=stOp op)&&decide (stOp op=3))):=by
 have h:1<=stOp op/\Ec op=if stOp op=3 then 3 else stOp op-1:=⟨(by decide: ∀op,op<17->1<=op->1<=stOp op) op (by omega) h1,rfl⟩;rw [h.2];by_cases h3:stOp op=3
 ·rw [Wy h3,h3];by_cases ha:a<=3
  ·rw [decide_eq_true ha];by_cases hb:a<3
   ·rw [decide_eq_true hb];rfl
   ·rw [decide_eq_false hb,decide_eq_true (show a=3 by omega)];rfl
  ·rw [decide_eq_false ha,decide_eq_false (show¬a<3 by omega),decide_eq_false (show¬a=3 by omega)];rfl
 ·rw [Q6 h3,decide_eq_false h3,Bool.and_false,Bool.or_false];congr 1;exact propext ⟨λh=>by omega,λh=>by omega⟩
end
section
open Go.RowKit
def Qbx:Array Value:=(flat (H:=Unit) Rows.laid_balustrade_prose_heads).toArray
def Qd0:Array Value:=(flat (H:=Unit) Rows.laid_balustrade_prose_strengths).toArray
def Qqg:List (List UInt8):=[[],[],[],[],[],[],[45],[33],[],[108,101,110],[110,101,119],[],[118,97,114,32],[],[],[105,102,32],[119,104,105,108,101,32],[102,111,114,32],[98,114,101,97,107],[99,111,110,116,105,110,117,101],[114,101,116,117,114,110,32],[112,114,105,110,116,32],[],[],[],[102,110,32]]
theorem Z0: ∀k,k<26->Qbx[k]? =some (txt (Qqg.getD k []))
 | 0,_=>by kernel_rfl
 | 1,_=>by kernel_rfl
 | 2,_=>by kernel_rfl
 | 3,_=>by kernel_rfl
 | 4,_=>by kernel_rfl
 | 5,_=>by kernel_rfl
 | 6,_=>by kernel_rfl
 | 7,_=>by kernel_rfl
 | 8,_=>by kernel_rfl
 | 9,_=>by kernel_rfl
 | 10,_=>by kernel_rfl
 | 11,_=>by kernel_rfl
 | 12,_=>by kernel_rfl
 | 13,_=>by kernel_rfl
 | 14,_=>by kernel_rfl
 | 15,_=>by kernel_rfl
 | 16,_=>by kernel_rfl
 | 17,_=>by kernel_rfl
 | 18,_=>by kernel_rfl
 | 19,_=>by kernel_rfl
 | 20,_=>by kernel_rfl
 | 21,_=>by kernel_rfl
 | 22,_=>by kernel_rfl
 | 23,_=>by kernel_rfl
 | 24,_=>by kernel_rfl
 | 25,_=>by kernel_rfl
 |n+26,h=>by omega
theorem Qi7: ∀k,k<17->Qd0[k]? =some (.int .i64 (stOp k:Int))
 | 0,_=>by kernel_rfl
 | 1,_=>by kernel_rfl
 | 2,_=>by kernel_rfl
 | 3,_=>by kernel_rfl
 | 4,_=>by kernel_rfl
 | 5,_=>by kernel_rfl
 | 6,_=>by kernel_rfl
 | 7,_=>by kernel_rfl
 | 8,_=>by kernel_rfl
 | 9,_=>by kernel_rfl
 | 10,_=>by kernel_rfl
 | 11,_=>by kernel_rfl
 | 12,_=>by kernel_rfl
 | 13,_=>by kernel_rfl
 | 14,_=>by kernel_rfl
 | 15,_=>by kernel_rfl
 | 16,_=>by kernel_rfl
 |n+17,h=>by omega
structure Jf (w:World):Prop where
 tabs:Xp w
 heads: ∃t fr,w.heap[0]? =some (.cells Qbx t fr)
 strs: ∃t fr,w.heap[1]? =some (.cells Qd0 t fr)
theorem Jf.below {w w':World} (h:Jf w) (hb:Below w.heap.size w w'):Jf w':=
 ⟨h.tabs.below hb,Wm h.heads hb,Wm h.strs hb⟩
theorem Qfu {n:Int} (h:n<0\/17<=n):Yf 5 n=0:=by unfold Yf;rw [Wy rfl,Wy (by omega)]
theorem Qgg {k:Nat} (h:k<17):Yf 5 (k:Int)=stOp k:=by unfold Yf;rw [Wy rfl,Q6 (by omega),Jo]
theorem Qh0 {K n:Int} (h5:K≠5) (h6:K≠6) (h7:K≠7) (h:Qt K=true):Yf K n=7:=by unfold Yf;rw [Q6 h5,Q6 (by omega),Wy h]
theorem Qg3 {K n:Int} (h:Qt K=false):Yf K n=0:=by
 have:K≠5/\K≠6/\K≠7:=by refine ⟨?_,?_,?_⟩<;>(intro e;rw [e]at h;exact absurd h (by decide))
 unfold Yf;rw [Q6 this.1,Q6 (by omega),Q6 (by rw [h];decide)]
theorem Vq (K n:Int) (ka:Option Addr) (m kc:Nat) (s:ByteArray) (at_:Int) (w:World) (hT:Jf w):
  Calls prog 11 #[.agg #[.int .i64 K,.slice ka m kc,.int .i64 n,.string s,.int .i64 at_]] w λe w'=>e= .returned (.int .i64 ((Yf K n:Nat):Int))/\Below w.heap.size w w':=by
 have HB1:Hid (Below w.heap.size w (w.alloc (.cells #[.int .i64 K,.slice ka m kc,.int .i64 n,.string s,.int .i64 at_] 25))):=Qn;have HT:=Qa hT;clear hT;by_cases k5:K=5
 ·subst k5;rcases (show n<0\/0<=n by omega)with h |h
  ·have HS:=Qa (Qfu (.inl h));go_enter func11,ntmps11;go_wp2_with fail;go_ret;exact ⟨by rw [HS.out];rfl,HB1.out⟩
  ·rcases (show n<17\/17<=n by omega)with h2 |h2
   ·obtain ⟨k,rfl⟩: ∃k:Nat,n=k:=⟨n.toNat,by omega⟩;have hk:k<17:=(by omega);have HS:=Qa (Qgg hk);have hc:=Wv (HT.out.below HB1.out).strs (Qi7 k hk);go_enter func11,ntmps11;go_wp2_with fail;go_ret;exact ⟨by rw [HS.out];rfl,HB1.out⟩
   ·have HS:=Qa (Qfu (.inr h2));go_enter func11,ntmps11;go_wp2_with fail;go_ret;exact ⟨by rw [HS.out];rfl,HB1.out⟩
 ·by_cases Mr:K=6\/K=7
  ·rcases Mr with rfl |rfl
   ·go_enter func11,ntmps11;go_wp2_with fail;go_ret;exact ⟨rfl,HB1.out⟩
   ·go_enter func11,ntmps11;go_wp2_with fail;go_ret;exact ⟨rfl,HB1.out⟩
  ·have k6: ¬K=6:=λe=>Mr (.inl e);have k7: ¬K=7:=λe=>Mr (.inr e);clear Mr;cases hx:Qt K with
   |true=>
    have HS:=Qa (Qh0 (n:=n) k5 k6 k7 hx);have hin:=Ke hx;have hcases:K=1\/K=2\/K=3\/K=4\/K=8\/K=9\/K=10\/K=11:=(by omega);clear hx hin k5 k6 k7;rcases hcases with rfl |rfl |rfl |rfl |rfl |rfl |rfl |rfl
    all_goals
     go_enter func11,ntmps11;go_wp2_with fail;go_ret;exact ⟨rfl,HB1.out⟩
   |false=>
    have HS:=Qa (Qg3 (n:=n) hx);have hout:K<1\/11<K:=(by unfold Qt at hx;simp at hx;omega);have k1: ¬K=1:=(by omega);have k2: ¬K=2:=(by omega);have k3: ¬K=3:=(by omega);have k4: ¬K=4:=(by omega);have k8: ¬K=8:=(by omega);have k9: ¬K=9:=(by omega);have k10: ¬K=10:=(by omega);have k11: ¬K=11:=(by omega);clear hout hx;go_enter func11,ntmps11;go_wp2_with fail;go_ret;exact ⟨by rw [HS.out];rfl,HB1.out⟩
end
end Go.Proofs.YtdncpkkhkbijfaaDoor
