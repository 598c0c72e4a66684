import Derived.Test.YtdncpkkhkbijfaaDoorTe17
import Derived.Test.YtdncpkkhkbijfaaDoorTe18
import Derived.Test.YtdncpkkhkbijfaaDoorTe19
import Derived.StillTail
open Go.Proofs.Tryd
set_option linter.all false
set_option maxHeartbeats 0
set_option maxRecDepth 100000
namespace Go.Proofs.YtdncpkkhkbijfaaDoor
section
open Go.RowKit
theorem Qjl {Q:Ql} (H:Qo Q.P.l): ∀N i,i<N->i<Q.P.l.length->(Y9 (nd Q.P.l i).kind=true-> ∀a,XS Q.P.l (i:Int) a-> ∀d,Xf Q i d (a.txt d))/\((nd Q.P.l i).kind=23-> ∀b,XB Q.P.l (i:Int) b-> ∀d,Xf Q i d (Ww b d)):=by
 intro N
 induction N with
 |zero=>intro i h;omega
 |succ N ih=>
  intro i Cv hi;have K5: ∀k∈(nd Q.P.l i).kids,Qt (Qz Q.P.l k)=true-> ∀x,XE Q.P.l k x-> ∃q:Nat,k=(q:Int)/\Yr Q.P q x:=by intro k hk hkx x hX;have hk2:=H.kid hi hk;obtain ⟨q,rfl⟩: ∃q:Nat,k=q:=⟨k.toNat,by omega⟩;exact ⟨q,rfl,Qcx H (q+1) q (by omega) (by omega) hkx x hX⟩
  have Lm: ∀k∈(nd Q.P.l i).kids,Qz Q.P.l k=23-> ∀b,XB Q.P.l k b-> ∃q:Nat,k=(q:Int)/\ ∀d,Xf Q q d (Ww b d):=by intro k hk hkx b hX;have hk2:=H.kid hi hk;obtain ⟨q,rfl⟩: ∃q:Nat,k=q:=⟨k.toNat,by omega⟩;exact ⟨q,rfl,(ih q (by omega) (by omega)).2 hkx b hX⟩
  have Qm0: ∀k∈(nd Q.P.l i).kids,Y9 (Qz Q.P.l k)=true-> ∀a,XS Q.P.l k a-> ∃q:Nat,k=(q:Int)/\ ∀d,Xf Q q d (a.txt d):=by intro k hk hkx a hX;have hk2:=H.kid hi hk;obtain ⟨q,rfl⟩: ∃q:Nat,k=q:=⟨k.toNat,by omega⟩;exact ⟨q,rfl,(ih q (by omega) (by omega)).1 hkx a hX⟩
  refine ⟨λhx e he d=> ?_,λhK b hb d=> ?_⟩
  ·have hin:=Aa hx;have hcases:(nd Q.P.l i).kind=12\/(nd Q.P.l i).kind=13\/(nd Q.P.l i).kind=14\/(nd Q.P.l i).kind=15\/(nd Q.P.l i).kind=16\/(nd Q.P.l i).kind=17\/(nd Q.P.l i).kind=18\/(nd Q.P.l i).kind=19\/(nd Q.P.l i).kind=20\/(nd Q.P.l i).kind=21\/(nd Q.P.l i).kind=22:=(by omega);rcases hcases with hK |hK |hK |hK |hK |hK |hK |hK |hK |hK |hK
   ·obtain ⟨s,a,x,hs,ha,hxa,hX,hE⟩:=H.k12 hi hK;rw [he.one hE];obtain ⟨q,rfl,hp⟩:=K5 a (by rw [ha.ks];simp) hxa x hX;exact Qlf ha hs hp
   ·obtain ⟨s,a,x,hs,ha,hxa,hX,hE⟩:=H.k13 hi hK;rw [he.one hE];obtain ⟨q,rfl,hp⟩:=K5 a (by rw [ha.ks];simp) hxa x hX;exact Qkn ha hs hp
   ·obtain ⟨s,a,b,x,y,hs,ha,hxa,hxb,hX,hY,hE⟩:=H.k14 hi hK;rw [he.one hE];obtain ⟨q,rfl,hp⟩:=K5 a (by rw [ha.ks];simp) hxa x hX;obtain ⟨r,rfl,hp'⟩:=K5 b (by rw [ha.ks];simp) hxb y hY;exact Ql4 ha hs hp hp'
   ·rcases H.k15 hi hK with ⟨a,b,x,y,ha,hxa,hxb,hX,hY,hE⟩ |⟨a,b,c,x,y,z,ha,hxa,hxb,hxc,hX,hY,hZ,hE⟩
    ·rw [he.one hE];obtain ⟨q,rfl,hp⟩:=K5 a (by rw [ha.ks];simp) hxa x hX;obtain ⟨r,rfl,hp'⟩:=Lm b (by rw [ha.ks];simp) hxb y hY;exact Qpy ha hp (hp' d)
    ·rw [he.one hE];obtain ⟨q,rfl,hp⟩:=K5 a (by rw [ha.ks];simp) hxa x hX;obtain ⟨r,rfl,hp'⟩:=Lm b (by rw [ha.ks];simp) hxb y hY;obtain ⟨u,rfl,hp''⟩:=Lm c (by rw [ha.ks];simp) hxc z hZ;exact Qrq ha hp (hp' d) (hp'' d)
   ·obtain ⟨a,b,x,y,ha,hxa,hxb,hX,hY,hE⟩:=H.k16 hi hK;rw [he.one hE];obtain ⟨q,rfl,hp⟩:=K5 a (by rw [ha.ks];simp) hxa x hX;obtain ⟨r,rfl,hp'⟩:=Lm b (by rw [ha.ks];simp) hxb y hY;exact Qoi ha hp (hp' d)
   ·obtain ⟨s,a,b,c,x,y,z,hs,ha,hxa,hxb,hxc,hX,hY,hZ,hE⟩:=H.k17 hi hK;rw [he.one hE];obtain ⟨q,rfl,hp⟩:=K5 a (by rw [ha.ks];simp) hxa x hX;obtain ⟨r,rfl,hp'⟩:=K5 b (by rw [ha.ks];simp) hxb y hY;obtain ⟨u,rfl,hp''⟩:=Lm c (by rw [ha.ks];simp) hxc z hZ;exact Qrh ha hs hp hp' (hp'' d)
   ·obtain ⟨ha,hE⟩:=H.k18 hi hK;rw [he.one hE];exact Qh6 ha
   ·obtain ⟨ha,hE⟩:=H.k19 hi hK;rw [he.one hE];exact Qom ha
   ·obtain ⟨a,x,ha,hxa,hX,hE⟩:=H.k20 hi hK;rw [he.one hE];obtain ⟨q,rfl,hp⟩:=K5 a (by rw [ha.ks];simp) hxa x hX;exact Qll ha hp
   ·obtain ⟨a,x,ha,hxa,hX,hE⟩:=H.k21 hi hK;rw [he.one hE];obtain ⟨q,rfl,hp⟩:=K5 a (by rw [ha.ks];simp) hxa x hX;exact Qro ha hp
   ·obtain ⟨a,s,xs,ha,hxa,hX,hE⟩:=H.k22 hi hK;rw [he.one hE];obtain ⟨q,rfl,hp⟩:=K5 a (by rw [ha.ks];simp) (by rw [hxa];rfl) _ hX;exact Qi4 ha hp
  ·obtain ⟨ks,c,ha,hkx,hX,hE⟩:=H.k23 hi hK;rw [hb.one hE];refine Qil ha (Cw hX) λj hj=> ?_;have hm:=Ll hj;obtain ⟨q,hq,hp⟩:=Qm0 (ks.getD j 0) (by rw [ha.ks];exact hm) (hkx _ hm) _ (Nn (d:=St.brk) hX j hj);exact ⟨q,by rw [Nt hj,hq],hp (d+1)⟩
end
section
def stand (t:Oper):Oper:={t with op:=.move (.const undef),dst:=none,guard:=none}
def Xd (ops:Array Oper) (n:Nat):Array Oper:=ops.modify n stand
theorem Uo {ops:Array Oper} {n i:Nat} (h:i≠n):(Xd ops n)[i]? =ops[i]?:=by unfold Xd;rw [Array.getElem?_modify,Q6 (Ne.symm h)]
theorem Rl {ops:Array Oper} {n:Nat} {t:Oper} (h:ops[n]? =some t):(Xd ops n)[n]? =some (stand t):=by unfold Xd;rw [Array.getElem?_modify,Wy rfl,h];rfl
theorem Ut {md:Region.Mode} {ops:Array Oper} {n:Nat} {listed:Array Bool} {j:Nat}:j∈Region.ready md (Xd ops n) listed↔j∈Region.ready md ops listed:=by
 rw [mem_ready,mem_ready];refine and_congr Iff.rfl ?_;by_cases hj:j=n
 ·subst hj;cases ho:ops[j]? with
  |none=>
   have:(Xd ops j)[j]? =none:=(by unfold Xd;rw [Array.getElem?_modify,Wy rfl,ho];rfl);rw [this]
  |some t=>
   rw [Rl ho];exact ⟨λ⟨o,h1,h2⟩=>⟨t,rfl,by injection h1 with h1;subst h1;exact h2⟩,λ⟨o,h1,h2⟩=>⟨stand t,rfl,by injection h1 with h1;subst h1;exact h2⟩⟩
 ·rw [Uo hj]
def Ou (ops:Array Oper) (n:Nat):Bool:=
 decide (n+1=ops.size)&&ops.all (λo=>o.guard.isNone)&&(List.range ops.size).all (λj=>match ops[j]? with |some o=>o.after.all (λe=>decide (e.on<j)) |none=>true)
  &&Region.sinkB .any ops n&&Region.chainB .any ops n&&Region.lexB .any (Xd ops n)
structure Nu (ops:Array Oper) (n:Nat):Prop where
 size:n+1=ops.size
 free: ∀(j:Nat) (o:Oper),ops[j]? =some o->o.guard=none
 back: ∀(j:Nat) (o:Oper),ops[j]? =some o-> ∀e∈o.after,e.on<j
 sink:Region.sinkB .any ops n=true
 chain:Region.chainB .any ops n=true
 lex:Region.lexB .any (Xd ops n)=true
theorem Qj7 {ops:Array Oper} {n:Nat} (h:Ou ops n=true):Nu ops n:=by
 unfold Ou at h;simp only [Q7,Qu]at h;obtain ⟨⟨⟨⟨⟨h1,h2⟩,h3⟩,h4⟩,h5⟩,h6⟩:=h;refine ⟨h1,λj o ho=> ?_,λj o ho e he=> ?_,h4,h5,h6⟩
 ·have:=Array.all_eq_true_iff_forall_mem.1 h2 o (Array.mem_of_getElem? ho);exact Option.isNone_iff_eq_none.1 this
 ·have hj:j<ops.size:=(Array.getElem?_eq_some_iff.1 ho).1;have:=List.all_eq_true.1 h3 j (List.mem_range.2 hj);simp only [ho]at this;have:=Array.all_eq_true_iff_forall_mem.1 this e he;simpa using this
theorem L9 {o:Oper} (h:o.guard=none) (f:Nat->Option Bool):Region.wanted o f=true:=by unfold Region.wanted;rw [h]
section
variable {P:Program}{ops:Array Oper}{n:Nat}{C:World→Prop}
theorem Qer (H:Nu ops n) {listed:Array Bool} (hz:listed.size=ops.size): ∀(N m:Nat),m<N->m<ops.size->listed.getD m true=false->Region.ready .any ops listed≠[]:=by
 intro N
 induction N with
 |zero=>intro m h;omega
 |succ N ih=>
  intro m hm hlt hun h0;obtain ⟨o,ho⟩: ∃o,ops[m]? =some o:=⟨ops[m],Array.getElem?_eq_getElem hlt⟩;by_cases hall: ∀e∈o.after,Region.binds .any e=true->listed.getD e.on false=true
  ·have:m∈Region.ready .any ops listed:=mem_ready.2 ⟨hun,o,ho,hall⟩;rw [h0]at this;cases this
  ·simp only [Classical.not_forall]at hall;obtain ⟨e,he,hb,hl⟩:=hall;have hlt':=H.back m o ho e he;exact ih e.on (by omega) (by omega) (getD_in (by omega) (by simpa using hl)) h0
theorem Qji {Q':Exit->Act->World->Prop} (H:Nu ops n) {t:Oper} (ht:ops[n]? =some t): ∀(fuel:Nat) (listed:Array Bool) (a:Act) (w:World),C w->HeadInv .any ops n listed->listed.getD n true=false->
  wpAnyQ P .any (Xd ops n) C (λa'=> ∀w',C w'->wpList P ops Q' [t] a' w') fuel listed a->wpAny P .any ops Q' fuel listed a w:=by
 intro fuel;have hns:n<ops.size:=by have:=H.size;omega
 induction fuel with
 |zero=>
  intro listed a w hC inv hun h;exfalso;refine Qer H inv.size (n+1) n (by omega) hns hun ?_;have h0:=h.1;refine List.eq_nil_iff_forall_not_mem.2 λj hj=> ?_;have:=Ut (n:=n).2 hj;rw [h0]at this;cases this
 |succ fuel ih=>
  intro listed a w hC inv hun h;refine ⟨λh0=>absurd h0 (Qer H inv.size (n+1) n (by omega) hns hun),λi hi=> ?_⟩;have hq:=h.2 i (Ut.2 hi);by_cases hin:i=n
  ·subst hin;have hall: ∀j,j<i->listed.getD j true=true:=λj hj=>by
    cases hc:listed.getD j true with
    |true=>rfl
    |false=>exact absurd hi (tail_waits H.sink H.chain hns inv _ j rfl hj hc i (Yc _))
   have hnone:Region.ready .any ops (listed.setIfInBounds i true)=[]:=by
    refine List.eq_nil_iff_forall_not_mem.2 λj hj=> ?_;obtain ⟨hj1,o,ho,_⟩:=mem_ready.1 hj;have hjs:j<ops.size:=(Array.getElem?_eq_some_iff.1 ho).1;by_cases hji:i=j
    ·subst hji;have hsz:i<listed.size:=(by rw [inv.size];exact hns);simp [hsz]at hj1
    ·rw [getD_set_ne true hji]at hj1;rw [hall j (by have:=H.size;omega)]at hj1;cases hj1
   have hnone':Region.ready .any (Xd ops i) (listed.setIfInBounds i true)=[]:=
    List.eq_nil_iff_forall_not_mem.2 λj hj=>by have:=Ut.1 hj;rw [hnone]at this;cases this
   have hK:wpAnyQ P .any (Xd ops i) C (λa'=> ∀w',C w'->wpList P ops Q' [t] a' w') fuel (listed.setIfInBounds i true) a:=by unfold qOp at hq;simp only [Rl ht]at hq;rw [Wy (L9 (o:=stand t) rfl _)]at hq;obtain ⟨v,_,h2⟩:=hq;exact h2
   have hQx:wpList P ops Q' [t] a w:=by
    cases fuel with
    |zero=>exact hK.2 w hC
    |succ f=>exact hK.1 hnone' w hC
   have hop:wpOp P ops Q' i (λa' w'=>Q' .normal a' w') a w:=by unfold wpOp;simp only [ht];exact hQx
   refine wpOp_mono (λa' w' h'=> ?_) hop;cases fuel with
   |zero=>exact ⟨hnone,h'⟩
   |succ f=>exact ⟨λ_=>h',λj hj=>by rw [hnone]at hj;cases hj⟩
  ·have hlt:i<n:=by obtain ⟨_,o,ho,_⟩:=mem_ready.1 hi;have hjs:i<ops.size:=(Array.getElem?_eq_some_iff.1 ho).1;have:=H.size;omega
   obtain ⟨o,ho⟩: ∃o,ops[i]? =some o:=⟨ops[i],Array.getElem?_eq_getElem (by omega)⟩;have hq':qOp P ops C i (wpAnyQ P .any (Xd ops n) C (λa'=> ∀w',C w'->wpList P ops Q' [t] a' w') fuel (listed.setIfInBounds i true)) a:=by unfold qOp at hq ⊢;rw [Uo hin]at hq;simp only [ho]at hq ⊢;rw [Wy (L9 (H.free i o ho) _)]at hq ⊢;exact hq
   exact wpOp_of_qOp hC (λa' w' hC' hK=>ih (listed.setIfInBounds i true) a' w' hC' (inv.set hi hlt) (by rw [getD_set_ne true hin];exact hun) hK) hq'
theorem Qdk {Q:Act->Prop} (H:Nu ops n) (s:Oper) (hs:s.op= .move (.const undef)) (hd:s.dst=none) (hg:s.guard=none): ∀(l:List Oper) (a:Act),(∀o∈l,o.guard=none)->wpQuiet P ops C Q l a->wpQuiet P (Xd ops n) C Q (l++[s]) a
 | [],a,_,h=>by
  show wpQuiet P (Xd ops n) C Q [s] a;unfold wpQuiet;rw [Wy (L9 hg _)];refine ⟨undef,λw hw=> ?_,?_⟩
  ·unfold Oper.quietAt;rw [BigFrame.run_move (.const undef) hs];exact ⟨rfl,rfl⟩
  ·rw [hd];exact h
 |o::l,a,hl,h=>by have hgo:=hl o (by simp);unfold wpQuiet at h;rw [Wy (L9 hgo _)]at h;show wpQuiet P (Xd ops n) C Q (o::(l++[s])) a;unfold wpQuiet;rw [Wy (L9 hgo _)];exact Oper.quiet_mono (λa' h'=>Qdk H s hs hd hg l a' (λo' ho'=>hl o' (Ip _ ho')) h') h
theorem Qi6 {id:Nat} {Q:Exit->Act->World->Prop} {a:Act} {w:World} {l:List Oper} (n:Nat) (hm:P.follows .mixedOrders=true) (hB:Ou l.toArray n=true) (hC:C {w with drawn:=w.drawn+1})
  (h:wpQuiet P l.toArray C (λa'=> ∀w',C w'->wpList P l.toArray Q (l.drop n) a' w') (l.take n) a):(Code.region id l.toArray true).wp P Q a w:=by
 have H:=Qj7 hB;have hsz:n+1=l.length:=by have:=H.size;simpa using this
 obtain ⟨t,ht⟩: ∃t,l[n]? =some t:=⟨l[n],Za (by omega)⟩;have hta:l.toArray[n]? =some t:=by simpa using ht
 have hdrop:l.drop n=[t]:=by
  rw [List.drop_eq_getElem_cons (by omega),List.drop_of_length_le (by omega)];rw [Za (by omega)]at ht;injection ht with ht
  rw [ht]
 rw [hdrop]at h;have h1:=Qdk (P:=P) H (stand t) rfl rfl rfl (l.take n) a (λo ho=>by
  obtain ⟨j,hj⟩:=List.getElem?_of_mem ho;have hjl:j<n:=by have:=(List.getElem?_eq_some_iff.1 hj).1;rw [Vr]at this;omega
  rw [List.getElem?_take_of_lt hjl]at hj;exact H.free j o (by simpa using hj)) h;have hls:l.take n++[stand t]=(Xd l.toArray n).toList:=by
  refine List.ext_getElem? λj=> ?_;rw [Array.getElem?_toList (xs:=Xd l.toArray n)];by_cases hj:j=n
  ·subst hj;rw [Rl hta,H8 (by rw [Vr];omega)];simp [Vr,Nat.min_eq_left (show j<=l.length by omega)]
  ·rw [Uo hj];by_cases hlt:j<n
   ·rw [R8 (by rw [Vr];omega),List.getElem?_take_of_lt hlt];simp
   ·rw [Ox (by rw [Qd,Vr];simp;omega)];rw [eq_comm,Array.getElem?_eq_none_iff];simp;omega
 rw [hls]at h1;have hlex:=H.lex;simp only [Region.lexB,Q7]at hlex;have h2:=wpAnyQ_lex (C:=C) (md:=.any) hlex.1 (Xd l.toArray n).toList 0 (Array.replicate (Xd l.toArray n).size false) a (by simp) (by simpa using hlex.2) h1;have hsize:(Xd l.toArray n).size=l.toArray.size:=by unfold Xd;simp
 rw [hsize]at h2;refine wp_region_any hm ?_;have inv0:HeadInv .any l.toArray n (Array.replicate l.toArray.size false):=
  ⟨by simp,λj oj _ hl=>(by rw [getD_replicate_false]at hl;cases hl),λk _ hk=>getD_in (by simpa using hk) (getD_replicate_false _ _)⟩;have hlen:(Xd l.toArray n).toList.length=l.toArray.size:=by rw [Gw,hsize]
 rw [hlen]at h2;exact Qji H hta _ _ a _ hC inv0 (getD_in (by simp;omega) (getD_replicate_false _ _)) h2
end
theorem Qqv {P:Program} {id:Nat} {Q:Exit->Act->World->Prop} {a:Act} {w:World} {l:List Oper} (n:Nat) (hm:P.follows .mixedOrders=true) (hB:Ou l.toArray n=true)
  (h:wpQuiet P l.toArray (λw'=> ∃p:Regrown,w'=Sort.grow (redrawn w p.d) p.os) (λa'=> ∀w',(∃p:Regrown,w'=Sort.grow (redrawn w p.d) p.os)->wpList P l.toArray Q (l.drop n) a' w') (l.take n) a):(Code.region id l.toArray true).wp P Q a w:=
 Qi6 (C:=λw'=> ∃p:Regrown,w'=Sort.grow (redrawn w p.d) p.os) n hm hB ⟨⟨w.drawn+1,#[]⟩,by rw [Sort.grow_empty];rfl⟩ h
end
section
open Go.RowKit
theorem Qe4 {w0 w:World} {a:Option Addr} {l:List Nd} {n c ob:Nat} {t:List UInt8} (hN:Nodes w0 a l) (hn:n=l.length) (hf:n<=1000000000) (hc:n<=c) (hT:Qo l) (hP:Jf w0) (hb:Below w0.heap.size w0 w) (hB:Bd w0.heap.size ob t w):
  Calls prog 20 #[.slice a n c,.pointer (some ⟨ob,0,none⟩)] w λe w'=> ∃lb xb bb pb,e= .returned (.func (.func 35) #[] #[.pointer (some ⟨lb,0,none⟩),.pointer (some ⟨xb,0,none⟩),.pointer (some ⟨bb,0,none⟩),.pointer (some ⟨pb,0,none⟩)])/\Ya ⟨w0,a,l,n,c,ob,lb,xb,bb,pb⟩ t w'/\Below w.heap.size w w':=by
 have HBD:=Qa hB;have Qjw:Hid (∀(w':World) (lb xb bb pb:Nat),Below w.heap.size w w'->w.heap.size<=lb->w.heap.size<=xb->w.heap.size<=bb->w.heap.size<=pb->Held w' lb 22 #[.slice a n c]->Held w' xb 36 #[.pointer (some ⟨ob,0,none⟩)]->Held w' bb 40 #[.func (.func 34) #[] #[.pointer (some ⟨lb,0,none⟩),.pointer (some ⟨pb,0,none⟩),.pointer (some ⟨xb,0,none⟩)]]->Held w' pb 50 #[.func (.func 35) #[] #[.pointer (some ⟨lb,0,none⟩),.pointer (some ⟨xb,0,none⟩),.pointer (some ⟨bb,0,none⟩),.pointer (some ⟨pb,0,none⟩)]]->Ya ⟨w0,a,l,n,c,ob,lb,xb,bb,pb⟩ t w'):=by intro w' lb xb bb pb hbw h1 h2 h3 h4 k1 k2 k3 k4;have hlt:=hB.lt;exact ⟨hN,hn,hf,hc,hT,hP,hb.trans (hbw.mono hB.size),hB.below hbw,k1,k2,k3,k4,by show lb≠ob;omega,by show xb≠ob;omega,by show bb≠ob;omega,by show pb≠ob;omega⟩
 clear hN hn hf hc hT hP hb hB;go_enter func20,ntmps20;rw [Vk 2,Vk 3];go_wp2_with fail;obtain ⟨w3,hw3⟩:=Qb (((w.alloc (.cells #[.slice a n c] 22)).alloc (.cells #[.pointer (some ⟨ob,0,none⟩)] 36)).alloc (.cells #[.nilFunc] 50));obtain ⟨lb,hlb⟩:=Qb w.heap.size;obtain ⟨xb,hxb⟩:=Qb (w.heap.size+1);obtain ⟨pb,hpb⟩:=Qb (w.heap.size+1+1);obtain ⟨bb,hbb⟩:=Qb w3.heap.size;have Ob:Hid (Held w3 lb 22 #[.slice a n c]):=by rw [hw3,hlb];exact ((Held.new w _ _).alloc _).alloc _
 have HX3:Hid (Held w3 xb 36 #[.pointer (some ⟨ob,0,none⟩)]):=by
  have h:=(Held.new (w.alloc (.cells #[.slice a n c] 22)) 36 #[.pointer (some ⟨ob,0,none⟩)]).alloc (.cells #[.nilFunc] 50);have e:(w.alloc (.cells #[.slice a n c] 22)).heap.size=xb:=by rw [hxb];simp
  rw [e]at h;rw [hw3];exact h
 have O7:Hid (Held w3 pb 50 #[.nilFunc]):=by
  have h:=Held.new ((w.alloc (.cells #[.slice a n c] 22)).alloc (.cells #[.pointer (some ⟨ob,0,none⟩)] 36)) 50 #[.nilFunc];have e:((w.alloc (.cells #[.slice a n c] 22)).alloc (.cells #[.pointer (some ⟨ob,0,none⟩)] 36)).heap.size=pb:=by rw [hpb];simp
  rw [e]at h;rw [hw3];exact h
 have HB3:Hid (Below w.heap.size w w3):=by rw [hw3];exact (Qn.alloc (by simp) _).alloc (by simp;omega) _
 have HS:Hid (w.heap.size<=lb/\w.heap.size<=xb/\w.heap.size<=pb/\w.heap.size<=bb/\lb≠pb/\xb≠pb/\bb≠pb):=by have h1:=O7.out.lt;have h2:=HB3.out.size;refine ⟨by omega,by omega,by omega,by omega,by omega,by omega,by omega⟩
 rw [<-hw3,<-hpb,<-hxb,<-hlb];obtain ⟨w4,hw4⟩:=Qb (w3.alloc (.cells #[.func (.func 34) #[] #[.pointer (some ⟨lb,0,none⟩),.pointer (some ⟨pb,0,none⟩),.pointer (some ⟨xb,0,none⟩)]] 40));have Vd:Hid (Held w4 bb 40 #[.func (.func 34) #[] #[.pointer (some ⟨lb,0,none⟩),.pointer (some ⟨pb,0,none⟩),.pointer (some ⟨xb,0,none⟩)]]):=by rw [hw4,hbb];exact Held.new w3 _ _
 have Lc:Hid (Below w3.heap.size w3 w4):=by rw [hw4];exact Qn
 have M5:=Qa (Ob.out.since Lc.out);have Ni:=Qa (HX3.out.since Lc.out);have Rk:=Qa (O7.out.since Lc.out);have Ak:Hid (Below w.heap.size w w4):=HB3.out.trans (Lc.out.mono HB3.out.size);clear hw3 hlb hxb hpb;refine Vp ?_;go_wp2_with fail;rw [<-hw4,<-hbb];clear hw4 hbb;have cr:=Rk.out.at_ (j:=0) (v:=.nilFunc) rfl;have fr:=Rk.out.frozen 0;refine Vp ?_;go_wp2_with fail;go_ret;refine ⟨lb,xb,bb,pb,rfl,?_,?_⟩
 ·refine Qjw.out _ lb xb bb pb ?_ HS.out.1 HS.out.2.1 HS.out.2.2.2.1 HS.out.2.2.1 ?_ ?_ ?_ ?_
  ·exact Ak.out.setCell (p:=⟨pb,0,none⟩) HS.out.2.2.1 _
  ·exact M5.out.off (g':=pb) HS.out.2.2.2.2.1 0 _
  ·exact Ni.out.off (g':=pb) HS.out.2.2.2.2.2.1 0 _
  ·exact Vd.out.off (g':=pb) HS.out.2.2.2.2.2.2 0 _
  ·exact Rk.out.set 0 _
 ·exact Ak.out.setCell (p:=⟨pb,0,none⟩) HS.out.2.2.1 _
theorem Qor {w0 w:World} {a:Option Addr} {l:List Nd} {n c ob:Nat} {t:List UInt8} (hN:Nodes w0 a l) (hn:n=l.length) (hf:n<=1000000000) (hc:n<=c) (hT:Qo l) (hP:Jf w0) (hb:Below w0.heap.size w0 w) (hB:Bd w0.heap.size ob t w):
  Calls prog 14 #[.slice a n c,.pointer (some ⟨ob,0,none⟩)] w λe w'=> ∃V3 V7 Vz V5 lb xb sb eb,e= .returned (.func (.func 29) #[] #[.pointer (some ⟨lb,0,none⟩),.pointer (some ⟨xb,0,none⟩),.pointer (some ⟨sb,0,none⟩),.pointer (some ⟨eb,0,none⟩)])/\X0 ⟨⟨w0,a,l,n,c,ob,V3,V7,Vz,V5⟩,lb,xb,sb,eb⟩ t w'/\Below w.heap.size w w':=by
 have HBD:=Qa hB;have Wu:=Qa (λ(w':World) (hbw:Below w.heap.size w w')=>Qe4 (c:=c) hN hn hf hc hT hP (hb.trans (hbw.mono hB.size)) (hB.below hbw));clear hN hn hf hc hT hP hb hB;go_enter func14,ntmps14;rw [Vk 2,Vk 3];go_wp2_with fail;obtain ⟨w2,hw2⟩:=Qb ((w.alloc (.cells #[.slice a n c] 22)).alloc (.cells #[.pointer (some ⟨ob,0,none⟩)] 36));obtain ⟨lb,hlb⟩:=Qb w.heap.size;obtain ⟨xb,hxb⟩:=Qb (w.heap.size+1);have HL2:Hid (Held w2 lb 22 #[.slice a n c]):=by rw [hw2,hlb];exact (Held.new w _ _).alloc _
 have HX2:Hid (Held w2 xb 36 #[.pointer (some ⟨ob,0,none⟩)]):=by
  have h:=Held.new (w.alloc (.cells #[.slice a n c] 22)) 36 #[.pointer (some ⟨ob,0,none⟩)];have e:(w.alloc (.cells #[.slice a n c] 22)).heap.size=xb:=by rw [hxb];simp
  rw [e]at h;rw [hw2];exact h
 have HB2:Hid (Below w.heap.size w w2):=by rw [hw2];exact Qn.alloc (by simp) _
 have HS2:Hid (w.heap.size<=lb/\w.heap.size<=xb):=⟨by omega,by omega⟩;rw [<-hw2,<-hxb,<-hlb];clear hw2 hlb hxb;refine (Wu.out w2 HB2.out).mono ?_;rintro e w4 ⟨V3,V7,Vz,V5,rfl,Wi,hb4⟩;have Qw:=Qa Wi;have Lc:=Qa hb4;have Ak:Hid (Below w.heap.size w w4):=HB2.out.trans (hb4.mono HB2.out.size);have M5:=Qa (HL2.out.since hb4);have Ni:=Qa (HX2.out.since hb4);clear Wi hb4;go_wp2_with fail;obtain ⟨eb,Pj⟩:=Qb w4.heap.size;obtain ⟨w5,Jd⟩:=Qb (w4.alloc (.cells #[.func (.func 35) #[] #[.pointer (some ⟨V3,0,none⟩),.pointer (some ⟨V7,0,none⟩),.pointer (some ⟨Vz,0,none⟩),.pointer (some ⟨V5,0,none⟩)]] 50));have HC5:Hid (Held w5 eb 50 #[.func (.func 35) #[] #[.pointer (some ⟨V3,0,none⟩),.pointer (some ⟨V7,0,none⟩),.pointer (some ⟨Vz,0,none⟩),.pointer (some ⟨V5,0,none⟩)]]):=by rw [Jd,Pj];exact Held.new w4 _ _
 have Rf:Hid (Below w4.heap.size w4 w5):=by rw [Jd];exact Qn
 have HS5:Hid (w4.heap.size<=eb):=by show _<=_;omega
 rw [<-Jd,<-Pj];clear Jd Pj;refine Vp ?_;go_wp2_with fail;obtain ⟨sb,hsb⟩:=Qb w5.heap.size;obtain ⟨w6,Ov⟩:=Qb (w5.alloc (.cells #[.nilFunc] 40));have Rb:Hid (Held w6 sb 40 #[.nilFunc]):=by rw [Ov,hsb];exact Held.new w5 _ _
 have Qbh:Hid (Below w5.heap.size w5 w6):=by rw [Ov];exact Qn
 have Qgf:Hid (Below w4.heap.size w4 w6):=Rf.out.trans (Qbh.out.mono Rf.out.size);have Im:Hid (Below w.heap.size w w6):=Ak.out.trans (Qgf.out.mono Ak.out.size);have Ct:Hid (w4.heap.size<=sb/\lb≠sb/\xb≠sb/\eb≠sb/\w.heap.size<=sb/\lb≠ob/\xb≠ob/\sb≠ob/\eb≠ob):=by have h1:=Rf.out.size;have h2:=M5.out.lt;have h3:=Ni.out.lt;have h4:=HC5.out.lt;have h5:=HBD.out.lt;have h6:=HS2.out;have h7:=Ak.out.size;have h8:=HS5.out;refine ⟨?_,?_,?_,?_,?_,?_,?_,?_,?_⟩<;>omega
 rw [<-Ov,<-hsb];clear Ov hsb;have cr:=Rb.out.at_ (j:=0) (v:=.nilFunc) rfl;have fr:=Rb.out.frozen 0;refine Vp ?_;go_wp2_with fail;go_ret;have hset:=(Qgf.out.setCell (p:=⟨sb,0,none⟩) Ct.out.1 (.func (.func 29) #[] #[.pointer (some ⟨lb,0,none⟩),.pointer (some ⟨xb,0,none⟩),.pointer (some ⟨sb,0,none⟩),.pointer (some ⟨eb,0,none⟩)]));refine ⟨V3,V7,Vz,V5,lb,xb,sb,eb,rfl,?_,?_⟩
 ·refine ⟨Qw.out.since hset,?_,?_,?_,?_,Ct.out.2.2.2.2.2.1,Ct.out.2.2.2.2.2.2.1,Ct.out.2.2.2.2.2.2.2.1,Ct.out.2.2.2.2.2.2.2.2⟩
  ·exact M5.out.since hset
  ·exact Ni.out.since hset
  ·exact Rb.out.set 0 _
  ·exact ((HC5.out.since Qbh.out).off (g':=sb) Ct.out.2.2.2.1 0 _)
 ·exact Im.out.setCell (p:=⟨sb,0,none⟩) Ct.out.2.2.2.2.1 _
theorem Qef {w:World} {w':World} (hb:Held w' w.heap.size 39 #[.pointer none,.slice none 0 0]):Bd w.heap.size w.heap.size [] w':=
 .inl ⟨Yc _,.slice none 0 0,hb,⟨rfl,.inl ⟨rfl,rfl⟩⟩,by simp [Value.ownBlock]⟩
theorem Qjx {K n:Int} (h:Qt K=true) (hop:K=5->1<=n/\n<=16):Yf K n≠0:=by
 unfold Yf;by_cases h5:K=5
 ·rw [Wy h5];have:=hop h5;rw [Q6 (by omega)];have h1:=(by decide: ∀op,op<17->1<=op->1<=stOp op) n.toNat (by omega) (by omega);omega
 ·rw [Q6 h5];by_cases h67:K=6\/K=7
  ·rw [Wy h67];decide
  ·rw [Q6 h67,Wy h];decide
def Qm7 (l:List Nd) (w:World) (e:Ending) (w':World):Prop:=Below w.heap.size w w'/\
 ((Rt l/\Qt (nd l (l.length-1)).kind=true/\ ∃x,XE l ((l.length-1:Nat):Int) x/\e= .returned (.tuple #[.string ⟨x.txt.toArray⟩,.bool true]))\/(¬(Rt l/\Qt (nd l (l.length-1)).kind=true)/\e= .returned (.tuple #[.string ⟨#[]⟩,.bool false])))
theorem Qet (a:Option Addr) (c n:Nat) (l:List Nd) (w:World) (hn:n=l.length) (hf:n<=1000000) (hc:n<=c) (hN:Nodes w a l) (hP:Jf w) (Dn: ∀j,j<l.length->(nd l j).n<=9223372036854775807):
  Calls prog 7 #[.slice a n c] w (Qm7 l w):=by
 have hright:=U1 a c l w hP.tabs hN (by omega);rw [<-hn]at hright;have HR:=Qa hright;have HN:=Qa hN;have HP:=Qa hP;have Q0:=Qa hn;have Bv:=Qa Dn;clear hright hN hP hn Dn;go_enter func7,ntmps7;rw [Vk 3,Vk 4];go_wp2_with fail;refine HR.out.mono ?_;rintro e w1 ⟨b,rfl,hiff,hb1⟩;have HB1:=Qa hb1;have Zr:=Qa hiff;clear hb1 hiff;cases b with
 |false=>
  have D7:Hid (¬Rt l):=λh=>by cases Zr.out.2 h
  go_wp2_with fail;exact bodyPost_ret (v:=.tuple #[.string ⟨#[]⟩,.bool false]) (by simp [results,results7,go_sem]) rfl ⟨HB1.out,.inr ⟨λh=>D7.out h.1,rfl⟩⟩
 |true=>
  have Vn:Hid (Rt l):=Zr.out.1 rfl;have hpos:0<n:=by rw [Q0.out];exact Vn.out.1.1
  obtain ⟨p,rfl⟩: ∃p,n=p+1:=⟨n-1,by omega⟩;have hpl:p<l.length:=by rw [<-Q0.out];omega
  have K4:Hid (l.length-1=p):=by show _=_;rw [<-Q0.out,Nat.add_sub_cancel]
  obtain ⟨nb,no,rfl,hnb,c0,c1,c2,c3,c4⟩:=(HN.out.below HB1.out).at_ hpl;obtain ⟨y,hy⟩:=Qb (nd l p);rw [<-hy]at c0 c1 c2 c3 c4;have HY:=Qa hy;have Zf:=Qa (Vq y.kind y.n y.ka y.kids.length y.kc y.s y.at_ w1 (HP.out.below HB1.out));have Qmw:=Qa ((Qo.of Vn.out Bv.out).fit hpl);have hpi:(p:Int)<(p:Int)+1:=by omega
  have hwp:IntKind.i64.wrap (p:Int)=(p:Int):=Go.IntWalk.i64_in _ (by omega);clear hy;go_wp2_with fail;refine Zf.out.mono ?_;rintro e w2 ⟨rfl,hb2⟩;have HB2:Hid (Below w.heap.size w w2):=HB1.out.trans (hb2.mono HB1.out.size);clear hb2 c0 c1 c2 c3 c4;cases hx:Qt y.kind with
  |false=>
   have D7:Hid (¬Qt (nd l (l.length-1)).kind=true):=(by show¬_;rw [K4.out,<-HY.out,hx];exact Bool.false_ne_true);have Ri:=Qa (Qg3 (n:=y.n) hx);rw [Ri.out];clear hx;go_wp2_with fail;exact bodyPost_ret (v:=.tuple #[.string ⟨#[]⟩,.bool false]) (by simp [results,results7,go_sem]) rfl ⟨HB2.out,.inr ⟨λh=>D7.out h.2,rfl⟩⟩
  |true=>
   have Qar:Hid (Qt (nd l (l.length-1)).kind=true):=(by show _=_;rw [K4.out,<-HY.out,hx]);have hst:Yf y.kind y.n≠0:=Qjx hx (λh5=>by
    have h1:=K8 (show ownB y=true by rw [HY.out];exact Qmw.out.1) h5;have h2:(decide (1<=y.n)&&decide (y.n<=16))=true:=h1;rw [Q7,Qu,Qu]at h2;exact h2);have Rj:Hid (∃x,XE l ((p:Nat):Int) x/\x.txt.length<=48000000):=by
    obtain ⟨x,hX,_⟩:=((Qo.of Vn.out Bv.out).is hpl).ex (by rw [<-HY.out];exact hx);refine ⟨x,hX,?_⟩;have h1:=Xi x hX.fin;have h2:x.size=sz l p:=hX.z;have h3:=O9 Vn.out.1;rw [K4.out]at h3;have h4:=Q0.out;omega
   obtain ⟨S,hS⟩:=Qb (Yf y.kind y.n);rw [<-hS]at hst ⊢;have hSi: ¬(S:Int)=0:=(by omega);clear hS hst hx;go_wp2_with fail;refine Vp ?_;go_wp2_with fail;obtain ⟨x,hX,hxl⟩:=Rj.out;have HX:=Qa hX;have HXL:=Qa hxl;clear hX hxl;obtain ⟨ob,Cu⟩:=Qb w2.heap.size;obtain ⟨w3,hw3⟩:=Qb (w2.alloc (.cells #[.pointer none,.slice none 0 0] 39));have Pp:Hid (Below w2.heap.size w2 w3):=(by rw [hw3];exact Qn);have Qkr:Hid (Bd w2.heap.size ob [] w3):=by rw [Cu];exact Qef (by rw [hw3];exact Held.new w2 _ _)
   rw [<-hw3,<-Cu];clear hw3 Cu;have Xx:=Qa (Qo.of Vn.out Bv.out);have N8:=Qa (HN.out.below HB2.out);have Jb:=Qa (HP.out.below HB2.out);refine Vp ?_;go_wp2_with fail;refine (Qe4 (c:=c) N8.out Q0.out (by omega) hc Xx.out Jb.out Pp.out Qkr.out).mono ?_;rintro e w4 ⟨V3,V7,Vz,V5,rfl,Wi,hb4⟩;have Qw:=Qa Wi;have Yd:Hid (Below w2.heap.size w2 w4):=Pp.out.trans (hb4.mono Pp.out.size);clear Wi hb4;have Xq:=Qa (Qcx (P:=⟨w2,some ⟨nb,no,none⟩,l,p+1,c,ob,V3,V7,Vz,V5⟩) Xx.out (p+1) p (by omega) hpl (by show Qt (nd l p).kind=true;rw [<-K4.out];exact Qar.out) x HX.out [] w4 Qw.out (by have:=HXL.out;simp;omega));go_wp2_with fail;refine Xq.out.mono ?_;rintro e w5 ⟨rfl,Y8,hk5⟩;have Yj:=Qa Y8;have Z5:Hid (Below w2.heap.size w2 w5):=Yd.out.trans hk5.below;clear Y8 hk5;go_wp2_with fail;refine (Tryd.Builder_String_any_k w2.heap.size ob ([]++x.txt) w5 Yj.out.bd Yj.out.bd.size).mono ?_;rintro e w6 ⟨rfl,_,hb6,_⟩;have Cm:Hid (Below w.heap.size w w6):=HB2.out.trans ((Z5.out.trans hb6).mono HB2.out.size);clear hb6;go_wp2_with fail;exact bodyPost_ret (v:=.tuple #[.string ⟨x.txt.toArray⟩,.bool true]) (by simp [results,results7,go_sem]) rfl ⟨Cm.out,.inl ⟨Vn.out,Qar.out,x,by rw [K4.out];exact HX.out,rfl⟩⟩
end
end Go.Proofs.YtdncpkkhkbijfaaDoor
