import Derived.Test.YtdncpkkhkbijfaaGreatDoorBa34
import Derived.StillTail
import Derived.Deep.RegionLaw
import Derived.Deep.AppendLies
open Go.Proofs.Tryz
set_option linter.all false
set_option maxHeartbeats 0
set_option maxRecDepth 100000
namespace Go.Proofs.YtdncpkkhkbijfaaGreatDoor
section
def stand (t:Oper):Oper:={t with op:=.move (.const undef),dst:=none,guard:=none}
def Bg (ops:Array Oper) (n:Nat):Array Oper:=ops.modify n stand
theorem Qs8 {ops:Array Oper} {n i:Nat} (h:i≠n):(Bg ops n)[i]? =ops[i]?:=by unfold Bg;rw [Array.getElem?_modify,Qd (Ne.symm h)]
theorem Qsw {ops:Array Oper} {n:Nat} {t:Oper} (h:ops[n]? =some t):(Bg ops n)[n]? =some (stand t):=by unfold Bg;rw [Array.getElem?_modify,Qk rfl,h];rfl
theorem Qug {md:Region.Mode} {ops:Array Oper} {n:Nat} {listed:Array Bool} {j:Nat}:j∈Region.ready md (Bg ops n) listed↔j∈Region.ready md ops listed:=by
 rw [mem_ready,mem_ready];refine and_congr Iff.rfl ?_;by_cases hj:j=n
 ·subst hj;cases ho:ops[j]? with
  |none=>
   have:(Bg ops j)[j]? =none:=(by unfold Bg;rw [Array.getElem?_modify,Qk rfl,ho];rfl);rw [this]
  |some t=>
   rw [Qsw ho];exact ⟨λ⟨o,h1,h2⟩=>⟨t,rfl,by injection h1 with h1;subst h1;exact h2⟩,λ⟨o,h1,h2⟩=>⟨stand t,rfl,by injection h1 with h1;subst h1;exact h2⟩⟩
 ·rw [Qs8 hj]
def Qnt (ops:Array Oper) (n:Nat):Bool:=
 decide (n+1=ops.size)&&ops.all (λo=>o.guard.isNone)&&(List.range ops.size).all (λj=>match ops[j]? with |some o=>o.after.all (λe=>decide (e.on<j)) |none=>true)
  &&Region.sinkB .any ops n&&Region.chainB .any ops n&&Region.lexB .any (Bg ops n)
structure Qoz (ops:Array Oper) (n:Nat):Prop where
 size:n+1=ops.size
 free: ∀(j:Nat) (o:Oper),ops[j]? =some o->o.guard=none
 back: ∀(j:Nat) (o:Oper),ops[j]? =some o-> ∀e∈o.after,e.on<j
 sink:Region.sinkB .any ops n=true
 chain:Region.chainB .any ops n=true
 lex:Region.lexB .any (Bg ops n)=true
theorem Wg5 {ops:Array Oper} {n:Nat} (h:Qnt ops n=true):Qoz ops n:=by
 unfold Qnt at h;simp only [Yo,Wt]at h;obtain ⟨⟨⟨⟨⟨h1,h2⟩,h3⟩,h4⟩,h5⟩,h6⟩:=h;refine ⟨h1,λj o ho=> ?_,λj o ho e he=> ?_,h4,h5,h6⟩
 ·have:=Array.all_eq_true_iff_forall_mem.1 h2 o (Array.mem_of_getElem? ho);exact Option.isNone_iff_eq_none.1 this
 ·have hj:j<ops.size:=(Array.getElem?_eq_some_iff.1 ho).1;have:=List.all_eq_true.1 h3 j (List.mem_range.2 hj);simp only [ho]at this;have:=Array.all_eq_true_iff_forall_mem.1 this e he;simpa using this
theorem Qh5 {o:Oper} (h:o.guard=none) (f:Nat->Option Bool):Region.wanted o f=true:=by unfold Region.wanted;rw [h]
section
variable {P:Program}{ops:Array Oper}{n:Nat}{C:World→Prop}
theorem Q7n (H:Qoz ops n) {listed:Array Bool} (hz:listed.size=ops.size): ∀(N m:Nat),m<N->m<ops.size->listed.getD m true=false->Region.ready .any ops listed≠[]:=by
 intro N
 induction N with
 |zero=>intro m h;omega
 |succ N ih=>
  intro m hm hlt hun h0;obtain ⟨o,ho⟩: ∃o,ops[m]? =some o:=⟨ops[m],Array.getElem?_eq_getElem hlt⟩;by_cases hall: ∀e∈o.after,Region.binds .any e=true->listed.getD e.on false=true
  ·have:m∈Region.ready .any ops listed:=mem_ready.2 ⟨hun,o,ho,hall⟩;rw [h0]at this;cases this
  ·simp only [Classical.not_forall]at hall;obtain ⟨e,he,hb,hl⟩:=hall;have hlt':=H.back m o ho e he;exact ih e.on (by omega) (by omega) (getD_in (by omega) (by simpa using hl)) h0
theorem Wjr {Q':Exit->Act->World->Prop} (H:Qoz ops n) {t:Oper} (ht:ops[n]? =some t): ∀(fuel:Nat) (listed:Array Bool) (a:Act) (w:World),C w->HeadInv .any ops n listed->listed.getD n true=false->
  wpAnyQ P .any (Bg ops n) C (λa'=> ∀w',C w'->wpList P ops Q' [t] a' w') fuel listed a->wpAny P .any ops Q' fuel listed a w:=by
 intro fuel;have hns:n<ops.size:=by have:=H.size;omega
 induction fuel with
 |zero=>
  intro listed a w hC inv hun h;exfalso;refine Q7n H inv.size (n+1) n (by omega) hns hun ?_;have h0:=h.1;refine List.eq_nil_iff_forall_not_mem.2 λj hj=> ?_;have:=Qug (n:=n).2 hj;rw [h0]at this;cases this
 |succ fuel ih=>
  intro listed a w hC inv hun h;refine ⟨λh0=>absurd h0 (Q7n H inv.size (n+1) n (by omega) hns hun),λi hi=> ?_⟩;have hq:=h.2 i (Qug.2 hi);by_cases hin:i=n
  ·subst hin;have hall: ∀j,j<i->listed.getD j true=true:=λj hj=>by
    cases hc:listed.getD j true with
    |true=>rfl
    |false=>exact absurd hi (tail_waits H.sink H.chain hns inv _ j rfl hj hc i (Qh _))
   have hnone:Region.ready .any ops (listed.setIfInBounds i true)=[]:=by
    refine List.eq_nil_iff_forall_not_mem.2 λj hj=> ?_;obtain ⟨hj1,o,ho,_⟩:=mem_ready.1 hj;have hjs:j<ops.size:=(Array.getElem?_eq_some_iff.1 ho).1;by_cases hji:i=j
    ·subst hji;have hsz:i<listed.size:=(by rw [inv.size];exact hns);simp [hsz]at hj1
    ·rw [getD_set_ne true hji]at hj1;rw [hall j (by have:=H.size;omega)]at hj1;cases hj1
   have hnone':Region.ready .any (Bg ops i) (listed.setIfInBounds i true)=[]:=
    List.eq_nil_iff_forall_not_mem.2 λj hj=>by have:=Qug.1 hj;rw [hnone]at this;cases this
   have hK:wpAnyQ P .any (Bg ops i) C (λa'=> ∀w',C w'->wpList P ops Q' [t] a' w') fuel (listed.setIfInBounds i true) a:=by unfold qOp at hq;simp only [Qsw ht]at hq;rw [Qk (Qh5 (o:=stand t) rfl _)]at hq;obtain ⟨v,_,h2⟩:=hq;exact h2
   have hQx:wpList P ops Q' [t] a w:=by
    cases fuel with
    |zero=>exact hK.2 w hC
    |succ f=>exact hK.1 hnone' w hC
   have hop:wpOp P ops Q' i (λa' w'=>Q' .normal a' w') a w:=by unfold wpOp;simp only [ht];exact hQx
   refine wpOp_mono (λa' w' h'=> ?_) hop;cases fuel with
   |zero=>exact ⟨hnone,h'⟩
   |succ f=>exact ⟨λ_=>h',λj hj=>by rw [hnone]at hj;cases hj⟩
  ·have hlt:i<n:=by obtain ⟨_,o,ho,_⟩:=mem_ready.1 hi;have hjs:i<ops.size:=(Array.getElem?_eq_some_iff.1 ho).1;have:=H.size;omega
   obtain ⟨o,ho⟩: ∃o,ops[i]? =some o:=⟨ops[i],Array.getElem?_eq_getElem (by omega)⟩;have hq':qOp P ops C i (wpAnyQ P .any (Bg ops n) C (λa'=> ∀w',C w'->wpList P ops Q' [t] a' w') fuel (listed.setIfInBounds i true)) a:=by unfold qOp at hq ⊢;rw [Qs8 hin]at hq;simp only [ho]at hq ⊢;rw [Qk (Qh5 (H.free i o ho) _)]at hq ⊢;exact hq
   exact wpOp_of_qOp hC (λa' w' hC' hK=>ih (listed.setIfInBounds i true) a' w' hC' (inv.set hi hlt) (by rw [getD_set_ne true hin];exact hun) hK) hq'
theorem Q5j {Q:Act->Prop} (H:Qoz ops n) (s:Oper) (hs:s.op= .move (.const undef)) (hd:s.dst=none) (hg:s.guard=none): ∀(l:List Oper) (a:Act),(∀o∈l,o.guard=none)->wpQuiet P ops C Q l a->wpQuiet P (Bg ops n) C Q (l++[s]) a
 | [],a,_,h=>by
  show wpQuiet P (Bg ops n) C Q [s] a;unfold wpQuiet;rw [Qk (Qh5 hg _)];refine ⟨undef,λw hw=> ?_,?_⟩
  ·unfold Oper.quietAt;rw [BigFrame.run_move (.const undef) hs];exact ⟨rfl,rfl⟩
  ·rw [hd];exact h
 |o::l,a,hl,h=>by have hgo:=hl o (by simp);unfold wpQuiet at h;rw [Qk (Qh5 hgo _)]at h;show wpQuiet P (Bg ops n) C Q (o::(l++[s])) a;unfold wpQuiet;rw [Qk (Qh5 hgo _)];exact Oper.quiet_mono (λa' h'=>Q5j H s hs hd hg l a' (λo' ho'=>hl o' (Iy _ ho')) h') h
theorem Wbj {id:Nat} {Q:Exit->Act->World->Prop} {a:Act} {w:World} {l:List Oper} (n:Nat) (hm:P.follows .mixedOrders=true) (hB:Qnt l.toArray n=true) (hC:C {w with drawn:=w.drawn+1})
  (h:wpQuiet P l.toArray C (λa'=> ∀w',C w'->wpList P l.toArray Q (l.drop n) a' w') (l.take n) a):(Code.region id l.toArray true).wp P Q a w:=by
 have H:=Wg5 hB;have hsz:n+1=l.length:=by have:=H.size;simpa using this
 obtain ⟨t,ht⟩: ∃t,l[n]? =some t:=⟨l[n],Y3 (by omega)⟩;have Wp:l.toArray[n]? =some t:=by simpa using ht
 have hdrop:l.drop n=[t]:=by
  rw [List.drop_eq_getElem_cons (by omega),Qla (by omega)];rw [Y3 (by omega)]at ht;injection ht with ht
  rw [ht]
 rw [hdrop]at h;have h1:=Q5j (P:=P) H (stand t) rfl rfl rfl (l.take n) a (λo ho=>by
  obtain ⟨j,hj⟩:=List.getElem?_of_mem ho;have hjl:j<n:=by have:=(List.getElem?_eq_some_iff.1 hj).1;rw [F9]at this;omega
  rw [List.getElem?_take_of_lt hjl]at hj;exact H.free j o (by simpa using hj)) h;have hls:l.take n++[stand t]=(Bg l.toArray n).toList:=by
  refine List.ext_getElem? λj=> ?_;rw [Array.getElem?_toList (xs:=Bg l.toArray n)];by_cases hj:j=n
  ·subst hj;rw [Qsw Wp,Ht (by rw [F9];omega)];simp [F9,Nat.min_eq_left (show j<=l.length by omega)]
  ·rw [Qs8 hj];by_cases hlt:j<n
   ·rw [Qg1 (by rw [F9];omega),List.getElem?_take_of_lt hlt];simp
   ·rw [Qbz (by rw [Qf,F9];simp;omega)];rw [eq_comm,Array.getElem?_eq_none_iff];simp;omega
 rw [hls]at h1;have hlex:=H.lex;simp only [Region.lexB,Yo]at hlex;have h2:=wpAnyQ_lex (C:=C) (md:=.any) hlex.1 (Bg l.toArray n).toList 0 (Array.replicate (Bg l.toArray n).size false) a (by simp) (by simpa using hlex.2) h1;have hsize:(Bg l.toArray n).size=l.toArray.size:=by unfold Bg;simp
 rw [hsize]at h2;refine wp_region_any hm ?_;have inv0:HeadInv .any l.toArray n (Array.replicate l.toArray.size false):=
  ⟨by simp,λj oj _ hl=>(by rw [getD_replicate_false]at hl;cases hl),λk _ hk=>getD_in (by simpa using hk) (getD_replicate_false _ _)⟩;have hlen:(Bg l.toArray n).toList.length=l.toArray.size:=by rw [Au,hsize]
 rw [hlen]at h2;exact Wjr H Wp _ _ a _ hC inv0 (getD_in (by simp;omega) (getD_replicate_false _ _)) h2
end
theorem Wk2 {P:Program} {id:Nat} {Q:Exit->Act->World->Prop} {a:Act} {w:World} {l:List Oper} (n:Nat) (hm:P.follows .mixedOrders=true) (hB:Qnt l.toArray n=true)
  (h:wpQuiet P l.toArray (λw'=> ∃p:Regrown,w'=Sort.grow (redrawn w p.d) p.os) (λa'=> ∀w',(∃p:Regrown,w'=Sort.grow (redrawn w p.d) p.os)->wpList P l.toArray Q (l.drop n) a' w') (l.take n) a):(Code.region id l.toArray true).wp P Q a w:=
 Wbj (C:=λw'=> ∃p:Regrown,w'=Sort.grow (redrawn w p.d) p.os) n hm hB ⟨⟨w.drawn+1,#[]⟩,by rw [Sort.grow_empty];rfl⟩ h
end
section
open Go.RowKit
theorem Qw0 {w0 w:World} {a:Option Addr} {l:List Nd} {n c ob:Nat} {t:List UInt8} (hN:Nodes w0 a l) (hn:n=l.length) (hf:n<=1000000000) (hc:n<=c) (hT:Wz l) (hP:Ir w0) (hb:Below w0.heap.size w0 w) (hB:Bd w0.heap.size ob t w):
  Calls prog 45 #[.slice a n c,.pointer (some ⟨ob,0,none⟩)] w λe w'=> ∃lb xb bb pb,e= .returned (.func (.func 80) #[] #[.pointer (some ⟨lb,0,none⟩),.pointer (some ⟨xb,0,none⟩),.pointer (some ⟨bb,0,none⟩),.pointer (some ⟨pb,0,none⟩)])/\Zt ⟨w0,a,l,n,c,ob,lb,xb,bb,pb⟩ t w'/\Below w.heap.size w w':=by
 have HBD:=Qa hB;have Wk9:Hid (∀(w':World) (lb xb bb pb:Nat),Below w.heap.size w w'->w.heap.size<=lb->w.heap.size<=xb->w.heap.size<=bb->w.heap.size<=pb->Held w' lb 22 #[.slice a n c]->Held w' xb 39 #[.pointer (some ⟨ob,0,none⟩)]->Held w' bb 43 #[.func (.func 79) #[] #[.pointer (some ⟨lb,0,none⟩),.pointer (some ⟨pb,0,none⟩),.pointer (some ⟨xb,0,none⟩)]]->Held w' pb 82 #[.func (.func 80) #[] #[.pointer (some ⟨lb,0,none⟩),.pointer (some ⟨xb,0,none⟩),.pointer (some ⟨bb,0,none⟩),.pointer (some ⟨pb,0,none⟩)]]->Zt ⟨w0,a,l,n,c,ob,lb,xb,bb,pb⟩ t w'):=by intro w' lb xb bb pb hbw h1 h2 h3 h4 k1 k2 k3 k4;have hlt:=hB.lt;exact ⟨hN,hn,hf,hc,hT,hP,hb.trans (hbw.mono hB.size),hB.below hbw,k1,k2,k3,k4,by show lb≠ob;omega,by show xb≠ob;omega,by show bb≠ob;omega,by show pb≠ob;omega⟩
 clear hN hn hf hc hT hP hb hB;go_enter func45,ntmps45;rw [Qz 2,Qz 3];go_wp2_with fail;obtain ⟨w3,hw3⟩:=Qb (((w.alloc (.cells #[.slice a n c] 22)).alloc (.cells #[.pointer (some ⟨ob,0,none⟩)] 39)).alloc (.cells #[.nilFunc] 82));obtain ⟨lb,hlb⟩:=Qb w.heap.size;obtain ⟨xb,hxb⟩:=Qb (w.heap.size+1);obtain ⟨pb,hpb⟩:=Qb (w.heap.size+1+1);obtain ⟨bb,hbb⟩:=Qb w3.heap.size;have Vm:Hid (Held w3 lb 22 #[.slice a n c]):=by rw [hw3,hlb];exact ((Held.new w _ _).alloc _).alloc _
 have HX3:Hid (Held w3 xb 39 #[.pointer (some ⟨ob,0,none⟩)]):=by
  have h:=(Held.new (w.alloc (.cells #[.slice a n c] 22)) 39 #[.pointer (some ⟨ob,0,none⟩)]).alloc (.cells #[.nilFunc] 82);have e:(w.alloc (.cells #[.slice a n c] 22)).heap.size=xb:=by rw [hxb];simp
  rw [e]at h;rw [hw3];exact h
 have HP3:Hid (Held w3 pb 82 #[.nilFunc]):=by
  have h:=Held.new ((w.alloc (.cells #[.slice a n c] 22)).alloc (.cells #[.pointer (some ⟨ob,0,none⟩)] 39)) 82 #[.nilFunc];have e:((w.alloc (.cells #[.slice a n c] 22)).alloc (.cells #[.pointer (some ⟨ob,0,none⟩)] 39)).heap.size=pb:=by rw [hpb];simp
  rw [e]at h;rw [hw3];exact h
 have HB3:Hid (Below w.heap.size w w3):=by rw [hw3];exact (Qag.alloc (by simp) _).alloc (by simp;omega) _
 have HS:Hid (w.heap.size<=lb/\w.heap.size<=xb/\w.heap.size<=pb/\w.heap.size<=bb/\lb≠pb/\xb≠pb/\bb≠pb):=by have h1:=HP3.out.lt;have h2:=HB3.out.size;refine ⟨by omega,by omega,by omega,by omega,by omega,by omega,by omega⟩
 rw [<-hw3,<-hpb,<-hxb,<-hlb];obtain ⟨w4,hw4⟩:=Qb (w3.alloc (.cells #[.func (.func 79) #[] #[.pointer (some ⟨lb,0,none⟩),.pointer (some ⟨pb,0,none⟩),.pointer (some ⟨xb,0,none⟩)]] 43));have Jf:Hid (Held w4 bb 43 #[.func (.func 79) #[] #[.pointer (some ⟨lb,0,none⟩),.pointer (some ⟨pb,0,none⟩),.pointer (some ⟨xb,0,none⟩)]]):=by rw [hw4,hbb];exact Held.new w3 _ _
 have Qkk:Hid (Below w3.heap.size w3 w4):=by rw [hw4];exact Qag
 have Ji:=Qa (Vm.out.since Qkk.out);have HX4:=Qa (HX3.out.since Qkk.out);have HP4:=Qa (HP3.out.since Qkk.out);have Rf:Hid (Below w.heap.size w w4):=HB3.out.trans (Qkk.out.mono HB3.out.size);clear hw3 hlb hxb hpb;refine Qn ?_;go_wp2_with fail;rw [<-hw4,<-hbb];clear hw4 hbb;have cr:=HP4.out.at_ (j:=0) (v:=.nilFunc) rfl;have fr:=HP4.out.frozen 0;refine Qn ?_;go_wp2_with fail;go_ret;refine ⟨lb,xb,bb,pb,rfl,?_,?_⟩
 ·refine Wk9.out _ lb xb bb pb ?_ HS.out.1 HS.out.2.1 HS.out.2.2.2.1 HS.out.2.2.1 ?_ ?_ ?_ ?_
  ·exact Rf.out.setCell (p:=⟨pb,0,none⟩) HS.out.2.2.1 _
  ·exact Ji.out.off (g':=pb) HS.out.2.2.2.2.1 0 _
  ·exact HX4.out.off (g':=pb) HS.out.2.2.2.2.2.1 0 _
  ·exact Jf.out.off (g':=pb) HS.out.2.2.2.2.2.2 0 _
  ·exact HP4.out.set 0 _
 ·exact Rf.out.setCell (p:=⟨pb,0,none⟩) HS.out.2.2.1 _
theorem Wac {w0 w:World} {a:Option Addr} {l:List Nd} {n c ob:Nat} {t:List UInt8} (hN:Nodes w0 a l) (hn:n=l.length) (hf:n<=1000000000) (hc:n<=c) (hT:Wz l) (hP:Ir w0) (hb:Below w0.heap.size w0 w) (hB:Bd w0.heap.size ob t w):
  Calls prog 17 #[.slice a n c,.pointer (some ⟨ob,0,none⟩)] w λe w'=> ∃Ho Ih G6 Gw lb xb sb eb,e= .returned (.func (.func 46) #[] #[.pointer (some ⟨lb,0,none⟩),.pointer (some ⟨xb,0,none⟩),.pointer (some ⟨sb,0,none⟩),.pointer (some ⟨eb,0,none⟩)])/\D8 ⟨⟨w0,a,l,n,c,ob,Ho,Ih,G6,Gw⟩,lb,xb,sb,eb⟩ t w'/\Below w.heap.size w w':=by
 have HBD:=Qa hB;have A8:=Qa (λ(w':World) (hbw:Below w.heap.size w w')=>Qw0 (c:=c) hN hn hf hc hT hP (hb.trans (hbw.mono hB.size)) (hB.below hbw));clear hN hn hf hc hT hP hb hB;go_enter func17,ntmps17;rw [Qz 2,Qz 3];go_wp2_with fail;obtain ⟨w2,hw2⟩:=Qb ((w.alloc (.cells #[.slice a n c] 22)).alloc (.cells #[.pointer (some ⟨ob,0,none⟩)] 39));obtain ⟨lb,hlb⟩:=Qb w.heap.size;obtain ⟨xb,hxb⟩:=Qb (w.heap.size+1);have HL2:Hid (Held w2 lb 22 #[.slice a n c]):=by rw [hw2,hlb];exact (Held.new w _ _).alloc _
 have HX2:Hid (Held w2 xb 39 #[.pointer (some ⟨ob,0,none⟩)]):=by
  have h:=Held.new (w.alloc (.cells #[.slice a n c] 22)) 39 #[.pointer (some ⟨ob,0,none⟩)];have e:(w.alloc (.cells #[.slice a n c] 22)).heap.size=xb:=by rw [hxb];simp
  rw [e]at h;rw [hw2];exact h
 have HB2:Hid (Below w.heap.size w w2):=by rw [hw2];exact Qag.alloc (by simp) _
 have HS2:Hid (w.heap.size<=lb/\w.heap.size<=xb):=⟨by omega,by omega⟩;rw [<-hw2,<-hxb,<-hlb];clear hw2 hlb hxb;refine (A8.out w2 HB2.out).mono ?_;rintro e w4 ⟨Ho,Ih,G6,Gw,rfl,Yz,hb4⟩;have Ya:=Qa Yz;have Qkk:=Qa hb4;have Rf:Hid (Below w.heap.size w w4):=HB2.out.trans (hb4.mono HB2.out.size);have Ji:=Qa (HL2.out.since hb4);have HX4:=Qa (HX2.out.since hb4);clear Yz hb4;go_wp2_with fail;obtain ⟨eb,heb⟩:=Qb w4.heap.size;obtain ⟨w5,K8⟩:=Qb (w4.alloc (.cells #[.func (.func 80) #[] #[.pointer (some ⟨Ho,0,none⟩),.pointer (some ⟨Ih,0,none⟩),.pointer (some ⟨G6,0,none⟩),.pointer (some ⟨Gw,0,none⟩)]] 82));have HC5:Hid (Held w5 eb 82 #[.func (.func 80) #[] #[.pointer (some ⟨Ho,0,none⟩),.pointer (some ⟨Ih,0,none⟩),.pointer (some ⟨G6,0,none⟩),.pointer (some ⟨Gw,0,none⟩)]]):=by rw [K8,heb];exact Held.new w4 _ _
 have Qt4:Hid (Below w4.heap.size w4 w5):=by rw [K8];exact Qag
 have Gm:Hid (w4.heap.size<=eb):=by show _<=_;omega
 rw [<-K8,<-heb];clear K8 heb;refine Qn ?_;go_wp2_with fail;obtain ⟨sb,hsb⟩:=Qb w5.heap.size;obtain ⟨w6,Gz⟩:=Qb (w5.alloc (.cells #[.nilFunc] 43));have Sl:Hid (Held w6 sb 43 #[.nilFunc]):=by rw [Gz,hsb];exact Held.new w5 _ _
 have Q79:Hid (Below w5.heap.size w5 w6):=by rw [Gz];exact Qag
 have Q73:Hid (Below w4.heap.size w4 w6):=Qt4.out.trans (Q79.out.mono Qt4.out.size);have Qkt:Hid (Below w.heap.size w w6):=Rf.out.trans (Q73.out.mono Rf.out.size);have Hz:Hid (w4.heap.size<=sb/\lb≠sb/\xb≠sb/\eb≠sb/\w.heap.size<=sb/\lb≠ob/\xb≠ob/\sb≠ob/\eb≠ob):=by have h1:=Qt4.out.size;have h2:=Ji.out.lt;have h3:=HX4.out.lt;have h4:=HC5.out.lt;have h5:=HBD.out.lt;have h6:=HS2.out;have h7:=Rf.out.size;have h8:=Gm.out;refine ⟨?_,?_,?_,?_,?_,?_,?_,?_,?_⟩<;>omega
 rw [<-Gz,<-hsb];clear Gz hsb;have cr:=Sl.out.at_ (j:=0) (v:=.nilFunc) rfl;have fr:=Sl.out.frozen 0;refine Qn ?_;go_wp2_with fail;go_ret;have hset:=(Q73.out.setCell (p:=⟨sb,0,none⟩) Hz.out.1 (.func (.func 46) #[] #[.pointer (some ⟨lb,0,none⟩),.pointer (some ⟨xb,0,none⟩),.pointer (some ⟨sb,0,none⟩),.pointer (some ⟨eb,0,none⟩)]));refine ⟨Ho,Ih,G6,Gw,lb,xb,sb,eb,rfl,?_,?_⟩
 ·refine ⟨Ya.out.since hset,?_,?_,?_,?_,Hz.out.2.2.2.2.2.1,Hz.out.2.2.2.2.2.2.1,Hz.out.2.2.2.2.2.2.2.1,Hz.out.2.2.2.2.2.2.2.2⟩
  ·exact Ji.out.since hset
  ·exact HX4.out.since hset
  ·exact Sl.out.set 0 _
  ·exact ((HC5.out.since Q79.out).off (g':=sb) Hz.out.2.2.2.1 0 _)
 ·exact Qkt.out.setCell (p:=⟨sb,0,none⟩) Hz.out.2.2.2.2.1 _
end
theorem Qk5 (c:Bool) (t:List UInt8):(K6 c t).length<=t.length+2:=by
 cases c with
 |true=>rw [Q72,Qp,Qf];simp
 |false=>rw [Q6j];omega
theorem Wi1 (op:Nat):(Xu.getD op []).length<=2:=by
 rcases V7 op 17 with h |h
 ·exact (by decide: ∀op,op<17->(Xu.getD op []).length<=2) op h
 ·rw [Yc,Qbz (by show 17<=op;exact h)];exact Vh _
mutual
theorem Cq: ∀e:Ex,e.fin->e.txt.length+4<=48*e.size
 | .num n,h=>by rw [Ex.fin]at h;have:=Lib.itoa_length_le (n:Int) (by omega) (by omega);rw [Ex.txt,show (Ex.num n).size=1 from rfl];omega
 | .bool b,h=>by rw [Ex.txt,show (Ex.bool b).size=1 from rfl];cases b<;>decide
 | .nil,h=>by rw [Ex.txt,show Ex.nil.size=1 from rfl];decide
 | .var s,h=>by rw [Ex.fin]at h;have:=h.short;rw [Ex.txt,show (Ex.var s).size=1 from rfl];omega
 | .bin op a b,h=>by rw [Ex.fin]at h;have h1:=Cq a h.2.2.1;have h2:=Cq b h.2.2.2;have h3:=Wi1 op;have h4:=Qk5 (decide (a.st<=Ld op)) a.txt;have h5:=Qk5 (decide (b.st<=stOp op)) b.txt;rw [Ex.txt,Ex.size,Qf,Qp,Qf,Qp];omega
 | .neg a,h=>by rw [Ex.fin]at h;have h1:=Cq a h;have h4:=Qk5 (decide (a.st<=5)) a.txt;rw [Ex.txt,Ex.size,Qp];omega
 | .not a,h=>by rw [Ex.fin]at h;have h1:=Cq a h;have h4:=Qk5 (decide (a.st<=5)) a.txt;rw [Ex.txt,Ex.size,Qp];omega
 | .index a b,h=>by rw [Ex.fin]at h;have h1:=Cq a h.1;have h2:=Cq b h.2;have h4:=Qk5 (decide (a.st<=6)) a.txt;rw [Ex.txt,Ex.size,Qf,Qp,Qf,Yw];omega
 | .len a,h=>by rw [Ex.fin]at h;have h1:=Cq a h;rw [Ex.txt,Ex.size,Qf,Qp,Qf,Yw,show Ky.length=3 from rfl];omega
 | .new a,h=>by rw [Ex.fin]at h;have h1:=Cq a h;rw [Ex.txt,Ex.size,Qf,Qp,Qf,Yw,show Ah.length=3 from rfl];omega
 | .call s xs,h=>by rw [Ex.fin]at h;have h1:=Q28 xs h.2.2 true;have:=h.1.short;rw [Ex.txt,Ex.size,Qf,Qp,Qf,Yw];omega
theorem Q28: ∀xs:List Ex,Pq xs-> ∀f:Bool,(Zo f xs).length<=48*sizes xs
 | [],_,f=>by rw [Zo];exact Vh _
 |a::xs,h,f=>by
  rw [Pq]at h;have h1:=Cq a h.1;have h2:=Q28 xs h.2 false;have h3:((if f=true then []else [44,32]:List UInt8)).length<=2:=by cases f<;>decide
  rw [Zo,sizes,Qf,Qf];omega
end
mutual
theorem Ao: ∀e:Ex,e.need<=2*e.size
 | .num n=>Vh _
 | .bool b=>Vh _
 | .nil=>Vh _
 | .var s=>Vh _
 | .bin op a b=>by have h1:=Ao a;have h2:=Ao b;rw [Ex.need,Ex.size];split<;>split<;>omega
 | .neg a=>by have h1:=Ao a;rw [Ex.need,Ex.size];split<;>omega
 | .not a=>by have h1:=Ao a;rw [Ex.need,Ex.size];split<;>omega
 | .index a b=>by have h1:=Ao a;have h2:=Ao b;rw [Ex.need,Ex.size];split<;>omega
 | .len a=>by have h1:=Ao a;rw [Ex.need,Ex.size];omega
 | .new a=>by have h1:=Ao a;rw [Ex.need,Ex.size];omega
 | .call s xs=>by have h1:=Qsr xs;rw [Ex.need,Ex.size];omega
theorem Qsr: ∀xs:List Ex,needs xs<=2*sizes xs
 | []=>by rw [needs];exact Vh _
 |a::xs=>by have h1:=Ao a;have h2:=Qsr xs;rw [needs,sizes];omega
end
def Nt (b:List St):Nat:=Zg (Zl b)+1
theorem Woz (e:Ex) (b:List St):(St.if_ e b).part.size=e.size+(Nt b+0)+1:=by rw [St.part];rfl
theorem Wol (e:Ex) (b c:List St):(St.Cz e b c).part.size=e.size+(Nt b+(Nt c+0))+1:=by rw [St.part];rfl
theorem Wi8 (e:Ex) (b:List St):(St.Kl e b).part.size=e.size+(Nt b+0)+1:=by rw [St.part];rfl
theorem Wnt (s:List UInt8) (a b:Ex) (c:List St):(St.for_ s a b c).part.size=a.size+(b.size+(Nt c+0))+1:=by rw [St.part];rfl
theorem Wku (s:List UInt8) (e:Ex):(St.let_ s e).part.size=e.size+0+1:=by rw [St.part];rfl
theorem Wq7 (s:List UInt8) (e:Ex):(St.set s e).part.size=e.size+0+1:=by rw [St.part];rfl
theorem Wam (s:List UInt8) (i e:Ex):(St.put s i e).part.size=i.size+(e.size+0)+1:=by rw [St.part];rfl
theorem Wk8 (e:Ex):(St.ret e).part.size=e.size+0+1:=by rw [St.part];rfl
theorem Wen (e:Ex):(St.print e).part.size=e.size+0+1:=by rw [St.part];rfl
theorem Wa7 (s:List UInt8) (xs:List Ex):(St.do_ s xs).part.size=(Ex.call s xs).size+0+1:=by rw [St.part];rfl
theorem Wi5 (a:St) (b:List St):Zg (Zl (a::b))=a.part.size+Zg (Zl b):=by rw [Zl];rfl
mutual
theorem Q7g: ∀a:St,a.need<=2*a.part.size
 | .let_ s e=>by have:=Ao e;rw [St.need,Wku];omega
 | .set s e=>by have:=Ao e;rw [St.need,Wq7];omega
 | .put s i e=>by have:=Ao e;have:=Ao i;rw [St.need,Wam];omega
 | .if_ e b=>by have:=Ao e;have:=Qcv b;rw [St.need,Woz,Nt];omega
 | .Cz e b c=>by have:=Ao e;have:=Qcv b;have:=Qcv c;rw [St.need,Wol,Nt,Nt];omega
 | .Kl e b=>by have:=Ao e;have:=Qcv b;rw [St.need,Wi8,Nt];omega
 | .for_ s a b c=>by have:=Ao a;have:=Ao b;have:=Qcv c;rw [St.need,Wnt,Nt];omega
 | .brk=>by rw [St.need];exact Vh _
 | .cont=>by rw [St.need];exact Vh _
 | .ret e=>by have:=Ao e;rw [St.need,Wk8];omega
 | .print e=>by have:=Ao e;rw [St.need,Wen];omega
 | .do_ s xs=>by have:=Ao (.call s xs);rw [St.need,Wa7];omega
theorem Qcv: ∀b:List St,Ce b<=2*Zg (Zl b)
 | []=>by rw [Ce];exact Vh _
 |a::b=>by have:=Q7g a;have:=Qcv b;rw [Ce,Wi5];omega
end
theorem Qf9 (n:Nat):(tabs n).length=n:=List.length_replicate
theorem Nh {B n:Nat} (h:48<=B):48*n<=B*n:=Nat.mul_le_mul_right n h
mutual
theorem Wio: ∀(a:St) (d K B:Nat),a.fin->d+a.part.size<=K->B=2*K+60->(a.txt d).length+d+2<=B*a.part.size
 | .let_ s e,d,K,B,h,hK,hB=>by rw [St.fin]at h;have h1:=Cq e h.2;have h2:=h.1.short;have h3:=Nh (B:=B) (n:=e.size) (by omega);rw [Wku]at hK ⊢;rw [St.txt,Cu,Cu];simp only [Qf,Qp,Q8,show Jj.length=3 from rfl,show eqs.length=1 from rfl];omega
 | .set s e,d,K,B,h,hK,hB=>by rw [St.fin]at h;have h1:=Cq e h.2;have h2:=h.1.short;have h3:=Nh (B:=B) (n:=e.size) (by omega);rw [Wq7]at hK ⊢;rw [St.txt,Cu,Cu];simp only [Qf,Qp,Q8,show eqs.length=1 from rfl];omega
 | .put s i e,d,K,B,h,hK,hB=>by rw [St.fin]at h;have h1:=Cq e h.2.2;have h0:=Cq i h.2.1;have h2:=h.1.short;have h3:=Nh (B:=B) (n:=e.size) (by omega);have h4:=Nh (B:=B) (n:=i.size) (by omega);rw [Wam]at hK ⊢;rw [St.txt,Cu,Cu,Cu];simp only [Qf,Qp,Q8,show eqs.length=1 from rfl];omega
 | .if_ e b,d,K,B,h,hK,hB=>by rw [St.fin]at h;rw [Woz,Nt]at hK ⊢;have h1:=Cq e h.1;have h2:=Qe0 b (d+1) K B h.2 (by omega) hB;have h3:=Nh (B:=B) (n:=e.size) (by omega);rw [St.txt,Cu,Cu,Cu,Cu];simp only [Qf,Qp,Q8,show Ae.length=2 from rfl,Qf9];omega
 | .Cz e b c,d,K,B,h,hK,hB=>by rw [St.fin]at h;rw [Wol,Nt,Nt]at hK ⊢;have h1:=Cq e h.1;have h2:=Qe0 b (d+1) K B h.2.1 (by omega) hB;have h4:=Qe0 c (d+1) K B h.2.2 (by omega) hB;have h3:=Nh (B:=B) (n:=e.size) (by omega);rw [St.txt];simp only [Cu,Qf,Qp,Q8,show Ae.length=2 from rfl,show X7.length=4 from rfl,Qf9];omega
 | .Kl e b,d,K,B,h,hK,hB=>by rw [St.fin]at h;rw [Wi8,Nt]at hK ⊢;have h1:=Cq e h.1;have h2:=Qe0 b (d+1) K B h.2 (by omega) hB;have h3:=Nh (B:=B) (n:=e.size) (by omega);rw [St.txt];simp only [Cu,Qf,Qp,Q8,show Ck.length=5 from rfl,Qf9];omega
 | .for_ s a b c,d,K,B,h,hK,hB=>by rw [St.fin]at h;rw [Wnt,Nt]at hK ⊢;have h0:=h.1.short;have h1:=Cq a h.2.1;have h5:=Cq b h.2.2.1;have h2:=Qe0 c (d+1) K B h.2.2.2 (by omega) hB;have h3:=Nh (B:=B) (n:=a.size) (by omega);have h4:=Nh (B:=B) (n:=b.size) (by omega);rw [St.txt];simp only [Cu,Qf,Qp,Q8,show Kc.length=3 from rfl,show eqs.length=1 from rfl,Qf9];omega
 | .brk,d,K,B,h,hK,hB=>by rw [show St.brk.part.size=1 by rw [St.part];rfl]at hK ⊢;rw [St.txt];simp only [Qf,Qp,Q8,show Ju.length=5 from rfl];omega
 | .cont,d,K,B,h,hK,hB=>by rw [show St.cont.part.size=1 by rw [St.part];rfl]at hK ⊢;rw [St.txt];simp only [Qf,Qp,Q8,show Jy.length=8 from rfl];omega
 | .ret e,d,K,B,h,hK,hB=>by rw [St.fin]at h;have h1:=Cq e h;have h3:=Nh (B:=B) (n:=e.size) (by omega);rw [Wk8]at hK ⊢;rw [St.txt];simp only [Cu,Qf,Qp,Q8,show Ap.length=6 from rfl];omega
 | .print e,d,K,B,h,hK,hB=>by rw [St.fin]at h;have h1:=Cq e h;have h3:=Nh (B:=B) (n:=e.size) (by omega);rw [Wen]at hK ⊢;rw [St.txt];simp only [Cu,Qf,Qp,Q8,show Bp.length=5 from rfl];omega
 | .do_ s xs,d,K,B,h,hK,hB=>by rw [St.fin]at h;have h1:=Cq (.call s xs) h;have h3:=Nh (B:=B) (n:=(Ex.call s xs).size) (by omega);rw [Wa7]at hK ⊢;rw [St.txt,Cu,Cu,Qf,Yw];omega
theorem Qe0: ∀(b:List St) (d K B:Nat),Fy b->d+Zg (Zl b)<=K->B=2*K+60->(Vk b d).length<=B*Zg (Zl b)
 | [],d,K,B,h,hK,hB=>by rw [Vk];exact Vh _
 |a::b,d,K,B,h,hK,hB=>by rw [Fy]at h;rw [Wi5]at hK ⊢;have h1:=Wio a d K B h.1 (by omega) hB;have h2:=Qe0 b d K B h.2 (by omega) hB;rw [Vk];simp only [Cu,Qf,Qp,Qf9];omega
end
theorem Qo6 (k:Nat):(Xh k).length<=4:=by
 rcases V7 k 4 with h |h
 ·exact (by decide: ∀k,k<4->(Xh k).length<=4) k h
 ·unfold Xh;rw [Yc,Qbz (by show 4<=k;exact h)];exact Vh _
theorem Qoo: ∀(ps:List (List UInt8×Nat)),(∀p∈ps,Qd0 p)-> ∀f:Bool,(Fj f ps).length<=48*Zg (ps.map Zb)
 | [],_,f=>Vh _
 |p::ps,h,f=>by
  have h1:=(h p (by simp)).1.short;have h2:=Qoo ps (λq hq=>h q (Iy _ hq)) false;have h3:((if f=true then []else [44,32]:List UInt8)).length<=2:=by cases f<;>decide
  have h4:=Qo6 p.2;have h5:Zg ((p::ps).map Zb)=1+Zg (ps.map Zb):=rfl;rw [Fj,h5];simp only [Qf,Qp];omega
theorem Wcd (ps qs:List Part):Zg (ps++qs)=Zg ps+Zg qs:=by rw [Qld,Qld,Qld,Zp,List.sum_append]
theorem Wp9 (f:Wm):f.part.size=Zg (f.ps.map Zb)+(Nt f.body+0)+1:=by show Zg f.parts+1=_;unfold Wm.parts;rw [Wcd];rfl
theorem Wkx {f:Wm} (h:f.Fin) {K B:Nat} (hK:f.part.size<=K) (hB:B=2*K+60):f.txt.length<=B*f.part.size:=by rw [Wp9,Nt]at hK ⊢;have h1:=Qe0 f.body (0+1) K B h.body (by omega) hB;have h2:=Qoo f.ps h.Qnb true;have h3:=Nh (B:=B) (n:=Zg (f.ps.map Zb)) (by omega);have h4:=h.name.short;have h5:=Qo6 f.k;unfold Wm.txt Bf;simp only [Cu,Qf,Qp,Q8,show Ki.length=2 from rfl,Qf9];omega
theorem Qsk: ∀(fs:List Wm) (K B:Nat),(∀f∈fs,f.Fin)->Zg (fs.map Wm.part)<=K->B=2*K+60->(Xv fs).length<=B*Zg (fs.map Wm.part)
 | [],K,B,_,_,_=>Vh _
 |f::fs,K,B,h,hK,hB=>by have e:Zg ((f::fs).map Wm.part)=f.part.size+Zg (fs.map Wm.part):=rfl;rw [e]at hK ⊢;have h1:=Wkx (h f (by simp)) (K:=K) (by omega) hB;have h2:=Qsk fs K B (λq hq=>h q (Iy _ hq)) (by omega) hB;rw [Xv,Qf,Cu];omega
theorem Qvr: ∀fs:List Wm,Gq fs<=2*Zg (fs.map Wm.part)
 | []=>Vh _
 |f::fs=>by have e:Zg ((f::fs).map Wm.part)=f.part.size+Zg (fs.map Wm.part):=rfl;have h1:=Qcv f.body;have h2:=Qvr fs;rw [e,Wp9,Nt,Gq,Wm.need];omega
theorem Q7m {fs:List Wm} (h:Qnn fs) (hz:(Ko fs).size<=80):(Xv fs).length<=65536/\Gq fs<=200:=by have e:(Ko fs).size=Zg (fs.map Wm.part)+1:=rfl;have h1:=Qsk fs 80 220 h.fns (by omega) rfl;have h2:=Qvr fs;omega
section
open Go.RowKit
theorem Q8f {w:World} {w':World} (hb:Held w' w.heap.size 42 #[.pointer none,.slice none 0 0]):Bd w.heap.size w.heap.size [] w':=
 .inl ⟨Qh _,.slice none 0 0,hb,⟨rfl,.inl ⟨rfl,rfl⟩⟩,by simp [Value.ownBlock]⟩
theorem Wp4 {K n:Int} (h:Q6 K=true) (hop:K=5->1<=n/\n<=16):Jt K n≠0:=by
 unfold Jt;by_cases h5:K=5
 ·rw [Qk h5];have:=hop h5;rw [Qd (by omega)];have h1:=(by decide: ∀op,op<17->1<=op->1<=stOp op) n.toNat (by omega) (by omega);omega
 ·rw [Qd h5];by_cases h67:K=6\/K=7
  ·rw [Qk h67];decide
  ·rw [Qd h67,Qk h];decide
def Wq6 (l:List Nd) (w:World) (e:Ending) (w':World):Prop:=Below w.heap.size w w'/\
 ((Rt l/\Q6 (nd l (l.length-1)).kind=true/\ ∃x,XE l ((l.length-1:Nat):Int) x/\e= .returned (.tuple #[.string ⟨x.txt.toArray⟩,.bool true]))\/(¬(Rt l/\Q6 (nd l (l.length-1)).kind=true)/\e= .returned (.tuple #[.string ⟨#[]⟩,.bool false])))
theorem Wkz (a:Option Addr) (c n:Nat) (l:List Nd) (w:World) (hn:n=l.length) (hf:n<=1000000) (hc:n<=c) (hN:Nodes w a l) (hP:Ir w) (J5: ∀j,j<l.length->(nd l j).n<=9223372036854775807):
  Calls prog 14 #[.slice a n c] w (Wq6 l w):=by
 have hright:=Qsq a c l w hP.tabs hN (by omega);rw [<-hn]at hright;have HR:=Qa hright;have HN:=Qa hN;have HP:=Qa hP;have Zn:=Qa hn;have Qdw:=Qa J5;clear hright hN hP hn J5;go_enter func14,ntmps14;rw [Qz 3,Qz 4];go_wp2_with fail;refine HR.out.mono ?_;rintro e w1 ⟨b,rfl,hiff,hb1⟩;have HB1:=Qa hb1;have Ka:=Qa hiff;clear hb1 hiff;cases b with
 |false=>
  have V9:Hid (¬Rt l):=λh=>by cases Ka.out.2 h
  go_wp2_with fail;exact bodyPost_ret (v:=.tuple #[.string ⟨#[]⟩,.bool false]) (by simp [results,results14,go_sem]) rfl ⟨HB1.out,.inr ⟨λh=>V9.out h.1,rfl⟩⟩
 |true=>
  have Nf:Hid (Rt l):=Ka.out.1 rfl;have hpos:0<n:=by rw [Zn.out];exact Nf.out.1.1
  obtain ⟨p,rfl⟩: ∃p,n=p+1:=⟨n-1,by omega⟩;have hpl:p<l.length:=by rw [<-Zn.out];omega
  have HPE:Hid (l.length-1=p):=by show _=_;rw [<-Zn.out,Nat.add_sub_cancel]
  obtain ⟨nb,no,rfl,hnb,c0,c1,c2,c3,c4⟩:=(HN.out.below HB1.out).at_ hpl;obtain ⟨y,hy⟩:=Qb (nd l p);rw [<-hy]at c0 c1 c2 c3 c4;have HY:=Qa hy;have Jb:=Qa (Lm y.kind y.n y.ka y.kids.length y.kc y.s y.at_ w1 (HP.out.below HB1.out));have Wc7:=Qa ((Wz.of Nf.out Qdw.out).fit hpl);have hpi:(p:Int)<(p:Int)+1:=by omega
  have hwp:IntKind.i64.wrap (p:Int)=(p:Int):=Go.IntWalk.i64_in _ (by omega);clear hy;go_wp2_with fail;refine Jb.out.mono ?_;rintro e w2 ⟨rfl,hb2⟩;have HB2:Hid (Below w.heap.size w w2):=HB1.out.trans (hb2.mono HB1.out.size);clear hb2 c0 c1 c2 c3 c4;cases hx:Q6 y.kind with
  |false=>
   have V9:Hid (¬Q6 (nd l (l.length-1)).kind=true):=(by show¬_;rw [HPE.out,<-HY.out,hx];exact Bool.false_ne_true);have HS0:=Qa (Q30 (n:=y.n) hx);rw [HS0.out];clear hx;go_wp2_with fail;exact bodyPost_ret (v:=.tuple #[.string ⟨#[]⟩,.bool false]) (by simp [results,results14,go_sem]) rfl ⟨HB2.out,.inr ⟨λh=>V9.out h.2,rfl⟩⟩
  |true=>
   have Q4q:Hid (Q6 (nd l (l.length-1)).kind=true):=(by show _=_;rw [HPE.out,<-HY.out,hx]);have hst:Jt y.kind y.n≠0:=Wp4 hx (λh5=>by
    have h1:=Oz (show ownB y=true by rw [HY.out];exact Wc7.out.1) h5;have h2:(decide (1<=y.n)&&decide (y.n<=16))=true:=h1;rw [Yo,Wt,Wt]at h2;exact h2);have HXE:Hid (∃x,XE l ((p:Nat):Int) x/\x.txt.length<=48000000):=by
    obtain ⟨x,hX,_⟩:=((Wz.of Nf.out Qdw.out).is hpl).ex (by rw [<-HY.out];exact hx);refine ⟨x,hX,?_⟩;have h1:=Cq x hX.fin;have h2:x.size=sz l p:=hX.z;have h3:=Qlo Nf.out.1;rw [HPE.out]at h3;have h4:=Zn.out;omega
   obtain ⟨S,hS⟩:=Qb (Jt y.kind y.n);rw [<-hS]at hst ⊢;have hSi: ¬(S:Int)=0:=(by omega);clear hS hst hx;go_wp2_with fail;refine Qn ?_;go_wp2_with fail;obtain ⟨x,hX,hxl⟩:=HXE.out;have HX:=Qa hX;have HXL:=Qa hxl;clear hX hxl;obtain ⟨ob,Ip⟩:=Qb w2.heap.size;obtain ⟨w3,hw3⟩:=Qb (w2.alloc (.cells #[.pointer none,.slice none 0 0] 42));have Qur:Hid (Below w2.heap.size w2 w3):=(by rw [hw3];exact Qag);have Wja:Hid (Bd w2.heap.size ob [] w3):=by rw [Ip];exact Q8f (by rw [hw3];exact Held.new w2 _ _)
   rw [<-hw3,<-Ip];clear hw3 Ip;have Oo:=Qa (Wz.of Nf.out Qdw.out);have HN2:=Qa (HN.out.below HB2.out);have Gl:=Qa (HP.out.below HB2.out);refine Qn ?_;go_wp2_with fail;refine (Qw0 (c:=c) HN2.out Zn.out (by omega) hc Oo.out Gl.out Qur.out Wja.out).mono ?_;rintro e w4 ⟨Ho,Ih,G6,Gw,rfl,Yz,hb4⟩;have Ya:=Qa Yz;have Zv:Hid (Below w2.heap.size w2 w4):=Qur.out.trans (hb4.mono Qur.out.size);clear Yz hb4;have Df:=Qa (Q5t (P:=⟨w2,some ⟨nb,no,none⟩,l,p+1,c,ob,Ho,Ih,G6,Gw⟩) Oo.out (p+1) p (by omega) hpl (by show Q6 (nd l p).kind=true;rw [<-HPE.out];exact Q4q.out) x HX.out [] w4 Ya.out (by have:=HXL.out;simp;omega));go_wp2_with fail;refine Df.out.mono ?_;rintro e w5 ⟨rfl,Vv,hk5⟩;have Zz:=Qa Vv;have A9:Hid (Below w2.heap.size w2 w5):=Zv.out.trans hk5.below;clear Vv hk5;go_wp2_with fail;refine (Tryz.Builder_String_any_k w2.heap.size ob ([]++x.txt) w5 Zz.out.bd Zz.out.bd.size).mono ?_;rintro e w6 ⟨rfl,_,hb6,_⟩;have Br:Hid (Below w.heap.size w w6):=HB2.out.trans ((A9.out.trans hb6).mono HB2.out.size);clear hb6;go_wp2_with fail;exact bodyPost_ret (v:=.tuple #[.string ⟨x.txt.toArray⟩,.bool true]) (by simp [results,results14,go_sem]) rfl ⟨Br.out,.inl ⟨Nf.out,Q4q.out,x,by rw [HPE.out];exact HX.out,rfl⟩⟩
theorem Wm3:(prog.info? 9).map (λi=>(i.zero,i.size,i.bytes))=some (some (.string ⟨#[]⟩),1,16):=by kernel_rfl
theorem Wgh {ops:Array Oper} {o:Oper} {a:Act} {K:Act->World->Prop} {Q:Exit->Act->World->Prop} {E:Prop} (hgd:o.guard=none) (s x:Operand)
  (ho:o.op= .call {callee:=.builtin .append,args:= #[s,x],argTypes:= #[86,86]})
  (w0 w:World) (v:Value) (n:Nat) (xs:List Value) (z:ByteArray) (hs:a.eval s=v) (hx:a.eval x= .slice (some ⟨w.heap.size,0,none⟩) 1 1) (hb:Xi 9 1 w0 w v n xs) (hlen:n<=10000000)
  (h: ∀v' w',Xi 9 1 w0 w' v' (n+1) (xs++[.string z])->K (a.put o.dst v') w'):
  if Region.wanted o (yielded ops a.tmps)=true then Oper.wp prog o a (w.alloc (.cells #[.string z] 9)) K Q else E:=by
 obtain ⟨i0,hi,hz0,hz1,hz2⟩:=info_parts Wm3;refine step_append_lies _ hgd s x 86 ho w0.heap.size 9 i0 (.string ⟨#[]⟩) 1 16 underlying86 hi hz0 hz1 hz2 rfl (by decide) v n xs hs (hb.1.alloc _) ⟨w.heap.size,0,none⟩ 1 1 [.string z] hx rfl ?_ ?_ (by decide) (by unfold maxLen;omega) (by omega) (by have:=hb.2.size;simp;omega) _ rfl ?_
 ·intro j u hj
  match j,hj with
  | 0,hj=>simp at hj;subst hj;simp [Addr.add]
 ·intro u hu;simp at hu;subst hu;rfl
 ·intro g cap w' hown hgrow hw hlt;refine h (.slice (some ⟨g,0,none⟩) (n+1) cap) w' ⟨hown,?_⟩;refine ((hb.2.alloc hb.2.size _)).grown hgrow (by have:=hb.2.size;simp;omega) ?_;intro k hk;exact (hb.1.lt k hk).1
def pv9 (p:List UInt8×Nat):Value:=.string ⟨(p.1++32::Xh p.2).toArray⟩
theorem Q13 {m:Nat} (h:m<=3):Ud (m:Int)=Xh m:=by unfold Ud Xh;rw [Qk (by omega),Ja]
theorem Whk (S K:List UInt8):(⟨S.toArray⟩++(⟨#[32]⟩:ByteArray)++⟨K.toArray⟩:ByteArray)=⟨(S++32::K).toArray⟩:=by apply ByteArray.ext;simp
theorem Q07: ∀(f:Bool) (ps:List (List UInt8×Nat)),ps≠[]->Fj f ps=(if f then []else [44,32])++Lib.join (ps.map λp=>p.1++32::Xh p.2) [44,32]
 |f,[],h=>absurd rfl h
 |f,[p],_=>by rw [Y6,Vi,Lib.join_one];simp [Fj]
 |f,p::q::ps,_=>by have ih:=Q07 false (q::ps) (List.cons_ne_nil _ _);rw [Y6,Lib.join_cons];rw [Fj,ih,Y6,Lib.join_cons];simp [Lib.joinTail]
theorem Wom {w:World} {a ka:Option Addr} {l:List Nd} {n c kc m:Nat} {ks:List Int} {ps:List (List UInt8×Nat)} (hn:n=l.length) (hf:n<=1000000) (hN:Nodes w a l) (hP:Ir w) (hm:m=ks.length) (hm8:m<=8) (hr:Vd .i64 w ka m (λj=>ks.getD j 0)) (hpl:ps.length=m)
  (hk: ∀j,j<m-> ∃q:Nat,ks.getD j 0=(q:Int)/\q<l.length/\Qv l q 24 ((ps.getD j ([],0)).2:Int) (ps.getD j ([],0)).1 []/\Qd0 (ps.getD j ([],0))):
  Calls prog 19 #[.slice a n c,.slice ka m kc] w λe w'=>e= .returned (.string ⟨(Fj true ps).toArray⟩)/\Below w.heap.size w w':=by
 have HN:=Qa hN;have HP:=Qa hP;have Zn:=Qa hn;have HR:=Qa hr;have O7:=Qa hpl;have HK:=Qa hk;clear hn hN hP hm hr hpl hk;go_enter func19,ntmps19;go_wp2_with fail;go_loopw [5,7,10] (λv _ t wr=> ∃j:Nat,j<=m/\t= .int .i64 (j:Int)/\Hid (Xi 9 1 w wr v j ((ps.take j).map pv9))) (λ_ _ t _=>m-(intOf t).toNat)
 case atStart=>exact ⟨0,by omega,rfl,by rw [List.take_zero];exact Xi.nil _ _ _⟩
 case round=>
  obtain ⟨j,hj,rfl,HV⟩:=hrel;by_cases hjm:j<m
  ·have Qgb:(j:Int)<(m:Int):=(by omega);obtain ⟨q,hq,M6,hat,hfin⟩:=HK.out j hjm;obtain ⟨kb,ko,hka,hkb,hkc⟩:=HR.out (by omega);have ck:=(HV.out.2.cell (p:=⟨kb,ko+j,none⟩) hkb).trans (hkc j hjm);simp only at ck;rw [hq]at ck;obtain ⟨nb,no,ha,hnb,hc5⟩:=(HN.out.below HV.out.2).at_ M6;obtain ⟨d0,d1,d2,d3,d4⟩:=hc5;rw [hat.n]at d2;rw [Q3k,hat.t]at d3;have hqn:(q:Int)<(n:Int):=(by have:=Zn.out;omega);obtain ⟨p,hp⟩:=Qb (ps.getD j ([],0));rw [<-hp]at d2 d3 hfin;have Yi:Hid ((ps.take (j+1)).map pv9=(ps.take j).map pv9++[pv9 p]):=by show _=_;rw [Qos (d:=(([],0):List UInt8×Nat)) (by rw [O7.out];exact hjm),Zp,<-hp];rfl
   obtain ⟨SB,hsb⟩:=Qb (⟨p.1.toArray⟩:ByteArray);obtain ⟨KB,hkb'⟩: ∃KB:ByteArray,KB=⟨(Xh p.2).toArray⟩:=⟨_,rfl⟩;have hsbz:SB.size<=32:=(by rw [hsb,Ad];exact hfin.1.short);have Wic:KB.size<=4:=(by rw [hkb',Ad];exact Qo6 _);have hz1: ¬(9223372036854775807<SB.size+1):=(by omega);have hz2: ¬(9223372036854775807<SB.size+1+KB.size):=(by omega);have Wky:Hid (Value.string (SB++(⟨#[32]⟩:ByteArray)++KB)=pv9 p):=(by show _=_;rw [hsb,hkb',Whk];rfl);have N8:Hid (Calls prog 20 #[.int .i64 (p.2:Int)] wr.drew λe w'=>e= .returned (.string KB)/\w'=wr.drew):=by have h1:=Qso (p.2:Int) wr.drew (((HP.out.below HV.out.2).below (Wq wr 1 _)).tabs);rw [Q13 hfin.2.2]at h1;rw [hkb'];exact h1
   rw [<-hsb]at d3;have HVD:=Qa (HV.out.drewN 1);obtain ⟨va,vc,hv,hvc,_⟩:=HV.out.shape;subst hv;rw [hka,ha];obtain ⟨N9,hN9⟩:=Qb ((p.2:Int):Int);rw [<-hN9]at d2 N8;clear d0 d1 d4 hkc hat hfin hq hp hsb hkb' hN9;go_wp2_with fail;go_region_law (first
    |(go_simp;go_at_call 20;refine N8.out.mono ?_;rintro e w2 ⟨rfl,hw2⟩;rw [hw2];clear hw2 w2)
    |(refine Wgh rfl (.tmp 14) (.tmp 28) rfl w wr.drew (.slice va j vc) j ((ps.take j).map pv9) (SB++(⟨#[32]⟩:ByteArray)++KB) (by rfl) (by rfl) HVD.out (by omega) ?_;intro v3 w3 h3;have HV3:=Qa h3;clear h3))
   all_goals
    rw [Wky.out,<-Yi.out]at HV3;go_wp2_with fail;go_roundw
    case rel=>exact ⟨j+1,by omega,by go_num,HV3⟩
    case measure=>simp [intOf];omega
  ·have HJ:Hid (ps.take j=ps):=(by show _=_;rw [F6 (by rw [O7.out];omega)]);rw [HJ.out]at HV;obtain rfl:j=m:=(by omega);rcases Nat.eq_zero_or_pos j with h0 |h0
   ·have HE:Hid (ps=[]):=List.length_eq_zero_iff.1 (by rw [O7.out];exact h0);subst h0;obtain ⟨va,vc,hv,_⟩:=HV.out.shape;subst hv;go_wp2_with fail;refine (Tryz.strings_Join_none va vc _ wr).mono ?_;rintro e w3 ⟨rfl,hw3⟩;rw [hw3];clear hw3 w3;go_wp2_with fail;go_ret;exact ⟨by rw [HE.out];rfl,HV.out.2⟩
   ·obtain ⟨va,vc,hv,hvc,hcell⟩:=HV.out.shape;obtain ⟨g,hg,Uz,hcc⟩:=hcell h0;subst hv hg;obtain ⟨F,hF⟩:=Qb (ps.map λp=>p.1++32::Xh p.2);have Uc:Hid ((F.map (λb=>(⟨b.toArray⟩:ByteArray))).length=j):=(by show _=_;rw [Zr,hF,Zr];exact O7.out);have HFM:Hid ((F.map (λb=>(⟨b.toArray⟩:ByteArray))).map (·.data.toList)=F):=by show _=_;rw [Ea];exact List.map_id F
    have Hz:Hid (ps≠[]):=λe=>(by have h1:=O7.out;rw [e]at h1;simp at h1;omega);have Qo:Hid (Fj true ps=Lib.join F [44,32]):=(by show _=_;rw [Q07 true ps Hz.out,hF];rfl);have HLEN:Hid ((Fj true ps).length<=48*100):=by
     have hfin: ∀p∈ps,Qd0 p:=λp hp=>by obtain ⟨i,hi⟩:=List.getElem?_of_mem hp;have hil:=(List.getElem?_eq_some_iff.1 hi).1;obtain ⟨_,_,_,_,h2⟩:=HK.out i (by rw [<-O7.out];exact hil);rw [Yc,hi]at h2;exact h2
     have h1:=Qoo ps hfin true;have h2: ∀qs:List (List UInt8×Nat),Zg (qs.map Zb)=qs.length:=λqs=>by
      induction qs with
      |nil=>rfl
      |cons q qs ih=>show (Zb q).size+Zg (qs.map Zb)=qs.length+1;rw [ih];show 0+1+qs.length=_;omega
     rw [h2]at h1;have h3:=O7.out;show _<=_;omega
    have hj:=Tryz.strings_Join g 0 vc (F.map (λb=>(⟨b.toArray⟩:ByteArray))) ⟨#[44,32]⟩ wr (λi y hy=>by
      rw [Bq];refine hcc i _ ?_;rw [Ng]at hy ⊢;cases hfj:F[i]? with
      |none=>rw [hfj]at hy;cases hy
      |some b=>
       rw [hfj]at hy;injection hy with hy
       rw [<-hy];rw [hF,Ng]at hfj;cases hpi:ps[i]? with
       |none=>rw [hpi]at hfj;cases hfj
       |some p=>
        rw [hpi]at hfj;injection hfj with hfj
        rw [<-hfj];rfl) Uz (by rw [Uc.out];omega) (by rw [Uc.out];exact hvc) (by rw [HFM.out];have h1:=HLEN.out;rw [Qo.out]at h1;exact F7 h1 (by omega));rw [Uc.out,HFM.out]at hj;have HJN:=Qa hj;clear hj hcell hcc Uz hvc hF;go_wp2_with fail;refine HJN.out.mono ?_;rintro e w3 ⟨rfl,hb3⟩;have HB3:Hid (Below w.heap.size w w3):=HV.out.2.trans (hb3.mono HV.out.2.size);clear hb3;go_wp2_with fail;go_ret;exact ⟨by rw [Qo.out];rfl,HB3.out⟩
end
end Go.Proofs.YtdncpkkhkbijfaaGreatDoor
