import Derived.Test.YtdncpkkhkbijfaaDoorTe1
import Derived.Lib.QuietBelow
import Derived.BigQuiet
set_option linter.all false
set_option maxHeartbeats 0
set_option maxRecDepth 100000
namespace Go.Proofs.YtdncpkkhkbijfaaDoor
section
def Ig (o:Oper):Bool:=match o.op with
 | .move _ | .assign _ | .pick _ _ _ | .load _ _ | .binOp _ _ _ _ _ | .fieldAddr _ _ _ | .indexAddr _ _ _=>true
 |_=>false
theorem Qrz {P:Program} {s:Sem Value} {w w':World} {f:FuncId} {args:Array Value}:(do pure (Next.value (<-s)):Sem Next).run P w≠ .ok (.enter f args) w':=by
 intro h;simp only [Sem.run_bind,Sem.run_pure]at h;cases hs:s.run P w with
 |ok v w1=>rw [hs]at h;simp [Result.andThen]at h
 |halt x w1=>rw [hs]at h;simp [Result.andThen]at h
theorem Qr5 {P:Program} {o:Oper} (h:Ig o=true) (r:Operand->Value) (w:World) {f:FuncId} {args:Array Value} {w':World}:(execOp r o).run P w≠ .ok (.enter f args) w':=by unfold Ig at h;unfold execOp;cases ho:o.op<;>rw [ho]at h<;>first |(cases h;done) |exact Qrz |(intro h2;simp [Sem.run_pure]at h2;done) |(intro h2;simp only [Sem.run_bind,Sem.run_pure]at h2;revert h2;generalize (asBool _).run P w=q;cases q<;>simp [Result.andThen])
theorem Qih {o:Oper} (h:o.guard=none) (f:Nat->Option Bool):Region.wanted o f=true:=by unfold Region.wanted;rw [h]
def sift:List Bool->List Oper->List Oper
 |true::m,o::l=>o::sift m l
 |false::m,_::l=>sift m l
 |_,_=>[]
def idxs:List Bool->Nat->List Nat
 | [],_=>[]
 |true::m,k=>k::idxs m (k+1)
 |false::m,k=>idxs m (k+1)
theorem Ny {ops:Array Oper}: ∀(m:List Bool) (l:List Oper) (k:Nat),m.length=l.length->(∀j,l[j]? =ops[k+j]?)->(sift m l).map some=(idxs m k).map λj=>ops[j]?
 | [],[],k,_,_=>rfl
 | [],_::_,k,h,_=>by simp at h
 |_::_,[],k,h,_=>by simp at h
 |true::m,o::l,k,h,hl=>by
  have h1:=Ny m l (k+1) (by simpa using h) (λj=>by have:=hl (j+1);simpa [Gg,Nat.add_comm 1 j] using this);have h0:some o=ops[k]?:=by simpa using hl 0
  show some o::(sift m l).map some=ops[k]?::(idxs m (k+1)).map λj=>ops[j]?;rw [h1,h0]
 |false::m,o::l,k,h,hl=>Ny m l (k+1) (by simpa using h) (λj=>by have:=hl (j+1);simpa [Gg,Nat.add_comm 1 j] using this)
def Li (ops:Array Oper):List Nat->Array Bool->Bool
 | [],listed=>(Region.ready .any ops listed).isEmpty
 |j::js,listed=>(Region.ready .any ops listed).contains j&&Region.free .any ops listed j&&Li ops js (listed.setIfInBounds j true)
def Qdj (ops:Array Oper) (p j:Nat):Bool:=match ops[p]? with
 |some o=>o.after.any λe=>Region.binds .any e&&e.on==j
 |none=>false
def Ro (ops:Array Oper) (p j:Nat):Bool:=(match ops[j]? with |some o=>Ig o |none=>false)||Qdj ops p j
def Ih (ops:Array Oper) (p:Nat) (Gz:List Nat):List Nat->Array Bool->Bool
 | [],listed=>decide (Region.ready .any ops listed=[p])&&Li ops Gz (listed.setIfInBounds p true)
 |j::js,listed=>(Region.ready .any ops listed).contains j&&decide (j≠p)&&Region.free .any ops listed j&&Ro ops p j&&Ih ops p Gz js (listed.setIfInBounds j true)
section
variable {P:Program}{ops:Array Oper}{C:World→Prop}
theorem YieldsIn.sub {D:World->Prop} (hD: ∀w,D w->C w) {o:Oper} (hp:Ig o=true) {v:Value} {a:Act} (h:YieldsIn P ops C o v a):YieldsIn P ops D o v a:=by
 rcases h with ⟨h1,h2⟩ |h
 ·refine .inl ⟨h1,λw hw=> ?_⟩;have h3:=h2 w (hD w hw);unfold Oper.quietAt at*;generalize hr:(execOp a.eval o).run P w=r at*;cases r with
  |ok n w'=>
   cases n with
   |value u=>exact h3
   |skip=>exact h3
   |enter f args=>exact absurd hr (Qr5 hp _ _)
   |_=>exact h3
  |halt x w'=>exact h3
 ·exact .inr h
theorem Qfp {Q:Act->Prop} (hs:Region.noSelect ops=true): ∀(js:List Nat) (l:List Oper) (listed:Array Bool) (a:Act),(l.map some=js.map λj=>ops[j]?)->Li ops js listed=true->wpQuiet P ops C Q l a->wpAnyQ P .any ops C Q l.length listed a
 | [],[],_,_,_,hB,h=>⟨by simpa [Li] using hB,h⟩
 | [],_::_,_,_,hl,_,_=>by simp at hl
 |_::_,[],_,_,hl,_,_=>by simp at hl
 |j::js,o::l,listed,a,hl,hB,h=>by
  simp only [Yi,List.cons.injEq]at hl;obtain ⟨h0,hl⟩:=hl;simp only [Li,Q7]at hB;obtain ⟨⟨hr,hf⟩,hB'⟩:=hB;have hst:qOp P ops C j (wpQuiet P ops C Q l) a:=by unfold qOp;simp only [<-h0];exact h
  obtain ⟨v,hy,hK⟩:=yieldsIn_of_qOp h0.symm hst;exact wpAnyQ_first h0.symm (Region.noSelect_spec hs) l.length listed a (Region.free_spec h0.symm hf) (by simpa using hr) hy (Qfp hs js l _ _ hl hB' hK)
variable {I:Type}{D:I→World→Prop}{V:I→Value}{J:I→Prop}{p:Nat}{dst:Option Tmp}{Q:I→Act→Prop}
variable (P ops C D V J p dst Q)in
def G8:Nat->Array Bool->Act->Prop
 | 0,_,_=>False
 |fuel+1,listed,a=>Region.ready .any ops listed≠[]/\ ∀i∈Region.ready .any ops listed,
   if i=p then∀x,J x->wpAnyQ P .any ops (D x) (Q x) fuel (listed.setIfInBounds p true) (a.put dst (V x))
   else qOp P ops C i (G8 fuel (listed.setIfInBounds i true)) a
theorem Qfn {op:Oper} (hop:ops[p]? =some op) (hg:op.guard=none) (hd:op.dst=dst)
  (hcall: ∀(a:Act) (w:World),C w-> ∃f args,(execOp a.eval op).run P w= .ok (.enter f args) w/\Calls P f args w (λe w''=> ∃x,J x/\e= .returned (V x)/\D x w''))
  {Q':Exit->Act->World->Prop} (hQ: ∀x a w,D x w->Q x a->Q' .normal a w): ∀(fuel:Nat) (listed:Array Bool) (a:Act) (w:World),C w->G8 P ops C D V J p dst Q fuel listed a->wpAny P .any ops Q' fuel listed a w
 | 0,_,_,_,_,h=>h.elim
 |fuel+1,listed,a,w,hC,h=>by
  refine ⟨λh0=>absurd h0 h.1,λi hi=> ?_⟩;have h1:=h.2 i hi;by_cases F9:i=p
  ·subst F9;rw [Wy rfl]at h1;unfold wpOp;simp only [hop];rw [Wy (Qih hg _)];refine .inl ?_;obtain ⟨f,args,hr,hc⟩:=hcall a w hC;unfold Oper.wp;rw [hr];simp only [Oper.upon];refine hc.mono λe w'' hx=> ?_;obtain ⟨x,hJ,he,hD⟩:=hx;subst he;rw [hd];exact wpAny_of_quiet (λa w hw hq=>hQ x a w hw hq) fuel _ _ _ hD (h1 x hJ)
  ·rw [Q6 F9]at h1;exact wpOp_of_qOp hC (λa' w' hC' hK=>Qfn hop hg hd hcall hQ fuel _ a' w' hC' hK) h1
theorem Qoo {i:Nat} {oi op:Oper} {v:Value} (hi:ops[i]? =some oi) (F9:i≠p) (hop:ops[p]? =some op) (hg:op.guard=none) (hd:op.dst=dst) (Gq: ∀x w,D x w->C w) (hcl:Ro ops p i=true)
  (hsel: ∀(j:Nat) (o:Oper) cs b,ops[j]? =some o->o.op≠ .select cs b):
  ∀(fuel:Nat) (listed:Array Bool) (a:Act),
   (∀j oj,ops[j]? =some oj->j≠i->listed.getD j true=false->(∀e∈oj.after,Region.binds .any e=true->e.on≠i)->oi.apart ops oj=true)->
   i∈Region.ready .any ops listed->YieldsIn P ops C oi v a->
   G8 P ops C D V J p dst Q fuel (listed.setIfInBounds i true) (a.put oi.dst v)->G8 P ops C D V J p dst Q (fuel+1) listed a:=by
 intro fuel
 induction fuel with
 |zero=>intro listed a _ hr hy H;exact H.elim
 |succ fuel ih=>
  intro listed a hfree hr hy H;refine ⟨λh=>(by rw [h]at hr;cases hr),λj hj=> ?_⟩;by_cases hji:j=i
  ·subst hji;rw [Q6 F9];exact hy.qOp hi H
  ·have h1:=H.2 j (ready_mono hj hji);obtain ⟨hjun,oj,hoj,hall⟩:=mem_ready.1 hj;have hnot: ∀e∈oj.after,Region.binds .any e=true->e.on≠i:=λe he hb heq=>by
    have h1:=hall e he hb;have h0:=(mem_ready.1 hr).1;rw [heq]at h1;rcases Xa i listed.size with h' |h'
    ·simp [h']at h0 h1;rw [h0]at h1;cases h1
    ·simp [Array.getElem?_eq_none h']at h1
   have hap:=hfree j oj hoj hji hjun hnot;by_cases hjp:j=p
   ·subst hjp;rw [Wy rfl]at h1 ⊢;intro x hx;have e0:oj=op:=(by rw [hop]at hoj;injection hoj with h;exact h.symm);subst e0;have hpl:Ig oi=true:=by
     unfold Ro Qdj at hcl;simp only [hi,hoj,Bool.or_eq_true]at hcl;rcases hcl with h |h
     ·exact h
     ·exfalso;obtain ⟨e,he,h2⟩:=Array.any_eq_true'.1 h;simp only [Q7,beq_iff_eq]at h2;exact hnot e he h2.1 h2.2
    obtain ⟨a1,a2,a3⟩:=Oper.apart_spec hap;have hy2:YieldsIn P ops (D x) oi v (a.put dst (V x)):=(YieldsIn.sub (Gq x) hpl hy).of_same (execOp_put oi (λcs b=>hsel i oi cs b hi) a dst (V x) (by rw [<-hd];exact a3)) (wanted_put oi a dst (V x) (by rw [<-hd];exact a3));refine wpAnyQ_first hi hsel fuel (listed.setIfInBounds j true) (a.put dst (V x)) (λk ok hk hki hun hno=> ?_) (ready_mono hr (Ne.symm hji)) hy2 ?_
    ·refine hfree k ok hk hki ?_ hno;by_cases hjk:j=k
     ·subst hjk;exact hjun
     ·rw [getD_set_ne true hjk]at hun;exact hun
    ·have h2:=h1 x hx;rw [Array.setIfInBounds_comm _ _ hji,<-Act.put_comm a v (V x) (by rw [<-hd];exact a2)];exact h2
   ·rw [Q6 hjp]at h1 ⊢;have h2:=qOp_put hoj hap (λcs b=>hsel i oi cs b hi) (λcs b=>hsel j oj cs b hoj) hy h1;have hfree': ∀k ok,ops[k]? =some ok->k≠i->(listed.setIfInBounds j true).getD k true=false->
      (∀e∈ok.after,Region.binds .any e=true->e.on≠i)->oi.apart ops ok=true:=λk ok hk hki hun hno=>by
     refine hfree k ok hk hki ?_ hno;by_cases hjk:j=k
     ·subst hjk;exact hjun
     ·rw [getD_set_ne true hjk]at hun;exact hun
    refine qOp_mono (λa' h3=>ih (listed.setIfInBounds j true) a' hfree' (ready_mono hr (Ne.symm hji)) h3.1 ?_) h2;rw [Array.setIfInBounds_comm _ _ hji];exact h3.2
theorem Qau {op:Oper} {Gz:List Nat} {l2:List Oper} (hop:ops[p]? =some op) (hg:op.guard=none) (hd:op.dst=dst) (Gq: ∀x w,D x w->C w) (hs:Region.noSelect ops=true) (hl2:l2.map some=Gz.map λj=>ops[j]?):
  ∀(js:List Nat) (l:List Oper) (listed:Array Bool) (a:Act),(l.map some=js.map λj=>ops[j]?)->Ih ops p Gz js listed=true->
   wpQuiet P ops C (λa'=> ∀x,J x->wpQuiet P ops (D x) (Q x) l2 (a'.put dst (V x))) l a->G8 P ops C D V J p dst Q (l.length+(l2.length+1)) listed a
 | [],[],listed,a,_,hB,h=>by
  simp only [Ih,Q7,Qu]at hB;rw [Qk,Fw];refine ⟨by rw [hB.1];exact List.cons_ne_nil _ _,λi hi=> ?_⟩;rw [hB.1]at hi;have F9:i=p:=by simpa using hi
  subst F9;rw [Wy rfl];intro x hx;exact Qfp hs Gz l2 _ _ hl2 hB.2 (h x hx)
 | [],_::_,_,_,hl,_,_=>by simp at hl
 |_::_,[],_,_,hl,_,_=>by simp at hl
 |j::js,o::l,listed,a,hl,hB,h=>by
  simp only [Yi,List.cons.injEq]at hl;obtain ⟨h0,hl⟩:=hl;simp only [Ih,Q7,Qu]at hB;obtain ⟨⟨⟨⟨hr,hne⟩,hf⟩,hc⟩,hB'⟩:=hB;have hst:qOp P ops C j (wpQuiet P ops C (λa'=> ∀x,J x->wpQuiet P ops (D x) (Q x) l2 (a'.put dst (V x))) l) a:=by unfold qOp;simp only [<-h0];exact h
  obtain ⟨v,hy,hK⟩:=yieldsIn_of_qOp h0.symm hst;have h3:=Qoo h0.symm hne hop hg hd Gq hc (Region.noSelect_spec hs) (l.length+(l2.length+1)) listed a (Region.free_spec h0.symm hf) (by simpa using hr) hy (Qau hop hg hd Gq hs hl2 js l _ _ hl hB' hK);rw [Qf,Nat.add_right_comm];exact h3
end
def Qbv (ops:Array Oper) (p:Nat) (m1 m2:List Bool):Bool:=
 Region.noSelect ops&&decide (m1.length=ops.size)&&decide (m2.length=ops.size)&&decide ((idxs m1 0).length+((idxs m2 0).length+1)=ops.size)&&(match ops[p]? with |some o=>o.guard.isNone |none=>false)&&Ih ops p (idxs m2 0) (idxs m1 0) (Array.replicate ops.size false)
theorem Qks {P:Program} {id:Nat} {Q':Exit->Act->World->Prop} {a:Act} {w:World} {l:List Oper} {I:Type} {C:World->Prop} {D:I->World->Prop} {V:I->Value} {J:I->Prop} (p:Nat) (m1 m2:List Bool) (op:Oper)
  (hm:P.follows .mixedOrders=true) (hB:Qbv l.toArray p m1 m2=true) (hop:l[p]? =some op) (Gq: ∀x w,D x w->C w) (hC:C {w with drawn:=w.drawn+1})
  (hcall: ∀(a:Act) (w:World),C w-> ∃f args,(execOp a.eval op).run P w= .ok (.enter f args) w/\Calls P f args w (λe w''=> ∃x,J x/\e= .returned (V x)/\D x w''))
  (h:wpQuiet P l.toArray C (λa'=> ∀x,J x->wpQuiet P l.toArray (D x) (λa''=> ∀w',D x w'->Q' .normal a'' w') (sift m2 l) (a'.put op.dst (V x))) (sift m1 l) a):(Code.region id l.toArray true).wp P Q' a w:=by
 unfold Qbv at hB;simp only [Q7,Qu]at hB;obtain ⟨⟨⟨⟨⟨hs,e1⟩,e2⟩,e3⟩,hg⟩,Qle⟩:=hB;have Uq:l.toArray[p]? =some op:=by simpa using hop
 rw [Uq]at hg;have hl1:=Ny (ops:=l.toArray) m1 l 0 (by simpa using e1) (λj=>by simp);have hl2:=Ny (ops:=l.toArray) m2 l 0 (by simpa using e2) (λj=>by simp);have n1:(sift m1 l).length=(idxs m1 0).length:=by have:=congrArg List.length hl1;simpa using this
 have n2:(sift m2 l).length=(idxs m2 0).length:=by have:=congrArg List.length hl2;simpa using this
 have h1:=Qau (P:=P) (C:=C) (D:=D) (V:=V) (J:=J) (Q:=λx a''=> ∀w',D x w'->Q' .normal a'' w') Uq (Option.isNone_iff_eq_none.1 hg) rfl Gq hs hl2 (idxs m1 0) (sift m1 l) (Array.replicate l.toArray.size false) a hl1 Qle h;rw [n1,n2,e3]at h1;exact wp_region_any hm (Qfn Uq (Option.isNone_iff_eq_none.1 hg) rfl hcall (λx a w hw hq=>hq w hw) _ _ _ _ hC h1)
end
end Go.Proofs.YtdncpkkhkbijfaaDoor
