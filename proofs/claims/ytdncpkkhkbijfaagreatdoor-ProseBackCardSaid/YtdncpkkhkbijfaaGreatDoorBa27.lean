import Derived.Test.YtdncpkkhkbijfaaGreatDoorBa26
set_option linter.all false
set_option maxHeartbeats 0
set_option maxRecDepth 100000
namespace Go.Proofs.YtdncpkkhkbijfaaGreatDoor
structure Part where
 size:Nat
 out:Nat->List Nd
 hts:List Nat
 ht:Nat
structure Part.Ba (p:Part):Prop where
 len: ∀b,(p.out b).length=p.size
 hlen:p.hts.length=p.size
 last: ∃t,p.hts=t++[p.ht]
def Zg:List Part->Nat
 | []=>0
 |p::ps=>p.size+Zg ps
def Xy:List Part->Nat->List Nd
 | [],_=>[]
 |p::ps,b=>p.out b++Xy ps (b+p.size)
def Xn:List Part->Nat->List Int
 | [],_=>[]
 |p::ps,b=>((b+p.size-1:Nat):Int)::Xn ps (b+p.size)
def Vq:List Part->List Nat
 | []=>[]
 |p::ps=>p.hts++Vq ps
def Vb:List Part->Nat
 | []=>0
 |p::ps=>max p.ht (Vb ps)
def node (K n:Int) (s:List UInt8) (ps:List Part):Part:=⟨Zg ps+1,λb=>Xy ps b++[En K (Xn ps b) n ⟨s.toArray⟩ 0],Vq ps++[Vb ps+1],Vb ps+1⟩
def X8 (ps:List Part):Prop:= ∀p∈ps,p.Ba
theorem X8.cons {p:Part} {ps:List Part} (h:p.Ba) (g:X8 ps):X8 (p::ps):=λq hq=>by
 rcases List.mem_cons.1 hq with hq |hq
 ·rw [hq];exact h
 ·exact g q hq
theorem X8.nil:X8 []:=λq hq=>absurd hq (Ef)
theorem X8.head {p:Part} {ps:List Part} (h:X8 (p::ps)):p.Ba:=h p (by simp)
theorem X8.tail {p:Part} {ps:List Part} (h:X8 (p::ps)):X8 ps:=λq hq=>h q (Iy _ hq)
theorem Uh: ∀(ps:List Part) (b:Nat),X8 ps->(Xy ps b).length=Zg ps
 | [],b,_=>rfl
 |p::ps,b,h=>by show (p.out b++Xy ps (b+p.size)).length=p.size+Zg ps;rw [Qf,h.head.len,Uh ps _ h.tail]
theorem Qlp: ∀(ps:List Part),X8 ps->(Vq ps).length=Zg ps
 | [],_=>rfl
 |p::ps,h=>by show (p.hts++Vq ps).length=p.size+Zg ps;rw [Qf,h.head.hlen,Qlp ps h.tail]
theorem Da {K n:Int} {s:List UInt8} {ps:List Part} (h:X8 ps):(node K n s ps).Ba:=
 ⟨λb=>by show (Xy ps b++[_]).length=Zg ps+1;rw [Qf,Uh ps b h];rfl,by show (Vq ps++[_]).length=Zg ps+1;rw [Qf,Qlp ps h];rfl,⟨Vq ps,rfl⟩⟩
theorem Part.Ba.pos {p:Part} (h:p.Ba):1<=p.size:=by obtain ⟨t,ht⟩:=h.last;have:=h.hlen;rw [ht,Qf,Yw]at this;omega
theorem Wkl {p:Part} (hp:p.Ba) (h r:List Nat):(h++p.hts++r).getD (h.length+p.size-1) 0=p.ht:=by obtain ⟨t,ht⟩:=hp.last;have hl:=hp.hlen;rw [ht,Qf,Yw]at hl;rw [ht,Yc,Qy,Qy,Ht (by omega),Ht (by omega)];rw [show h.length+p.size-1-h.length-t.length=0 by omega];rfl
theorem Q6o: ∀(ps:List Part) (pre post:List Nat) (a:Nat),X8 ps->1<=a->(Xn ps pre.length).foldl (hstep (pre++Vq ps++post)) a=max a (Vb ps+1)
 | [],pre,post,a,_,ha=>by show a=max a (0+1);omega
 |x::ps,pre,post,a,hf,ha=>by
  have e1:Xn (x::ps) pre.length=((pre.length+x.size-1:Nat):Int)::Xn ps (pre++x.hts).length:=by rw [Qf,hf.head.hlen];rfl
  have e2:pre++Vq (x::ps)++post=(pre++x.hts)++Vq ps++post:=by show pre++(x.hts++Vq ps)++post=_;simp only [Qy]
  rw [e1,e2,List.foldl_cons];have hp:=hf.head.pos;have hlen:pre.length+x.size-1<((pre++x.hts)++Vq ps++post).length:=by rw [Qf,Qf,Qf,hf.head.hlen];omega
  have hg:((pre++x.hts)++Vq ps++post).getD (pre.length+x.size-1) 0=x.ht:=by rw [Qy];exact Wkl hf.head pre (Vq ps++post)
  have hs:hstep ((pre++x.hts)++Vq ps++post) a ((pre.length+x.size-1:Nat):Int)=max a (x.ht+1):=by unfold hstep;rw [Qk ⟨by omega,by omega⟩,Ja,hg]
  rw [hs,Q6o ps (pre++x.hts) post (max a (x.ht+1)) hf.tail (by omega)];show max (max a (x.ht+1)) (Vb ps+1)=max a (max x.ht (Vb ps)+1);omega
def Ct (p:Part) (rest:List Tk) (l:List Nd) (h:List Nat):PS:=⟨rest,l++p.out l.length,h++p.hts⟩
def Vl (p:Part) (l:List Nd):Int:=((l.length+p.size-1:Nat):Int)
def Db (ps:List Part) (rest:List Tk) (l:List Nd) (h:List Nat):PS:=⟨rest,l++Xy ps l.length,h++Vq ps⟩
theorem Quw {K n:Int} {s:List UInt8} {ps:List Part} {l:List Nd} {h:List Nat} {rest:List Tk} (hf:X8 ps) (hh:h.length=l.length) (ht:(node K n s ps).ht<=200):
  lay (En K (Xn ps l.length) n ⟨s.toArray⟩ 0) (Db ps rest l h)= .ok ([Vl (node K n s ps) l],Ct (node K n s ps) rest l h):=by
 have hhigh:high (h++Vq ps) (Xn ps l.length)=Vb ps+1:=by have:=Q6o ps h [] 1 hf (Qh _);rw [Xe,hh]at this;unfold high;rw [this];omega
 rw [Qhq (show high (Db ps rest l h).h (En K (Xn ps l.length) n ⟨s.toArray⟩ 0).kids=Vb ps+1 from hhigh) ht];have e0:(l++Xy ps l.length).length=l.length+Zg ps:=by rw [Qf,Uh ps _ hf]
 unfold Ct Vl node;rw [show (Db ps rest l h).l.length=l.length+(Zg ps+1)-1 by show (l++Xy ps l.length).length=_;omega];show Except.ok (_,PS.mk rest ((l++Xy ps l.length)++[_]) ((h++Vq ps)++[_]))=_;simp only [Qy]
theorem Q6u (p:Part) (ps:List Part) {l:List Nd} {h:List Nat} (hf:p.Ba) (rest:List Tk):Db ps rest (l++p.out l.length) (h++p.hts)=Db (p::ps) rest l h:=by unfold Db;rw [Qf,hf.len];show PS.mk rest (l++p.out l.length++Xy ps (l.length+p.size)) (h++p.hts++Vq ps)=PS.mk rest (l++(p.out l.length++Xy ps (l.length+p.size))) (h++(p.hts++Vq ps));rw [Qy,Qy]
theorem Qkz (rest:List Tk) (l:List Nd) (h:List Nat):Db [] rest l h=⟨rest,l,h⟩:=by unfold Db;show PS.mk rest (l++[]) (h++[])=_;rw [Xe,Xe]
theorem Qsh (p:Part) (ps:List Part) {l:List Nd} (hf:p.Ba):Xn (p::ps) l.length=Vl p l::Xn ps (l++p.out l.length).length:=by rw [Qf,hf.len];rfl
theorem Qen {p:Part} (hf:p.Ba) {l:List Nd} {h:List Nat} (hh:h.length=l.length):(h++p.hts).length=(l++p.out l.length).length:=by rw [Qf,Qf,hf.len,hf.hlen,hh]
def Ex.part (e:Ex):Part:=⟨e.size,e.out,e.hts,e.ht⟩
theorem Ww (e:Ex):e.part.Ba:=⟨Kh e,Dy e,Q1l e⟩
inductive St where
 |let_ (s:List UInt8) (e:Ex)
 |set (s:List UInt8) (e:Ex)
 |put (s:List UInt8) (i e:Ex)
 |if_ (e:Ex) (b:List St)
 |Cz (e:Ex) (b c:List St)
 |Kl (e:Ex) (b:List St)
 |for_ (s:List UInt8) (a b:Ex) (c:List St)
 |brk
 |cont
 |ret (e:Ex)
 |print (e:Ex)
 |do_ (s:List UInt8) (xs:List Ex)
mutual
def St.toks:St->List (List UInt8)
 | .let_ s e=>Jj::s::eqs::(e.toks++[semi])
 | .set s e=>s::eqs::(e.toks++[semi])
 | .put s i e=>s::lb::(i.toks++rb::eqs::(e.toks++[semi]))
 | .if_ e b=>Ae::(e.toks++lc::(K7 b++[rc]))
 | .Cz e b c=>Ae::(e.toks++lc::(K7 b++rc::X7::lc::(K7 c++[rc])))
 | .Kl e b=>Ck::(e.toks++lc::(K7 b++[rc]))
 | .for_ s a b c=>Kc::s::eqs::(a.toks++comma::(b.toks++lc::(K7 c++[rc])))
 | .brk=>[Ju,semi]
 | .cont=>[Jy,semi]
 | .ret e=>Ap::(e.toks++[semi])
 | .print e=>Bp::(e.toks++[semi])
 | .do_ s xs=>(Ex.call s xs).toks++[semi]
def K7:List St->List (List UInt8)
 | []=>[]
 |a::xs=>a.toks++K7 xs
end
mutual
def St.need:St->Nat
 | .let_ _ e=>e.need
 | .set _ e=>e.need
 | .put _ i e=>max (i.need+1) e.need
 | .if_ e b=>max e.need (Ce b+1)
 | .Cz e b c=>max e.need (max (Ce b+1) (Ce c+1))
 | .Kl e b=>max e.need (Ce b+1)
 | .for_ _ a b c=>max a.need (max b.need (Ce c+1))
 | .brk=>0
 | .cont=>0
 | .ret e=>e.need
 | .print e=>e.need
 | .do_ s xs=>(Ex.call s xs).need
def Ce:List St->Nat
 | []=>0
 |a::xs=>max a.need (Ce xs)
end
mutual
def St.part:St->Part
 | .let_ s e=>node 12 0 s [e.part]
 | .set s e=>node 13 0 s [e.part]
 | .put s i e=>node 14 0 s [i.part,e.part]
 | .if_ e b=>node 15 0 [] [e.part,node 23 0 [] (Zl b)]
 | .Cz e b c=>node 15 0 [] [e.part,node 23 0 [] (Zl b),node 23 0 [] (Zl c)]
 | .Kl e b=>node 16 0 [] [e.part,node 23 0 [] (Zl b)]
 | .for_ s a b c=>node 17 0 s [a.part,b.part,node 23 0 [] (Zl c)]
 | .brk=>node 18 0 [] []
 | .cont=>node 19 0 [] []
 | .ret e=>node 20 0 [] [e.part]
 | .print e=>node 21 0 [] [e.part]
 | .do_ s xs=>node 22 0 [] [(Ex.call s xs).part]
def Zl:List St->List Part
 | []=>[]
 |a::xs=>a.part::Zl xs
end
def X6 (b:List St):Part:=node 23 0 [] (Zl b)
def Fp (b:List St):List (List UInt8):=lc::(K7 b++[rc])
mutual
def St.ok:St->Prop
 | .let_ s e=>(mkT s).kind=1/\e.ok
 | .set s e=>(mkT s).kind=1/\e.ok
 | .put s i e=>(mkT s).kind=1/\i.ok/\e.ok
 | .if_ e b=>e.ok/\Oe b
 | .Cz e b c=>e.ok/\Oe b/\Oe c
 | .Kl e b=>e.ok/\Oe b
 | .for_ s a b c=>(mkT s).kind=1/\a.ok/\b.ok/\Oe c
 | .brk=>True
 | .cont=>True
 | .ret e=>e.ok
 | .print e=>e.ok
 | .do_ s xs=>(Ex.call s xs).ok
def Oe:List St->Prop
 | []=>True
 |a::xs=>a.ok/\Oe xs
end
mutual
theorem Qtq: ∀a:St,a.part.Ba
 | .let_ s e=>by rw [St.part];exact Da (.cons (Ww e) .nil)
 | .set s e=>by rw [St.part];exact Da (.cons (Ww e) .nil)
 | .put s i e=>by rw [St.part];exact Da (.cons (Ww i) (.cons (Ww e) .nil))
 | .if_ e b=>by rw [St.part];exact Da (.cons (Ww e) (.cons (Da (Uy b)) .nil))
 | .Cz e b c=>by rw [St.part];exact Da (.cons (Ww e) (.cons (Da (Uy b)) (.cons (Da (Uy c)) .nil)))
 | .Kl e b=>by rw [St.part];exact Da (.cons (Ww e) (.cons (Da (Uy b)) .nil))
 | .for_ s a b c=>by rw [St.part];exact Da (.cons (Ww a) (.cons (Ww b) (.cons (Da (Uy c)) .nil)))
 | .brk=>by rw [St.part];exact Da .nil
 | .cont=>by rw [St.part];exact Da .nil
 | .ret e=>by rw [St.part];exact Da (.cons (Ww e) .nil)
 | .print e=>by rw [St.part];exact Da (.cons (Ww e) .nil)
 | .do_ s xs=>by rw [St.part];exact Da (.cons (Ww _) .nil)
theorem Uy: ∀b:List St,X8 (Zl b)
 | []=>by rw [Zl];exact .nil
 |a::xs=>by rw [Zl];exact .cons (Qtq a) (Uy xs)
end
theorem J8 (b:List St):(X6 b).Ba:=Da (Uy b)
def Ic (a:St):Prop:= ∀(d:Nat) (l:List Nd) (h:List Nat) (rest:List Tk),h.length=l.length->d+a.need<=200->a.part.ht<=200->sees (⟨rest,l,h⟩:PS).tok X7=false->Qs .stmt d ⟨Qr a.toks++rest,l,h⟩ (.ok ([Vl a.part l],Ct a.part rest l h))
def Qcn (b:List St):Prop:= ∀(d:Nat) (l:List Nd) (h:List Nat) (rest:List Tk),h.length=l.length->d+(Ce b+1)<=200->(X6 b).ht<=200->Qs .block d ⟨Qr (Fp b)++rest,l,h⟩ (.ok ([Vl (X6 b) l],Ct (X6 b) rest l h))
theorem Ue {e:Ex} (H:Zm e) {d:Nat} {l:List Nd} {h:List Nat} {b:List UInt8} {rest:List Tk} {f:Nat->Int->PS->Option Out} {v:Out} (hh:h.length=l.length) (hn:d+e.need<=200) (ht:e.ht<=200) (hb:b=semi\/b=comma\/b=lc)
  (g:Ev (λn=>f n (Vl e.part l) (Ct e.part (mkT b::rest) l h)) v):Ev (λn=>Wy n d ⟨Qr e.toks++(mkT b::rest),l,h⟩ (f n)) v:=by
 refine Ev.ex ?_ g;rcases hb with rfl |rfl |rfl
 ·exact Qcb H hh hn ht Wbw rfl rfl
 ·exact Qcb H hh hn ht Qw7 rfl rfl
 ·exact Qcb H hh hn ht Wn7 rfl rfl
theorem Qfu {c:List St} (H:Qcn c) {d:Nat} {l:List Nd} {h:List Nat} {rest:List Tk} {f:Nat->List Int->PS->Option Out} {v:Out} (hh:h.length=l.length) (hn:d+(Ce c+1)<=200) (ht:(X6 c).ht<=200)
  (g:Ev (λn=>f n [Vl (X6 c) l] (Ct (X6 c) rest l h)) v):Ev (λn=>Out.go (Qac n .block d ⟨Qr (Fp c)++rest,l,h⟩) (f n)) v:=Ev.go (H d l h rest hh hn ht).ev g
theorem I9 {K n:Int} {s:List UInt8} {ps:List Part} {l:List Nd} {h:List Nat} {rest:List Tk} {ks:List Int} {st:PS} (hf:X8 ps) (hh:h.length=l.length) (ht:(node K n s ps).ht<=200) (hk:ks=Xn ps l.length) (hs:st=Db ps rest l h):
  Ev (λ_=>some (lay (En K ks n ⟨s.toArray⟩ ((0:Nat):Int)) st)) (.ok ([Vl (node K n s ps) l],Ct (node K n s ps) rest l h)):=by
 rw [hk,hs];exact (Ev.const (v:=lay (En K (Xn ps l.length) n ⟨s.toArray⟩ ((0:Nat):Int)) (Db ps rest l h)))|>λh1=>by rw [show lay (En K (Xn ps l.length) n ⟨s.toArray⟩ ((0:Nat):Int)) (Db ps rest l h)=_ from Quw hf hh ht]at h1 ⊢;exact h1
section
variable {d:Nat}{v:Out}{rest:List Tk}{l:List Nd}{h:List Nat}
theorem Qix {b:Bool} (h:b=false): ¬b=true:=by rw [h];decide
theorem Ot {K n:Int} {s:List UInt8} {ps:List Part}:(node K n s ps).ht=Vb ps+1:=rfl
theorem Qfz (p:Part):Vb [p]=p.ht:=by show max p.ht 0=_;omega
theorem Qps (p q:Part):Vb [p,q]=max p.ht q.ht:=by show max p.ht (max q.ht 0)=_;omega
theorem Q5l (p q r:Part):Vb [p,q,r]=max p.ht (max q.ht r.ht):=by show max p.ht (max q.ht (max r.ht 0))=_;omega
theorem Qf2 (p:Part) (rest:List Tk) (l:List Nd) (h:List Nat):Ct p rest l h=Db [p] rest l h:=by unfold Ct Db;show PS.mk rest (l++p.out l.length) (h++p.hts)=PS.mk rest (l++(p.out l.length++[])) (h++(p.hts++[]));rw [Xe,Xe]
theorem Qlr (p q:Part) (hp:p.Ba) (rest:List Tk) (l:List Nd) (h:List Nat):Ct q rest (l++p.out l.length) (h++p.hts)=Db [p,q] rest l h:=by rw [Qf2,Q6u p [q] hp]
theorem Qzc (p q r:Part) (hp:p.Ba) (hq:q.Ba) (rest:List Tk) (l:List Nd) (h:List Nat):Ct r rest ((l++p.out l.length)++q.out (l++p.out l.length).length) ((h++p.hts)++q.hts)=Db [p,q,r] rest l h:=by rw [Qlr q r hq,Q6u p [q,r] hp]
theorem Qg6 (p:Part) (l:List Nd):[Vl p l]=Xn [p] l.length:=rfl
theorem Qup (p q:Part) (hp:p.Ba) (l:List Nd):[Vl p l,Vl q (l++p.out l.length)]=Xn [p,q] l.length:=by rw [Qsh p [q] hp];rfl
theorem Qx0 (p q r:Part) (hp:p.Ba) (hq:q.Ba) (l:List Nd):[Vl p l,Vl q (l++p.out l.length),Vl r ((l++p.out l.length)++q.out (l++p.out l.length).length)]=Xn [p,q,r] l.length:=by rw [Qsh p [q,r] hp,Qsh q [r] hq];rfl
theorem Wbx {s:List UInt8} {e:Ex} (hk:(mkT s).kind=1) (he:Zm e):Ic (.let_ s e):=by
 intro d l h rest hh hn ht _;rw [St.need]at hn;rw [St.part]at ht ⊢;have ht0:e.ht<=200:=by rw [Ot,Qfz]at ht;have:e.part.ht=e.ht:=rfl;omega
 rw [St.toks,Wn,Wn,Wn,Zd];refine Qs.let_ rfl ?_;refine Ev.name hk ?_;refine Ev.need (b:=eqs) rfl ?_;refine Ue (e:=e) (b:=semi) (rest:=rest) (l:=l) (h:=h) he hh hn ht0 (.inl rfl) ?_;refine Ev.need (b:=semi) rfl ?_;exact I9 (.cons (Ww e) .nil) hh ht (Qg6 _ _) (Qf2 _ _ _ _)
theorem Qv6 {t:Tk} (h:t.kind=1):Xc t=0:=by unfold Xc;have h0: ∀a,sees t a=false:=λa=>Et (.inl h);rw [h0,h0,h0,h0,h0,h0,h0,h0];rfl
theorem Wlc {s:List UInt8} {e:Ex} (hk:(mkT s).kind=1) (he:Zm e):Ic (.set s e):=by
 intro d l h rest hh hn ht _;rw [St.need]at hn;rw [St.part]at ht ⊢;have ht0:e.ht<=200:=by rw [Ot,Qfz]at ht;have:e.part.ht=e.ht:=rfl;omega
 rw [St.toks,Wn,Wn,Zd];refine Qs.named (Qv6 hk) ?_;refine Ev.name hk ?_;refine Ev.Gi (Qix rfl) ?_;refine Ev.Gi (Qix rfl) ?_;refine Ev.need (b:=eqs) rfl ?_;refine Ue (e:=e) (b:=semi) (rest:=rest) (l:=l) (h:=h) he hh hn ht0 (.inl rfl) ?_;refine Ev.need (b:=semi) rfl ?_;exact I9 (.cons (Ww e) .nil) hh ht (Qg6 _ _) (Qf2 _ _ _ _)
theorem Whe {s:List UInt8} {i e:Ex} (hk:(mkT s).kind=1) (hi:Zm i) (he:Zm e):Ic (.put s i e):=by
 intro d l h rest hh hn ht _;rw [St.need]at hn;rw [St.part]at ht ⊢;have ht0:i.ht<=200/\e.ht<=200:=by rw [Ot,Qps]at ht;have h1:e.part.ht=e.ht:=rfl;have h2:i.part.ht=i.ht:=rfl;omega
 rw [St.toks,Wn,Wn,Zd,Wn,Wn,Zd];have hl2:=Qen (Ww i) hh;have hin:Reads (.inner lb rb) d ⟨mkT lb::(Qr i.toks++mkT rb::mkT eqs::(Qr e.toks++(Qr [semi]++rest))),l,h⟩ (.ok ([Vl i.part l],Ct i.part (mkT eqs::(Qr e.toks++(Qr [semi]++rest))) l h)):=
  Reads.Qcu (a:=lb) (b:=rb) (s:=⟨mkT lb::(Qr i.toks++mkT rb::mkT eqs::(Qr e.toks++(Qr [semi]++rest))),l,h⟩) rfl (by omega) (Qcb hi hh (by omega) ht0.1 Q7a rfl rfl) rfl;refine Qs.named (Qv6 hk) ?_;refine Ev.name hk ?_;refine Ev.Gi (Qix rfl) ?_;refine Ev.Pb rfl ?_;refine Ev.go hin.ev ?_;refine Ev.need (b:=eqs) rfl ?_;refine Ue (e:=e) (b:=semi) (rest:=rest) (l:=l++i.part.out l.length) (h:=h++i.part.hts) he hl2 (by omega) ht0.2 (.inl rfl) ?_;refine Ev.need (b:=semi) rfl ?_;exact I9 (.cons (Ww i) (.cons (Ww e) .nil)) hh ht (Qup _ _ (Ww i) _) (Qlr _ _ (Ww i) _ _ _)
theorem Q3i (a:St) (K:Int) (b:List UInt8) (hb:(b=Ju/\K=18/\a= .brk)\/(b=Jy/\K=19/\a= .cont)):Ic a:=by
 intro d l h rest hh hn ht _;rcases hb with ⟨rfl,rfl,rfl⟩ |⟨rfl,rfl,rfl⟩
 ·rw [St.part]at ht ⊢;rw [St.toks,Wn,Wn];refine Qs.Qrv rfl ?_;refine Ev.need (b:=semi) rfl ?_;exact I9 .nil hh ht rfl (Qkz _ _ _).symm
 ·rw [St.part]at ht ⊢;rw [St.toks,Wn,Wn];refine Qs.cont rfl ?_;refine Ev.need (b:=semi) rfl ?_;exact I9 .nil hh ht rfl (Qkz _ _ _).symm
theorem Wbo {e:Ex} (he:Zm e):Ic (.ret e):=by
 intro d l h rest hh hn ht _;rw [St.need]at hn;rw [St.part]at ht ⊢;have ht0:e.ht<=200:=by rw [Ot,Qfz]at ht;have:e.part.ht=e.ht:=rfl;omega
 rw [St.toks,Wn,Zd];refine Qs.ret rfl ?_;refine Ue (e:=e) (b:=semi) (rest:=rest) (l:=l) (h:=h) he hh hn ht0 (.inl rfl) ?_;refine Ev.need (b:=semi) rfl ?_;exact I9 (.cons (Ww e) .nil) hh ht (Qg6 _ _) (Qf2 _ _ _ _)
theorem Wcf {e:Ex} (he:Zm e):Ic (.print e):=by
 intro d l h rest hh hn ht _;rw [St.need]at hn;rw [St.part]at ht ⊢;have ht0:e.ht<=200:=by rw [Ot,Qfz]at ht;have:e.part.ht=e.ht:=rfl;omega
 rw [St.toks,Wn,Zd];refine Qs.print rfl ?_;refine Ue (e:=e) (b:=semi) (rest:=rest) (l:=l) (h:=h) he hh hn ht0 (.inl rfl) ?_;refine Ev.need (b:=semi) rfl ?_;exact I9 (.cons (Ww e) .nil) hh ht (Qg6 _ _) (Qf2 _ _ _ _)
theorem Qin (c:List St) (r:List Tk) (q:List (List UInt8)):mkT lc::(Qr (K7 c++rc::q)++r)=Qr (Fp c)++(Qr q++r):=by unfold Fp;rw [Wn,Zd,Zd];rfl
theorem Wqg {e:Ex} {b:List St} (he:Zm e) (hb:Qcn b):Ic (.Kl e b):=by
 intro d l h rest hh hn ht _;rw [St.need]at hn;rw [St.part,show node 23 0 [] (Zl b)=X6 b from rfl]at ht ⊢;have ht0:e.ht<=200/\(X6 b).ht<=200:=by rw [Ot,Qps]at ht;have h1:e.part.ht=e.ht:=rfl;omega
 rw [St.toks,Wn,Zd,Wn,Qin];have hl2:=Qen (Ww e) hh;refine Qs.Kl rfl ?_;refine Ue (e:=e) (b:=lc) (rest:=Qr (K7 b++[rc])++(Qr []++rest)) (l:=l) (h:=h) he hh (by omega) ht0.1 (.inr (.inr rfl)) ?_;refine Qfu (c:=b) (rest:=rest) (l:=l++e.part.out l.length) (h:=h++e.part.hts) hb hl2 (by omega) ht0.2 ?_;exact I9 (.cons (Ww e) (.cons (J8 b) .nil)) hh ht (Qup _ _ (Ww e) _) (Qlr _ _ (Ww e) _ _ _)
theorem Wl1 {s:List UInt8} {a b:Ex} {c:List St} (hk:(mkT s).kind=1) (ha:Zm a) (hb:Zm b) (hc:Qcn c):Ic (.for_ s a b c):=by
 intro d l h rest hh hn ht _;rw [St.need]at hn;rw [St.part,show node 23 0 [] (Zl c)=X6 c from rfl]at ht ⊢;have ht0:a.ht<=200/\b.ht<=200/\(X6 c).ht<=200:=by rw [Ot,Q5l]at ht;have h1:a.part.ht=a.ht:=rfl;have h2:b.part.ht=b.ht:=rfl;omega
 rw [St.toks,Wn,Wn,Wn,Zd,Wn,Zd,Wn,Qin];have hl2:=Qen (Ww a) hh;have hl3:=Qen (Ww b) hl2;refine Qs.for_ rfl ?_;refine Ev.name hk ?_;refine Ev.need (b:=eqs) rfl ?_;refine Ue (e:=a) (b:=comma) (rest:=Qr b.toks++(Qr (Fp c)++(Qr []++rest))) (l:=l) (h:=h) ha hh (by omega) ht0.1 (.inr (.inl rfl)) ?_;refine Ev.need (b:=comma) rfl ?_;refine Ue (e:=b) (b:=lc) (rest:=Qr (K7 c++[rc])++(Qr []++rest)) (l:=l++a.part.out l.length) (h:=h++a.part.hts) hb hl2 (by omega) ht0.2.1 (.inr (.inr rfl)) ?_;refine Qfu (c:=c) (rest:=rest) (l:=(l++a.part.out l.length)++b.part.out (l++a.part.out l.length).length) (h:=(h++a.part.hts)++b.part.hts) hc hl3 (by omega) ht0.2.2 ?_;exact I9 (.cons (Ww a) (.cons (Ww b) (.cons (J8 c) .nil))) hh ht (Qx0 _ _ _ (Ww a) (Ww b) _) (Qzc _ _ _ (Ww a) (Ww b) _ _ _)
theorem Wj6 {e:Ex} {b:List St} (he:Zm e) (hb:Qcn b):Ic (.if_ e b):=by
 intro d l h rest hh hn ht hel;rw [St.need]at hn;rw [St.part,show node 23 0 [] (Zl b)=X6 b from rfl]at ht ⊢;have ht0:e.ht<=200/\(X6 b).ht<=200:=by rw [Ot,Qps]at ht;have h1:e.part.ht=e.ht:=rfl;omega
 rw [St.toks,Wn,Zd,Wn,Qin];have hl2:=Qen (Ww e) hh;refine Qs.if_ rfl ?_;refine Ue (e:=e) (b:=lc) (rest:=Qr (K7 b++[rc])++(Qr []++rest)) (l:=l) (h:=h) he hh (by omega) ht0.1 (.inr (.inr rfl)) ?_;refine Qfu (c:=b) (rest:=rest) (l:=l++e.part.out l.length) (h:=h++e.part.hts) hb hl2 (by omega) ht0.2 ?_;refine Ev.Gi (by show¬(sees (⟨rest,l,h⟩:PS).tok X7=true);rw [hel];decide) ?_;exact I9 (.cons (Ww e) (.cons (J8 b) .nil)) hh ht (Qup _ _ (Ww e) _) (Qlr _ _ (Ww e) _ _ _)
theorem Wqi {e:Ex} {b c:List St} (he:Zm e) (hb:Qcn b) (hc:Qcn c):Ic (.Cz e b c):=by
 intro d l h rest hh hn ht hel;rw [St.need]at hn;rw [St.part,show node 23 0 [] (Zl b)=X6 b from rfl,show node 23 0 [] (Zl c)=X6 c from rfl]at ht ⊢;have ht0:e.ht<=200/\(X6 b).ht<=200/\(X6 c).ht<=200:=by rw [Ot,Q5l]at ht;have h1:e.part.ht=e.ht:=rfl;omega
 rw [St.toks,Wn,Zd,Wn,Qin,Wn,Wn,Qin];have hl2:=Qen (Ww e) hh;have hl3:=Qen (J8 b) hl2;refine Qs.if_ rfl ?_;refine Ue (e:=e) (b:=lc) (rest:=Qr (K7 b++[rc])++(mkT X7::(Qr (Fp c)++(Qr []++rest)))) (l:=l) (h:=h) he hh (by omega) ht0.1 (.inr (.inr rfl)) ?_;refine Qfu (c:=b) (rest:=mkT X7::(Qr (Fp c)++(Qr []++rest))) (l:=l++e.part.out l.length) (h:=h++e.part.hts) hb hl2 (by omega) ht0.2.1 ?_;refine Ev.Pb rfl ?_;refine Qfu (c:=c) (rest:=rest) (l:=(l++e.part.out l.length)++(X6 b).out (l++e.part.out l.length).length) (h:=(h++e.part.hts)++(X6 b).hts) hc hl3 (by omega) ht0.2.2 ?_;exact I9 (.cons (Ww e) (.cons (J8 b) (.cons (J8 c) .nil))) hh ht (Qx0 _ _ _ (Ww e) (J8 b) _) (Qzc _ _ _ (Ww e) (J8 b) _ _ _)
theorem Whq {s:List UInt8} {xs:List Ex} (hk:(mkT s).kind=1) (h8:xs.length<=8) (hx: ∀x∈xs,Zm x):Ic (.do_ s xs):=by
 intro d l h rest hh hn ht _;rw [St.need]at hn;rw [St.part]at ht ⊢;have ht0:(Ex.call s xs).ht<=200:=by rw [Ot,Qfz]at ht;have:(Ex.call s xs).part.ht=(Ex.call s xs).ht:=rfl;omega
 have hn0:d+(needs xs+1)<=200:=by simp only [Ex.need]at hn;exact hn
 have ht1:Bh xs+1<=200:=by simp only [Ex.ht]at ht0;exact ht0
 have htk:(Ex.call s xs).toks=s::lp::(Vo true xs++[rp]):=by simp only [Ex.toks];rfl
 rw [St.toks,htk];rw [show s::lp::(Vo true xs++[rp])++[semi]=s::lp::(Vo true xs++(rp::[semi])) by simp,Wn,Wn,Zd,Wn];have hcall:Reads (.call ⟨s.toArray⟩ 0) d ⟨mkT lp::(Qr (Vo true xs)++mkT rp::(Qr [semi]++rest)),l,h⟩ (.ok ([Vl (Ex.call s xs).part l],Ct (Ex.call s xs).part (Qr [semi]++rest) l h)):=Qw4 hk h8 hx hh hn0 ht1 _;refine Qs.named (Qv6 hk) ?_;refine Ev.name hk ?_;refine Ev.Pb rfl ?_;refine Ev.go hcall.ev ?_;refine Ev.need (b:=semi) rfl ?_;exact I9 (.cons (Ww _) .nil) hh ht (Qg6 _ _) (Qf2 _ _ _ _)
theorem Qnk: ∀(ps qs:List Part),Vb (ps++qs)=max (Vb ps) (Vb qs)
 | [],qs=>by show Vb qs=max 0 (Vb qs);omega
 |p::ps,qs=>by show max p.ht (Vb (ps++qs))=max (max p.ht (Vb ps)) (Vb qs);rw [Qnk ps qs];omega
theorem Qne: ∀(ps:List Part) (p:Part) (n:Nat),Xy (ps++[p]) n=Xy ps n++p.out (n+Zg ps)/\Xn (ps++[p]) n=Xn ps n++[((n+Zg ps+p.size-1:Nat):Int)]/\Vq (ps++[p])=Vq ps++p.hts
 | [],p,n=>⟨by show p.out n++[]=[]++p.out (n+0);simp,rfl,by show p.hts++[]=[]++p.hts;simp⟩
 |q::ps,p,n=>by
  obtain ⟨i1,i2,i3⟩:=Qne ps p (n+q.size);refine ⟨?_,?_,?_⟩
  ·show q.out n++Xy (ps++[p]) (n+q.size)=(q.out n++Xy ps (n+q.size))++p.out (n+(q.size+Zg ps));rw [i1,Qy,La]
  ·show _::Xn (ps++[p]) (n+q.size)=(_::Xn ps (n+q.size))++[((n+(q.size+Zg ps)+p.size-1:Nat):Int)];rw [i2,V6,show n+q.size+Zg ps+p.size-1=n+(q.size+Zg ps)+p.size-1 by omega]
  ·show q.hts++Vq (ps++[p])=(q.hts++Vq ps)++p.hts;rw [i3,Qy]
def Qjw (a:St):Prop:= ∀(rest:List Tk) (l:List Nd) (h:List Nat),(⟨Qr a.toks++rest,l,h⟩:PS).is rc=false/\(⟨Qr a.toks++rest,l,h⟩:PS).is X7=false
theorem Wgk: ∀a:St,a.ok->Qjw a:=by
 intro a ha rest l h;cases a with
 |let_ s e=>rw [St.toks,Wn];exact ⟨rfl,rfl⟩
 |set s e=>rw [St.ok]at ha;rw [St.toks,Wn];exact ⟨Et (.inl ha.1),Et (.inl ha.1)⟩
 |put s i e=>rw [St.ok]at ha;rw [St.toks,Wn];exact ⟨Et (.inl ha.1),Et (.inl ha.1)⟩
 |if_ e b=>rw [St.toks,Wn];exact ⟨rfl,rfl⟩
 |Cz e b c=>rw [St.toks,Wn];exact ⟨rfl,rfl⟩
 |Kl e b=>rw [St.toks,Wn];exact ⟨rfl,rfl⟩
 |for_ s a b c=>rw [St.toks,Wn];exact ⟨rfl,rfl⟩
 |brk=>rw [St.toks,Wn];exact ⟨rfl,rfl⟩
 |cont=>rw [St.toks,Wn];exact ⟨rfl,rfl⟩
 |ret e=>rw [St.toks,Wn];exact ⟨rfl,rfl⟩
 |print e=>rw [St.toks,Wn];exact ⟨rfl,rfl⟩
 |do_ s xs=>
  rw [St.ok]at ha;simp only [Ex.ok]at ha;have htk:(St.do_ s xs).toks=s::(lp::(Vo true xs++[rp])++[semi]):=by rw [St.toks];simp only [Ex.toks];rfl
  rw [htk,Wn];exact ⟨Et (.inl ha.1),Et (.inl ha.1)⟩
theorem Q39: ∀(b:List St),(∀a∈b,Ic a/\Qjw a)-> ∀(d:Nat) (l:List Nd) (h:List Nat) (rest:List Tk) (acc:List Int) (l0:List Nd) (h0:List Nat) (ps:List Part),X8 ps->h0.length=l0.length->l=l0++Xy ps l0.length->h=h0++Vq ps->acc=Xn ps l0.length->d+Ce b<=200->(node 23 0 [] (ps++Zl b)).ht<=200->
  Qs (.stmts acc 0) d ⟨Qr (K7 b++[rc])++rest,l,h⟩ (.ok ([Vl (node 23 0 [] (ps++Zl b)) l0],Ct (node 23 0 [] (ps++Zl b)) rest l0 h0))
 | [],hA,d,l,h,rest,acc,l0,h0,ps,hf,hh,hl,Vz,hac,hn,ht=>by
  rw [Zl,Xe]at ht ⊢;rw [K7,Xk,Wn];have h1:=Qs.Qhe (acc:=acc) (at_:=0) (d:=d) (s:=⟨mkT rc::(Qr []++rest),l,h⟩) rfl;have h2:lay (En 23 acc 0 ⟨#[]⟩ ((0:Nat):Int)) (⟨mkT rc::(Qr []++rest),l,h⟩:PS).next= .ok ([Vl (node 23 0 [] ps) l0],Ct (node 23 0 [] ps) rest l0 h0):=by rw [hac,hl,Vz];exact Quw hf hh ht
  rw [h2]at h1;exact h1
 |a::b,hA,d,l,h,rest,acc,l0,h0,ps,hf,hh,hl,Vz,hac,hn,ht=>by
  have hn2:Ce (a::b)=max a.need (Ce b):=by rw [Ce]
  have hp2:Zl (a::b)=a.part::Zl b:=by rw [Zl]
  have hfa:=Qtq a;have hmx:=Qnk;have Wp:a.part.ht<=200:=by rw [Ot,hmx,hp2]at ht;have:Vb (a.part::Zl b)=max a.part.ht (Vb (Zl b)):=rfl;omega
  rw [hp2]at ht ⊢;rw [show ps++a.part::Zl b=(ps++[a.part])++Zl b by simp]at ht ⊢;rw [show K7 (a::b)=a.toks++K7 b by rw [K7],Qy,Zd];have hlen:h.length=l.length:=by rw [hl,Vz,Qf,Qf,Uh ps _ hf,Qlp ps hf,hh]
  have hnb: ∀(b:List St) (r:List Tk) (l:List Nd) (h:List Nat),(∀a∈b,Ic a/\Qjw a)->sees (⟨Qr (K7 b++[rc])++r,l,h⟩:PS).tok X7=false:=by
   intro b r l h hb;cases b with
   |nil=>rw [K7];rfl
   |cons x xs=>
    rw [K7,Qy,Zd];exact ((hb x (by simp)).2 _ l h).2
  have h1:=(hA a (by simp)).1 d l h (Qr (K7 b++[rc])++rest) hlen (by omega) Wp (hnb b rest l h (λx hx=>hA x (Iy _ hx)));have hb:(⟨Qr a.toks++(Qr (K7 b++[rc])++rest),l,h⟩:PS).is rc=false:=((hA a (by simp)).2 _ l h).1;obtain ⟨a1,a2,a3⟩:=Qne ps a.part l0.length;have hll:l.length=l0.length+Zg ps:=by rw [hl,Qf,Uh ps _ hf]
  have Wlw:X8 (ps++[a.part]):=λq hq=>by
   rcases List.mem_append.1 hq with hq |hq
   ·exact hf q hq
   ·rw [List.mem_singleton.1 hq];exact hfa
  have h2:=Q39 b (λx hx=>hA x (Iy _ hx)) d (l++a.part.out l.length) (h++a.part.hts) rest (acc++[Vl a.part l]) l0 h0 (ps++[a.part]) Wlw hh (by rw [a1,<-Qy,<-hl,hll]) (by rw [a3,<-Qy,<-Vz]) (by rw [a2,<-hac];unfold Vl;rw [hll]) (by omega) ht;exact Qs.Qlm hb h1 h2
theorem Qgq {b:List St} (hA: ∀a∈b,Ic a/\Qjw a):Qcn b:=by intro d l h rest hh hn ht;have h1:=Q39 b hA (d+1) l h rest [] l h [] .nil hh (by show l=l++[];simp) (by show h=h++[];simp) rfl (by omega) ht;unfold Fp;rw [Wn];refine Qs.block ?_;refine Ev.need (b:=lc) rfl ?_;exact Ev.Gi (by omega) h1.ev
mutual
theorem Wnl: ∀a:St,a.ok->Ic a
 | .let_ s e,h=>by rw [St.ok]at h;exact Wbx h.1 (Dw e h.2)
 | .set s e,h=>by rw [St.ok]at h;exact Wlc h.1 (Dw e h.2)
 | .put s i e,h=>by rw [St.ok]at h;exact Whe h.1 (Dw i h.2.1) (Dw e h.2.2)
 | .if_ e b,h=>by rw [St.ok]at h;exact Wj6 (Dw e h.1) (Qgq (Qeg b h.2))
 | .Cz e b c,h=>by rw [St.ok]at h;exact Wqi (Dw e h.1) (Qgq (Qeg b h.2.1)) (Qgq (Qeg c h.2.2))
 | .Kl e b,h=>by rw [St.ok]at h;exact Wqg (Dw e h.1) (Qgq (Qeg b h.2))
 | .for_ s a b c,h=>by rw [St.ok]at h;exact Wl1 h.1 (Dw a h.2.1) (Dw b h.2.2.1) (Qgq (Qeg c h.2.2.2))
 | .brk,_=>Q3i _ 18 Ju (.inl ⟨rfl,rfl,rfl⟩)
 | .cont,_=>Q3i _ 19 Jy (.inr ⟨rfl,rfl,rfl⟩)
 | .ret e,h=>by rw [St.ok]at h;exact Wbo (Dw e h)
 | .print e,h=>by rw [St.ok]at h;exact Wcf (Dw e h)
 | .do_ s xs,h=>by rw [St.ok]at h;simp only [Ex.ok]at h;exact Whq h.1 h.2.1 (Qpq xs h.2.2)
theorem Qeg: ∀b:List St,Oe b-> ∀a∈b,Ic a/\Qjw a
 | [],_=>λa ha=>absurd ha (Ef)
 |x::xs,h=>by
  rw [Oe]at h;intro a ha;rcases List.mem_cons.1 ha with ha |ha
  ·rw [ha];exact ⟨Wnl x h.1,Wgk x h.1⟩
  ·exact Qeg xs h.2 a ha
end
end
section
structure Wm where
 name:List UInt8
 ps:List (List UInt8×Nat)
 k:Nat
 body:List St
def Xh (k:Nat):List UInt8:=Qhb.getD k []
def Zb (p:List UInt8×Nat):Part:=node 24 (p.2:Int) p.1 []
def Im:Bool->List (List UInt8×Nat)->List (List UInt8)
 |_,[]=>[]
 |f,p::ps=>(if f then []else [comma])++[p.1,Xh p.2]++Im false ps
def Wm.toks (f:Wm):List (List UInt8):=Ki::f.name::lp::(Im true f.ps++rp::Xh f.k::Fp f.body)
def Wm.parts (f:Wm):List Part:=f.ps.map Zb++[X6 f.body]
def Wm.part (f:Wm):Part:=node 25 (f.k:Int) f.name f.parts
def Qyw (p:List UInt8×Nat):Prop:=(mkT p.1).kind=1/\1<=p.2/\p.2<=3
def Wm.ok (f:Wm):Prop:=(mkT f.name).kind=1/\(∀p∈f.ps,Qyw p)/\f.ps.length<=8/\1<=f.k/\f.k<=3/\Oe f.body
def Wm.need (f:Wm):Nat:=Ce f.body+1
def Uk:List Wm->List (List UInt8)
 | []=>[]
 |f::fs=>f.toks++Uk fs
def Ko (fs:List Wm):Part:=node 26 0 [] (fs.map Wm.part)
def Gq:List Wm->Nat
 | []=>0
 |f::fs=>max f.need (Gq fs)
structure Qyk (fs:List Wm):Prop where
 fns: ∀f∈fs,f.ok
 few:fs.length<=200
variable {d:Nat}{v:Out}{rest:List Tk}{l:List Nd}{h:List Nat}
theorem Qru (p:List UInt8×Nat):(Zb p).Ba:=Da .nil
theorem Qij (ps:List (List UInt8×Nat)):X8 (ps.map Zb):=λq hq=>by obtain ⟨p,_,rfl⟩:=List.mem_map.1 hq;exact Qru p
theorem X8.app {ps qs:List Part} (h:X8 ps) (g:X8 qs):X8 (ps++qs):=λq hq=>by
 rcases List.mem_append.1 hq with hq |hq
 ·exact h q hq
 ·exact g q hq
theorem Qqe (f:Wm):X8 f.parts:=(Qij f.ps).app (.cons (J8 f.body) .nil)
theorem Qum (f:Wm):f.part.Ba:=Da (Qqe f)
theorem Qo5 (fs:List Wm):X8 (fs.map Wm.part):=λq hq=>by obtain ⟨p,_,rfl⟩:=List.mem_map.1 hq;exact Qum p
theorem Qfh {k:Nat} (h1:1<=k) (h3:k<=3):Yt (mkT (Xh k))=k:=by
 match k,h1,h3 with
 | 1,_,_ | 2,_,_ | 3,_,_=>rfl
theorem Wkn {ps:List Part} (hf:X8 ps) {l0:List Nd} {l:List Nd} (hl:l=l0++Xy ps l0.length):l.length=l0.length+Zg ps:=by rw [hl,Qf,Uh ps _ hf]
theorem Qmk {ps:List Part} (hf:X8 ps) {l0 l:List Nd} {h0 h:List Nat} (hh:h0.length=l0.length) (hl:l=l0++Xy ps l0.length) (Vz:h=h0++Vq ps):h.length=l.length:=by rw [hl,Vz,Qf,Qf,Uh ps _ hf,Qlp ps hf,hh]
theorem Qa0 {ps:List Part} (hf:X8 ps) (p:Part) {l0 l:List Nd} {h0 h:List Nat} {acc:List Int} (hl:l=l0++Xy ps l0.length) (Vz:h=h0++Vq ps) (hac:acc=Xn ps l0.length):
  l++p.out l.length=l0++Xy (ps++[p]) l0.length/\h++p.hts=h0++Vq (ps++[p])/\acc++[Vl p l]=Xn (ps++[p]) l0.length:=by
 obtain ⟨a1,a2,a3⟩:=Qne ps p l0.length;have hll:=Wkn hf hl;refine ⟨by rw [a1,<-Qy,<-hl,hll],by rw [a3,<-Qy,<-Vz],by rw [a2,<-hac];unfold Vl;rw [hll]⟩
theorem Q4d: ∀(ps:List (List UInt8×Nat)) (p:List UInt8×Nat),(∀q∈p::ps,Qyw q)-> ∀(d:Nat) (l:List Nd) (h:List Nat) (rest:List Tk) (acc:List Int) (l0:List Nd) (h0:List Nat) (qs:List Part),X8 qs->h0.length=l0.length->l=l0++Xy qs l0.length->h=h0++Vq qs->acc=Xn qs l0.length->acc.length+(p::ps).length<=8->
  Qs (.params acc) d ⟨Qr (Im true (p::ps))++(mkT rp::rest),l,h⟩ (.ok (Xn (qs++(p::ps).map Zb) l0.length,Db (qs++(p::ps).map Zb) rest l0 h0))
 | [],p,hp,d,l,h,rest,acc,l0,h0,qs,hf,hh,hl,Vz,hac,h8=>by obtain ⟨hk,hk1,hk3⟩:=hp p (by simp);have hlen:=Qmk hf hh hl Vz;obtain ⟨e1,e2,e3⟩:=Qa0 hf (Zb p) hl Vz hac;have Y2:Ev (λ_=>some (lay (En 24 [] (p.2:Int) ⟨p.1.toArray⟩ ((0:Nat):Int)) ⟨mkT rp::rest,l,h⟩)) (.ok ([Vl (Zb p) l],Ct (Zb p) (mkT rp::rest) l h)):=I9 .nil hlen (by show 0+1<=200;omega) rfl (Qkz _ _ _).symm;rw [show Im true [p]=[p.1,Xh p.2]from rfl,Wn,Wn];refine Qs.params ?_;refine Ev.name hk ?_;refine Ev.Gi (by simp at h8;omega) ?_;refine Ev.kind (by show Yt (mkT (Xh p.2))≠0;rw [Qfh hk1 hk3];omega) ?_;rw [show Yt (⟨mkT p.1::mkT (Xh p.2)::(Qr []++(mkT rp::rest)),l,h⟩:PS).next.tok=p.2 from Qfh hk1 hk3];refine Ev.go Y2 ?_;refine Ev.Gi (Qix rfl) ?_;refine Ev.need (b:=rp) rfl ?_;refine Ev.const.congr λn=> ?_;rw [show (List.map Zb [p])=[Zb p]from rfl,<-e3];unfold Db;rw [<-e1,<-e2];rfl
 |q::ps,p,hp,d,l,h,rest,acc,l0,h0,qs,hf,hh,hl,Vz,hac,h8=>by obtain ⟨hk,hk1,hk3⟩:=hp p (by simp);have hlen:=Qmk hf hh hl Vz;obtain ⟨e1,e2,e3⟩:=Qa0 hf (Zb p) hl Vz hac;have hR:=Q4d ps q (λx hx=>hp x (Iy _ hx)) d (l++(Zb p).out l.length) (h++(Zb p).hts) rest (acc++[Vl (Zb p) l]) l0 h0 (qs++[Zb p]) (hf.app (.cons (Qru p) .nil)) hh e1 e2 e3 (by rw [Qf];simp at h8 ⊢;omega);have Y2:Ev (λ_=>some (lay (En 24 [] (p.2:Int) ⟨p.1.toArray⟩ ((0:Nat):Int)) ⟨mkT comma::(Qr (Im true (q::ps))++(mkT rp::rest)),l,h⟩)) (.ok ([Vl (Zb p) l],Ct (Zb p) (mkT comma::(Qr (Im true (q::ps))++(mkT rp::rest))) l h)):=I9 .nil hlen (by show 0+1<=200;omega) rfl (Qkz _ _ _).symm;rw [show Im true (p::q::ps)=p.1::Xh p.2::comma::Im true (q::ps)from rfl,Wn,Wn,Wn];refine Qs.params ?_;refine Ev.name hk ?_;refine Ev.Gi (by simp at h8;omega) ?_;refine Ev.kind (by show Yt (mkT (Xh p.2))≠0;rw [Qfh hk1 hk3];omega) ?_;rw [show Yt (⟨mkT p.1::mkT (Xh p.2)::mkT comma::(Qr (Im true (q::ps))++(mkT rp::rest)),l,h⟩:PS).next.tok=p.2 from Qfh hk1 hk3];refine Ev.go Y2 ?_;refine Ev.Pb rfl ?_;rw [show qs++List.map Zb (p::q::ps)=(qs++[Zb p])++List.map Zb (q::ps) by simp];exact hR.ev
theorem Wn3 {f:Wm} (hf:f.ok) {d:Nat} {l:List Nd} {h:List Nat} {rest:List Tk} (hh:h.length=l.length) (hn:d+f.need<=200) (ht:f.part.ht<=200):
  Qs .func d ⟨Qr (f.name::lp::(Im true f.ps++rp::Xh f.k::Fp f.body))++rest,l,h⟩ (.ok ([Vl f.part l],Ct f.part rest l h)):=by
 obtain ⟨hk,hps,h8,hk1,hk3,hb⟩:=hf;have hbl:Qcn f.body:=Qgq (Qeg f.body hb);have htb:(X6 f.body).ht<=200:=by have h1:f.part.ht=Vb f.parts+1:=rfl;have h2:Vb f.parts=max (Vb (f.ps.map Zb)) (Vb [X6 f.body]):=Qnk _ _;rw [Qfz]at h2;omega
 have hnb:d+(Ce f.body+1)<=200:=hn;have hpf:=Qij f.ps;rw [Wn,Wn,Zd,Wn,Wn];have hl2:(h++Vq (f.ps.map Zb)).length=(l++Xy (f.ps.map Zb) l.length).length:=Qmk hpf hh rfl rfl;have hend: ∀(acc:List Int) (st:PS),acc=Xn (f.ps.map Zb) l.length->st=Db (f.ps.map Zb) (mkT (Xh f.k)::(Qr (Fp f.body)++rest)) l h->
   Ev (λn=>V3 st λk s4=>Out.go (Qac n .block d s4) λb s5=>some (lay (En 25 (acc++[hd1 b]) k ⟨f.name.toArray⟩ ((0:Nat):Int)) s5)) (.ok ([Vl f.part l],Ct f.part rest l h)):=by
  intro acc st hac hst;rw [hst];refine Ev.kind (s:=Db (f.ps.map Zb) (mkT (Xh f.k)::(Qr (Fp f.body)++rest)) l h) (by show Yt (mkT (Xh f.k))≠0;rw [Qfh hk1 hk3];omega) ?_;rw [show Yt (Db (f.ps.map Zb) (mkT (Xh f.k)::(Qr (Fp f.body)++rest)) l h).tok=f.k from Qfh hk1 hk3];refine Qfu (c:=f.body) (rest:=rest) (l:=l++Xy (f.ps.map Zb) l.length) (h:=h++Vq (f.ps.map Zb)) hbl hl2 hnb htb ?_;obtain ⟨e1,e2,e3⟩:=Qa0 hpf (X6 f.body) (l0:=l) (l:=l++Xy (f.ps.map Zb) l.length) (h0:=h) (h:=h++Vq (f.ps.map Zb)) rfl rfl hac;refine I9 (Qqe f) hh ht e3 ?_;unfold Db Ct;rw [e1,e2];rfl
 refine Qs.func ?_;refine Ev.name hk ?_;refine Ev.need (b:=lp) rfl ?_;cases hq:f.ps with
 |nil=>
  rw [hq]at hend;refine Ev.go (s1:=⟨mkT (Xh f.k)::(Qr (Fp f.body)++rest),l,h⟩) (p:=[]) (Ev.Pb rfl Ev.const) ?_;exact hend [] _ rfl (Qkz _ _ _).symm
 |cons p ps=>
  rw [hq]at hend hps h8;have hR:=Q4d ps p hps d l h (mkT (Xh f.k)::(Qr (Fp f.body)++rest)) [] l h [] .nil hh (by show l=l++[];simp) (by show h=h++[];simp) rfl (by simpa using h8);rw [Xk]at hR;refine Ev.go (Ev.Gi (Qix (Et (.inl (hps p (by simp)).1))) hR.ev) ?_;exact hend _ _ rfl rfl
theorem Q7s: ∀(fs:List Wm),(∀f∈fs,f.ok)-> ∀(l:List Nd) (h:List Nat) (e:Tk) (acc:List Int) (l0:List Nd) (h0:List Nat) (qs:List Part),e.kind=0->X8 qs->h0.length=l0.length->l=l0++Xy qs l0.length->h=h0++Vq qs->acc=Xn qs l0.length->acc.length+fs.length<=200->Gq fs<=200->(node 26 0 [] (qs++fs.map Wm.part)).ht<=200->
  Qs (.prog acc) 0 ⟨Qr (Uk fs)++[e],l,h⟩ (.ok ([Vl (node 26 0 [] (qs++fs.map Wm.part)) l0],Ct (node 26 0 [] (qs++fs.map Wm.part)) [e] l0 h0))
 | [],hA,l,h,e,acc,l0,h0,qs,he,hf,hh,hl,Vz,hac,Qco,hn,ht=>by
  rw [Vi,Xe]at ht ⊢;have h1:=Qs.Qiy (acc:=acc) (d:=0) (s:=⟨[e],l,h⟩) he;have h2:lay (En 26 acc 0 ⟨#[]⟩ 0) ⟨[e],l,h⟩= .ok ([Vl (node 26 0 [] qs) l0],Ct (node 26 0 [] qs) [e] l0 h0):=by rw [hac,hl,Vz];exact Quw hf hh ht
  rw [h2]at h1;exact h1
 |f::fs,hA,l,h,e,acc,l0,h0,qs,he,hf,hh,hl,Vz,hac,Qco,hn,ht=>by
  have hlen:=Qmk hf hh hl Vz;have hn2:Gq (f::fs)=max f.need (Gq fs):=rfl;have htf:f.part.ht<=200:=by rw [Ot,Qnk]at ht;have:Vb ((f::fs).map Wm.part)=max f.part.ht (Vb (fs.map Wm.part)):=rfl;omega
  obtain ⟨e1,e2,e3⟩:=Qa0 hf f.part hl Vz hac;rw [show qs++List.map Wm.part (f::fs)=(qs++[f.part])++List.map Wm.part fs by simp]at ht ⊢;have h1:=Wn3 (hA f (by simp)) (d:=0) (rest:=Qr (Uk fs)++[e]) hlen (by omega) htf;have h2:=Q7s fs (λx hx=>hA x (Iy _ hx)) (l++f.part.out l.length) (h++f.part.hts) e (acc++[Vl f.part l]) l0 h0 (qs++[f.part]) he (hf.app (.cons (Qum f) .nil)) hh e1 e2 e3 (by rw [Qf];simp at Qco ⊢;omega) (by omega) ht;rw [show Uk (f::fs)=f.toks++Uk fs from rfl,Zd,show f.toks=Ki::(f.name::lp::(Im true f.ps++rp::Xh f.k::Fp f.body))from rfl,Wn];exact Qs.Q2y (s:=⟨mkT Ki::(Qr (f.name::lp::(Im true f.ps++rp::Xh f.k::Fp f.body))++(Qr (Uk fs)++[e])),l,h⟩) rfl (by simp at Qco;omega) h1 h2
theorem Wqs {fs:List Wm} (hp:Qyk fs) (hn:Gq fs<=200) (ht:(Ko fs).ht<=200) (e:Tk) (he:e.kind=0):
  Qs (.prog []) 0 ⟨Qr (Uk fs)++[e],[],[]⟩ (.ok ([Vl (Ko fs) []],⟨[e],(Ko fs).out 0,(Ko fs).hts⟩)):=by
 have h1:=Q7s fs hp.fns [] [] e [] [] [] [] he .nil rfl rfl rfl rfl (by simpa using hp.few) hn ht;exact h1
end
end Go.Proofs.YtdncpkkhkbijfaaGreatDoor
