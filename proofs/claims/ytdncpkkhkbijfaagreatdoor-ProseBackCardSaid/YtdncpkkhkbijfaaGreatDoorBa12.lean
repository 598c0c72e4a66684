import Derived.Test.YtdncpkkhkbijfaaGreatDoorBa11
open Go.Proofs.Tryz
set_option linter.all false
set_option maxHeartbeats 0
set_option maxRecDepth 100000
namespace Go.Proofs.YtdncpkkhkbijfaaGreatDoor
section
structure Vn (s t:PS):Prop where
 r:s.r.map Dv=t.r.map Dv
 h:s.h=t.h
 l:s.l.map Od=t.l.map Od
def VAl:Out->Out->Prop
 | .ok (l,s),.ok (l',t)=>l=l'/\Vn s t
 | .error f,.error g=>f.1=g.1
 |_,_=>False
variable {s t:PS}
theorem Vn.tok (h:Vn s t):Dv s.tok=Dv t.tok:=by
 have hr:=h.r;unfold PS.tok;cases hs:s.r with
 |nil=>
  rw [hs]at hr;cases ht:t.r with
  |nil=>rfl
  |cons b r=>rw [ht]at hr;cases hr
 |cons a q=>
  rw [hs]at hr;cases ht:t.r with
  |nil=>rw [ht]at hr;cases hr
  |cons b r=>
   rw [ht,Y6,Y6]at hr;injection hr with h1 _
theorem Vn.next (h:Vn s t):Vn s.next t.next:=by refine ⟨?_,h.h,h.l⟩;show s.r.tail.map Dv=t.r.tail.map Dv;rw [List.map_tail,List.map_tail,h.r]
theorem Vn.is (h:Vn s t) (b:List UInt8):s.is b=t.is b:=Qj4 h.tok b
theorem Vn.kind (h:Vn s t):s.tok.kind=t.tok.kind:=by have:=congrArg Tk.kind h.tok;exact this
theorem Vn.text (h:Vn s t):s.tok.text=t.tok.text:=by have:=congrArg Tk.text h.tok;exact this
theorem Vn.n (h:Vn s t):s.tok.n=t.tok.n:=by have:=congrArg Tk.n h.tok;exact this
theorem Vn.op (h:Vn s t) (lv:Nat):opAt lv s.tok=opAt lv t.tok:=Q64 (λx _=>Qj4 h.tok x) _ _
theorem Wgr {a b:Tk} (h:Dv a=Dv b):Yt a=Yt b:=by unfold Yt;simp only [Qj4 h]
theorem Wk0 {a b:Tk} (h:Dv a=Dv b):Xc a=Xc b:=by unfold Xc;simp only [Qj4 h]
theorem Q84 {x y:Nd} (h:Vn s t) (hx:Od x=Od y):VAl (lay x s) (lay y t):=by
 have hk:x.kids=y.kids:=by have:=congrArg Nd.kids hx;exact this
 have hlen:s.l.length=t.l.length:=by have:=congrArg List.length h.l;rw [Zr,Zr]at this;exact this
 unfold lay;rw [h.h,hk];split
 ·rfl
 ·refine ⟨by rw [hlen],h.r,rfl,?_⟩;show (s.l++[x]).map Od=(t.l++[y]).map Od;rw [Zp,Zp,h.l];show _++[Od x]=_++[Od y];rw [hx]
def El (o:Option Out) (v:Out):Prop:= ∃v',o=some v'/\VAl v v'
theorem Dl {o o':Option Out} {f f':List Int->PS->Option Out} {v:Out} (h:Out.go o f=some v) (ho: ∀u,o=some u->El o' u) (hf: ∀p s t w,Vn s t->f p s=some w->El (f' p t) w):El (Out.go o' f') v:=by
 rcases go_ok h with ⟨e,h1,rfl⟩ |⟨p,s1,h1,h2⟩
 ·obtain ⟨v',e',hv⟩:=ho _ h1;rw [e'];cases v' with
  |ok y=>exact hv.elim
  |error g=>exact ⟨.error g,rfl,hv⟩
 ·obtain ⟨v',e',hv⟩:=ho _ h1;rw [e'];cases v' with
  |error g=>exact hv.elim
  |ok y=>
   obtain ⟨p',t1⟩:=y;obtain ⟨rfl,hA⟩:=hv;exact hf _ _ _ _ hA h2
theorem Gg {b:List UInt8} {f f':PS->Option Out} {v:Out} (hA:Vn s t) (h:Qm b s f=some v) (hf:Vn s.next t.next->f s.next=some v->El (f' t.next) v):El (Qm b t f') v:=by
 unfold Qm at h ⊢;rw [<-hA.is b];split at h
 ·rename_i g;rw [Qk g];exact hf hA.next h
 ·rename_i g;rw [Qd g];injection h with h;subst h;exact ⟨_,rfl,rfl⟩
theorem Qjo {f f':ByteArray->Nat->PS->Option Out} {v:Out} (hA:Vn s t) (h:Xf s f=some v) (hf: ∀nm a a',Vn s.next t.next->f nm a s.next=some v->El (f' nm a' t.next) v):El (Xf t f') v:=by
 unfold Xf at h ⊢;rw [<-hA.kind];split at h
 ·rename_i g;rw [Qk g,<-hA.text];exact hf _ _ _ hA.next h
 ·rename_i g;rw [Qd g];injection h with h;subst h;exact ⟨_,rfl,rfl⟩
theorem Q57 {f f':Nat->PS->Option Out} {v:Out} (hA:Vn s t) (h:V3 s f=some v) (hf: ∀k,Vn s.next t.next->f k s.next=some v->El (f' k t.next) v):El (V3 t f') v:=by
 unfold V3 at h ⊢;rw [<-Wgr hA.tok];split at h
 ·rename_i g;rw [Qk g];injection h with h;subst h;exact ⟨_,rfl,rfl⟩
 ·rename_i g;rw [Qd g];exact hf _ hA.next h
theorem J3 {x y:Nd} {v:Out} (hA:Vn s t) (h:some (lay x s)=some v) (hx:Od x=Od y):El (some (lay y t)) v:=by
 injection h with h
 subst h;exact ⟨_,rfl,Q84 hA hx⟩
theorem Oi {x a a':Nat} {v:Out} (h:some (Except.error (x,a))=some v):El (some (Except.error (x,a'))) v:=by
 injection h with h
 subst h;exact ⟨_,rfl,rfl⟩
theorem Qcc {l:List Int} {v:Out} (hA:Vn s t) (h:some (Except.ok (l,s))=some v):El (some (Except.ok (l,t))) v:=by
 injection h with h
 subst h;exact ⟨_,rfl,rfl,hA⟩
theorem Cn: ∀(n:Nat) (m m':Md) (d:Nat) (s t:PS) (v:Out),Wpb m m'->Vn s t->Qg n m d s=some v->El (Qg n m' d t) v
 | 0,_,_,_,_,_,_,_,_,h=>by cases h
 |n+1,.chain lv,m',d,s,t,v,hm,hA,h=>by
  obtain rfl:_=m':=by
   rcases hm with h |⟨_,_,_,h,_⟩
   ·exact h
   ·cases h
  rw [Qg]at h ⊢;split at h
  ·rename_i g;rw [Qk g];exact Cn n _ _ _ _ _ _ (.inl rfl) hA h
  ·rename_i g;rw [Qd g];exact Dl h (λu=>Cn n _ _ _ _ _ u (.inl rfl) hA) (λp s t w hA=>Cn n _ _ _ _ _ w (.inl rfl) hA)
 |n+1,.loop lv p,m',d,s,t,v,hm,hA,h=>by
  obtain rfl:_=m':=by
   rcases hm with h |⟨_,_,_,h,_⟩
   ·exact h
   ·cases h
  rw [Qg]at h ⊢;rw [<-hA.op lv];cases ho:opAt lv s.tok with
  |none=>rw [ho]at h;exact Qcc hA h
  |some op=>
   rw [ho]at h;refine Dl h (λu=>Cn n _ _ _ _ _ u (.inl rfl) hA.next) (λq s1 t1 w hA1 h1=>Dl h1 (λu hu=>J3 hA1 hu rfl) (λk s2 t2 w hA2 h2=> ?_));split at h2
   ·rename_i g;rw [Qk g];exact Qcc hA2 h2
   ·rename_i g;rw [Qd g];exact Cn n _ _ _ _ _ _ (.inl rfl) hA2 h2
 |n+1,.front,m',d,s,t,v,hm,hA,h=>by
  obtain rfl:_=m':=by
   rcases hm with h |⟨_,_,_,h,_⟩
   ·exact h
   ·cases h
  rw [Qg]at h ⊢;rw [<-hA.is minus,<-hA.is bang];split at h
  ·rename_i g;rw [Qk g];split at h
   ·rename_i g2;rw [Qk g2];exact Oi h
   ·rename_i g2;rw [Qd g2];exact Dl h (λu=>Cn n _ _ _ _ _ u (.inl rfl) hA.next) (λq s1 t1 w hA1 h1=>J3 hA1 h1 rfl)
  ·rename_i g;rw [Qd g];exact Cn n _ _ _ _ _ _ (.inl rfl) hA h
 |n+1,.idx,m',d,s,t,v,hm,hA,h=>by
  obtain rfl:_=m':=by
   rcases hm with h |⟨_,_,_,h,_⟩
   ·exact h
   ·cases h
  rw [Qg]at h ⊢;exact Dl h (λu=>Cn n _ _ _ _ _ u (.inl rfl) hA) (λp s t w hA=>Cn n _ _ _ _ _ w (.inl rfl) hA)
 |n+1,.more p,m',d,s,t,v,hm,hA,h=>by
  obtain rfl:_=m':=by
   rcases hm with h |⟨_,_,_,h,_⟩
   ·exact h
   ·cases h
  rw [Qg]at h ⊢;rw [<-hA.is lb];split at h
  ·rename_i g;rw [Qk g];exact Dl h (λu=>Cn n _ _ _ _ _ u (.inl rfl) hA) (λq s1 t1 w hA1 h1=>Dl h1 (λu hu=>J3 hA1 hu rfl) (λk s2 t2 w hA2 h2=>Cn n _ _ _ _ _ _ (.inl rfl) hA2 h2))
  ·rename_i g;rw [Qd g];exact Qcc hA h
 |n+1,.inner a b,m',d,s,t,v,hm,hA,h=>by
  obtain rfl:_=m':=by
   rcases hm with h |⟨_,_,_,h,_⟩
   ·exact h
   ·cases h
  rw [Qg]at h ⊢;rw [<-hA.is a];split at h
  ·rename_i g;rw [Qk g];split at h
   ·rename_i g2;rw [Qk g2];exact Oi h
   ·rename_i g2;rw [Qd g2];refine Dl h (λu=>Cn n _ _ _ _ _ u (.inl rfl) hA.next) (λq s1 t1 w hA1 h1=> ?_);rw [<-hA1.is b];split at h1
    ·rename_i g3;rw [Qk g3];exact Qcc hA1.next h1
    ·rename_i g3;rw [Qd g3];exact Oi h1
  ·rename_i g;rw [Qd g];exact Oi h
 |n+1,.call nm at_,m',d,s,t,v,hm,hA,h=>by
  obtain ⟨at',rfl⟩: ∃at',m'= .call nm at':=by
   rcases hm with h |⟨nm2,a1,a2,h1,h2⟩
   ·exact ⟨at_,h.symm⟩
   ·injection h1 with h3 h4
    subst h3;exact ⟨a2,h2⟩
  rw [Qg]at h ⊢;rw [<-hA.is lp];split at h
  ·rename_i g;rw [Qk g];split at h
   ·rename_i g2;rw [Qk g2];exact Oi h
   ·rename_i g2;rw [Qd g2];refine Dl h (λu hu=> ?_) (λq s1 t1 w hA1 h1=> ?_)
    ·rw [<-hA.next.is rp];split at hu
     ·rename_i g3;rw [Qk g3];exact Qcc hA.next hu
     ·rename_i g3;rw [Qd g3];exact Cn n _ _ _ _ _ u (.inl rfl) hA.next hu
    ·rw [<-hA1.is rp];split at h1
     ·rename_i g3;rw [Qk g3];exact J3 hA1.next h1 rfl
     ·rename_i g3;rw [Qd g3];exact Oi h1
  ·rename_i g;rw [Qd g];exact Oi h
 |n+1,.args acc,m',d,s,t,v,hm,hA,h=>by
  obtain rfl:_=m':=by
   rcases hm with h |⟨_,_,_,h,_⟩
   ·exact h
   ·cases h
  rw [Qg]at h ⊢;split at h
  ·rename_i g;rw [Qk g];exact Oi h
  ·rename_i g;rw [Qd g];refine Dl h (λu=>Cn n _ _ _ _ _ u (.inl rfl) hA) (λq s1 t1 w hA1 h1=> ?_);rw [<-hA1.is comma];split at h1
   ·rename_i g3;rw [Qk g3];exact Cn n _ _ _ _ _ _ (.inl rfl) hA1.next h1
   ·rename_i g3;rw [Qd g3];exact Qcc hA1 h1
 |n+1,.single,m',d,s,t,v,hm,hA,h=>by
  obtain rfl:_=m':=by
   rcases hm with h |⟨_,_,_,h,_⟩
   ·exact h
   ·cases h
  rw [Eh]at h ⊢;rw [<-Wn2 hA.tok];split at h
  ·exact Cn n _ _ _ _ _ _ (.inl rfl) hA h
  ·exact J3 hA.next h (by rfl)
  ·exact J3 hA.next h (by rfl)
  ·exact J3 hA.next h (by rfl)
  ·exact Dl h (λu=>Cn n _ _ _ _ _ u (.inl rfl) hA.next) (λq s1 t1 w hA1 h1=>J3 hA1 h1 (by rfl))
  ·exact Dl h (λu=>Cn n _ _ _ _ _ u (.inl rfl) hA.next) (λq s1 t1 w hA1 h1=>J3 hA1 h1 (by rfl))
  ·exact J3 hA.next h (by rw [hA.n];rfl)
  ·show El (if t.next.is lp then _ else _) v;rw [<-hA.next.is lp];split at h
   ·rename_i g2;rw [Qk g2];exact Cn n _ _ _ _ _ _ (.inr ⟨_,s.tok.place,t.tok.place,rfl,by rw [hA.text]⟩) hA.next h
   ·rename_i g2;rw [Qd g2];exact J3 hA.next h (by rw [hA.text];rfl)
  ·exact Oi h
theorem Qam {n d:Nat} {f f':Int->PS->Option Out} {v:Out} (hA:Vn s t) (h:Wy n d s f=some v) (hf: ∀a s t w,Vn s t->f a s=some w->El (f' a t) w):El (Wy n d t f') v:=
 Dl h (λu=>Cn n _ _ _ _ _ u (.inl rfl) hA) (λp s t w hA h=>hf _ _ _ _ hA h)
def We9 (m m':Pm):Prop:=m=m'\/ ∃acc a a',m= .stmts acc a/\m'= .stmts acc a'
theorem Sw: ∀(n:Nat) (m m':Pm) (d:Nat) (s t:PS) (v:Out),We9 m m'->Vn s t->Qac n m d s=some v->El (Qac n m' d t) v
 | 0,_,_,_,_,_,_,_,_,h=>by cases h
 |n+1,.block,m',d,s,t,v,hm,hA,h=>by
  obtain rfl:_=m':=by
   rcases hm with h |⟨_,_,_,h,_⟩
   ·exact h
   ·cases h
  rw [Qac]at h ⊢;refine Gg hA h λhA1 h=> ?_;split at h
  ·rename_i g;rw [Qk g];exact Oi h
  ·rename_i g;rw [Qd g];exact Sw n _ _ _ _ _ _ (.inr ⟨_,s.tok.place,t.tok.place,rfl,rfl⟩) hA1 h
 |n+1,.stmts acc a,m',d,s,t,v,hm,hA,h=>by
  obtain ⟨a',rfl⟩: ∃a',m'= .stmts acc a':=by
   rcases hm with h |⟨Wsr,a1,a2,h1,h2⟩
   ·exact ⟨a,h.symm⟩
   ·injection h1 with h3 h4
    subst h3;exact ⟨a2,h2⟩
  rw [Qac]at h ⊢;rw [<-hA.is rc];split at h
  ·rename_i g;rw [Qk g];exact J3 hA.next h rfl
  ·rename_i g;rw [Qd g];exact Dl h (λu=>Sw n _ _ _ _ _ u (.inl rfl) hA) (λp s t w hA h=>Sw n _ _ _ _ _ _ (.inr ⟨_,a,a',rfl,rfl⟩) hA h)
 |n+1,.stmt,m',d,s,t,v,hm,hA,h=>by
  obtain rfl:_=m':=by
   rcases hm with h |⟨_,_,_,h,_⟩
   ·exact h
   ·cases h
  have blk: ∀{f f':List Int->PS->Option Out} {s t:PS} {v:Out},Vn s t->Out.go (Qac n .block d s) f=some v->(∀p s t w,Vn s t->f p s=some w->El (f' p t) w)->El (Out.go (Qac n .block d t) f') v:=λhA h hf=>Dl h (λu=>Sw n _ _ _ _ _ u (.inl rfl) hA) hf;rw [Qac]at h ⊢;rw [<-Wk0 hA.tok];split at h
  ·exact Qjo hA.next h λnm a a' hA h=>Gg hA h λhA h=>Qam hA h λx s t w hA h=>Gg hA h λhA h=>J3 hA h rfl
  ·exact Qjo hA.next h λnm a a' hA h=>Gg hA h λhA h=>Qam hA h λx s t w hA h=>Gg hA h λhA h=>Qam hA h λy s t w hA h=>blk hA h λp s t w hA h=>J3 hA h rfl
  ·exact Gg hA.next h λhA h=>J3 hA h (by rfl)
  ·exact Gg hA.next h λhA h=>J3 hA h (by rfl)
  ·exact Qam hA.next h λx s t w hA h=>Gg hA h λhA h=>J3 hA h (by rfl)
  ·exact Qam hA.next h λx s t w hA h=>Gg hA h λhA h=>J3 hA h (by rfl)
  ·exact Qam hA.next h λx s t w hA h=>blk hA h λp s t w hA h=>J3 hA h (by rfl)
  ·refine Qam hA.next h λx s1 t1 w hA1 h=>blk hA1 h λp s2 t2 w hA2 h=> ?_;rw [<-hA2.is X7];split at h
   ·rename_i g;rw [Qk g];exact blk hA2.next h λp s t w hA h=>J3 hA h (by rfl)
   ·rename_i g;rw [Qd g];exact J3 hA2 h (by rfl)
  ·refine Qjo hA h λnm a a' hA1 h=> ?_;rw [<-hA1.is lp,<-hA1.is lb];split at h
   ·rename_i g;rw [Qk g];exact Dl h (λu=>Cn n _ _ _ _ _ u (.inr ⟨_,a,a',rfl,rfl⟩) hA1) (λp s t w hA h=>Gg hA h λhA h=>J3 hA h rfl)
   ·rename_i g;rw [Qd g];split at h
    ·rename_i g2;rw [Qk g2];exact Dl h (λu=>Cn n _ _ _ _ _ u (.inl rfl) hA1) (λp s t w hA h=>Gg hA h λhA h=>Qam hA h λx s t w hA h=>Gg hA h λhA h=>J3 hA h (by rfl))
    ·rename_i g2;rw [Qd g2];exact Gg hA1 h λhA h=>Qam hA h λx s t w hA h=>Gg hA h λhA h=>J3 hA h rfl
 |n+1,.params acc,m',d,s,t,v,hm,hA,h=>by
  obtain rfl:_=m':=by
   rcases hm with h |⟨_,_,_,h,_⟩
   ·exact h
   ·cases h
  rw [Qac]at h ⊢;refine Qjo hA h λnm a a' hA1 h=> ?_;split at h
  ·rename_i g;rw [Qk g];exact Oi h
  ·rename_i g;rw [Qd g];refine Q57 hA1 h λk hA2 h=>Dl h (λu hu=>J3 hA2 hu rfl) (λp s t w hA h=> ?_);rw [<-hA.is comma];split at h
   ·rename_i g3;rw [Qk g3];exact Sw n _ _ _ _ _ _ (.inl rfl) hA.next h
   ·rename_i g3;rw [Qd g3];exact Gg hA h λhA h=>Qcc hA h
 |n+1,.func,m',d,s,t,v,hm,hA,h=>by
  obtain rfl:_=m':=by
   rcases hm with h |⟨_,_,_,h,_⟩
   ·exact h
   ·cases h
  rw [Qac]at h ⊢;refine Qjo hA h λnm a a' hA1 h=>Gg hA1 h λhA2 h=>Dl h (λu hu=> ?_) (λp s t w hA h=>Q57 hA h λk hA h=>Dl h (λu=>Sw n _ _ _ _ _ u (.inl rfl) hA) (λp s t w hA h=>J3 hA h rfl));rw [<-hA2.is rp];split at hu
  ·rename_i g;rw [Qk g];exact Qcc hA2.next hu
  ·rename_i g;rw [Qd g];exact Sw n _ _ _ _ _ _ (.inl rfl) hA2 hu
 |n+1,.prog acc,m',d,s,t,v,hm,hA,h=>by
  obtain rfl:_=m':=by
   rcases hm with h |⟨_,_,_,h,_⟩
   ·exact h
   ·cases h
  rw [Qac]at h ⊢;rw [<-hA.kind];split at h
  ·rename_i g;rw [Qk g];exact J3 hA h rfl
  ·rename_i g;rw [Qd g];refine Gg hA h λhA1 h=> ?_;split at h
   ·rename_i g2;rw [Qk g2];exact Oi h
   ·rename_i g2;rw [Qd g2];exact Dl h (λu=>Sw n _ _ _ _ _ u (.inl rfl) hA1) (λp s t w hA h=>Sw n _ _ _ _ _ _ (.inl rfl) hA h)
theorem Wrd {L L':List Tk} (hL:L.map Dv=L'.map Dv) {v:Out} (h:Qs (.prog []) 0 ⟨L,[],[]⟩ v): ∃v',Qs (.prog []) 0 ⟨L',[],[]⟩ v'/\VAl v v':=by obtain ⟨n,hn⟩:=h;obtain ⟨v',h1,h2⟩:=Sw n (.prog []) (.prog []) 0 ⟨L,[],[]⟩ ⟨L',[],[]⟩ v (.inl rfl) ⟨hL,rfl,rfl⟩ hn;exact ⟨v',⟨n,h1⟩,h2⟩
end
section
open Go.RowKit
theorem S9 {l:List UInt8} {k:Nat} (h:k<l.length):l.drop k=l.getD k 0::l.drop (k+1):=by rw [List.drop_eq_getElem_cons h,Yc,Y3 h];rfl
theorem Qc2 {p:Nat->Bool} {l:List UInt8} {k:Nat} (h:k<l.length) (hp:p (bt l k)=true):rn p (l.drop k)=1+rn p (l.drop (k+1)):=by rw [S9 h];exact Qk hp
theorem Qot {p:Nat->Bool} {l:List UInt8} {k:Nat} (h:k<l.length) (hp:p (bt l k)=false):rn p (l.drop k)=0:=by rw [S9 h];exact Qd (λg=>by rw [show bt l k=(l.getD k 0).toNat from rfl,g]at hp;cases hp)
theorem Qmr {p:Nat->Bool} {l:List UInt8} {k:Nat} (h:l.length<=k):rn p (l.drop k)=0:=by rw [Qla h];rfl
theorem Qnd {b:Bool} {l:List UInt8} {k:Nat} (h:l.length<=k):Yh b (l.drop k)=0:=by rw [Qla h];cases b<;>rfl
theorem Qwv {l:List UInt8} {k:Nat} (h:k<l.length) (hb:bt l k=35):Yh false (l.drop k)=1+Yh true (l.drop (k+1)):=by rw [S9 h];exact Qk hb
theorem Qqu {l:List UInt8} {k:Nat} (h:k<l.length) (Fx: ¬bt l k=35) (hb:Ib (bt l k)=true):Yh false (l.drop k)=1+Yh false (l.drop (k+1)):=by rw [S9 h];exact (Qd Fx).trans (Qk hb)
theorem Qyr {l:List UInt8} {k:Nat} (h:k<l.length) (Fx: ¬bt l k=35) (hb: ¬Ib (bt l k)=true):Yh false (l.drop k)=0:=by rw [S9 h];exact (Qd Fx).trans (Qd hb)
theorem Quc {l:List UInt8} {k:Nat} (h:k<l.length) (hb: ¬bt l k=10):Yh true (l.drop k)=1+Yh true (l.drop (k+1)):=by rw [S9 h];exact Qd hb
theorem Q1g {l:List UInt8} {k:Nat} (h:k<l.length) (hb:bt l k=10):Yh true (l.drop k)=Yh false (l.drop k):=by rw [S9 h];have h1:Yh true (l.getD k 0::l.drop (k+1))=1+Yh false (l.drop (k+1)):=Qk hb;have h2:Yh false (l.getD k 0::l.drop (k+1))=1+Yh false (l.drop (k+1)):=(Qd (λg=>by rw [show (l.getD k 0).toNat=bt l k from rfl,hb]at g;cases g)).trans (Qk (by rw [show (l.getD k 0).toNat=bt l k from rfl,hb];rfl));rw [h1,h2]
theorem Qiz {l:List UInt8} {k:Nat} (h:k<l.length):num (l.take (k+1))=M9 (num (l.take k)) (l.getD k 0):=by unfold num;rw [Wqo h,List.foldl_append];rfl
theorem Q4n: ∀l:List UInt8,l.foldl M9 none=none
 | []=>rfl
 |c::cs=>Q4n cs
theorem Qzd {l:List UInt8} {k:Nat} (h:num (l.take k)=none):num l=none:=by
 have e:num l=(l.drop k).foldl M9 (num (l.take k)):=by unfold num;rw [<-List.foldl_append,List.take_append_drop]
 rw [e,h,Q4n]
theorem Qx7 {l:List UInt8}: ∀{n k:Nat},num (l.take k)=some n->n<=9223372036854775807
 |n,0,h=>by simp [num]at h;omega
 |n,k+1,h=>by
  rcases V7 k l.length with g |g
  ·rw [Qiz g]at h;unfold M9 at h;split at h
   ·cases h
   ·split at h
    ·injection h with h;omega
    ·cases h
  ·rw [F6 (by omega)]at h;refine Qx7 (l:=l) (k:=k) ?_;rw [F6 g];exact h
def Mr (l:List UInt8):Value:=match num l with
 |some n=>.tuple #[.int .i64 (n:Int),.bool true]
 |none=>.tuple #[.int .i64 0,.bool false]
theorem Q8e (n:Nat) (h:n<256):IntKind.u8.wrap ((n:Int)-48)=(((n+208)%256:Nat):Int):=by rw [IntKind.wrap_u8];omega
def Ay (L:List Nd):List Value:=L.flatMap (λx=>x.cs.toList)
theorem Qfv (L R:List Nd):Ay (L++R)=Ay L++Ay R:=by unfold Ay;rw [List.flatMap_append]
theorem Qn8 (x:Nd):Ay [x]=x.cs.toList:=by unfold Ay;simp
theorem Qoc (x:Nd):x.cs.toList.length=5:=rfl
theorem Q0q: ∀L:List Nd,(Ay L).length=L.length*5
 | []=>rfl
 |x::r=>by have ih:=Q0q r;unfold Ay at ih ⊢;rw [List.flatMap_cons,Qf,ih,Qoc,Qp];omega
theorem Qqt: ∀(L:List Nd) (j k:Nat),j<L.length->k<5->(Ay L)[j*5+k]? =(nd L j).cs.toList[k]?
 | [],j,k,h,_=>by simp at h
 |x::r,0,k,_,hk=>by unfold Ay;rw [List.flatMap_cons,Nat.zero_mul,Bq,Qg1 (by rw [Qoc];exact hk)];rfl
 |x::r,j+1,k,h,hk=>by have ih:=Qqt r j k (by simpa using h) hk;unfold Ay at ih ⊢;rw [List.flatMap_cons,Ht (by rw [Qoc];omega),Qoc,show (j+1)*5+k-5=j*5+k by omega,ih];rfl
theorem Qvm:(prog.info? 37).map (λi=>(i.zero,i.size,i.bytes))=some (some (.agg #[.int .i64 0,.slice none 0 0,.int .i64 0,.string ⟨#[]⟩,.int .i64 0]),5,64):=by kernel_rfl
theorem Qef (g j:Nat):(⟨g,0,none⟩:Addr).add j=⟨g,j,none⟩:=by
 simp only [Addr.add];split
 ·rename_i h0;rw [h0]
 ·rw [Bq]
theorem Hf {ops:Array Oper} {rest:List Oper} {o:Oper} {a:Act} {Q:Exit->Act->World->Prop} (hgd:o.guard=none) (s x:Operand)
  (ho:o.op= .call {callee:=.builtin .append,args:= #[s,x],argTypes:= #[35,35]})
  (B:Nat) (w:World) (v:Value) (xs:List Int) (z:Int) (hs:a.eval s=v) (hx:a.eval x= .slice (some ⟨w.heap.size,0,none⟩) 1 1) (hb:Now B w v xs) (hB:B<=w.heap.size) (hlen:xs.length<=10000000)
  (h: ∀v' w',Now B w' v' (xs++[z])->(w.alloc (.cells #[.int .i64 z] 3)).grownBy w' v.ownBlock->(∀k,v'.ownBlock=some k->v.ownBlock=some k\/k=(w.alloc (.cells #[.int .i64 z] 3)).heap.size)->wpList prog ops Q rest (a.put o.dst v') w'):
  wpList prog ops Q (o::rest) a (w.alloc (.cells #[.int .i64 z] 3)):=by
 refine Wnp hgd s x 35 3 (.int .i64 0) 1 8 underlying35 Qlf rfl (by decide) (by decide) ho B v xs.length (xs.map (Value.int .i64)) hs (World.ownsRow.alloc hb _) ⟨w.heap.size,0,none⟩ 1 1 [.int .i64 z] hx (by decide) rfl ?_ ?_ (by omega) (by simp;omega) ?_
 ·intro j u hj
  match j,hj with
  | 0,hj=>simp at hj;subst hj;simp [Addr.add]
 ·intro u hu;simp at hu;subst hu;rfl
 ·intro v' w' hown hgrow hw;exact h v' w' (by unfold Now;rw [Qf,Zp];exact hown) hgrow hw
theorem Wov (L:List Nd): ∀u∈Ay L,u.oneCell'=true:=by intro u hu;obtain ⟨x,_,hx⟩:=List.mem_flatMap.1 hu;have:u∈[Value.int .i64 x.kind,.slice x.ka x.kids.length x.kc,.int .i64 x.n,.string x.s,.int .i64 x.at_]:=hx;simp at this;rcases this with rfl |rfl |rfl |rfl |rfl<;>rfl
theorem Zq {w:World} {B e sz n:Nat} {v:Value} {xs:List Value} (h:w.ownsRow B e sz v n xs): ∃a c,v= .slice a n c:=by
 rcases h.2 with ⟨rfl,rfl⟩ |⟨g,cap,cur,rfl,_⟩
 ·exact ⟨_,_,rfl⟩
 ·exact ⟨_,_,rfl⟩
theorem Qpr {w:World} {B e sz n:Nat} {v:Value} {xs:List Value} (h:w.ownsRow B e sz v n xs) (hn:0<n): ∃g c,v= .slice (some ⟨g,0,none⟩) n c/\B<=g:=by
 rcases h.2 with ⟨rfl,rfl⟩ |⟨g,cap,cur,rfl,hb,_⟩
 ·omega
 ·exact ⟨_,_,rfl,hb⟩
theorem Wmu {w:World} {B gp n cp e sz:Nat} {xs:List Value} (h:w.ownsRow B e sz (.slice (some ⟨gp,0,none⟩) n cp) n xs) (i:Nat):w.frozen? ⟨gp,i,none⟩=false:=by
 rcases h.2 with ⟨h1,_⟩ |⟨g,cap,cur,h1,_,h3,_⟩
 ·cases h1
 ·injection h1 with h1 _ _
  injection h1 with h1
  injection h1 with h1 _
  subst h1;exact (show Held w gp e cur from h3).frozen i
end
section
open Go.RowKit
mutual
def Qoa {H:Type}:DataW H->List Value
 | .lit (.int k z)=>[.int k z]
 | .lit (.bool b)=>[.bool b]
 | .lit (.string l)=>[.string ⟨l.toArray⟩]
 | .agg ds=>Qww ds
 |_=>[]
def Qww {H:Type}:List (DataW H)->List Value
 | []=>[]
 |d::r=>Qoa d++Qww r
end
def strCells:Array Value:=(Qoa (H:=Unit) Rows.laid_balustrade_expr_strengths).toArray
def Qv4:Array Value:=(Qoa (H:=Unit) Rows.laid_balustrade_expr_signs).toArray
def Qqp:Array Value:=(Qoa (H:=Unit) Rows.laid_balustrade_expr_fronts).toArray
structure Co (w:World):Prop where
 str: ∃t fr,w.heap[9]? =some (.cells strCells t fr)
 sign: ∃t fr,w.heap[10]? =some (.cells Qv4 t fr)
 front: ∃t fr,w.heap[13]? =some (.cells Qqp t fr)
def Vw:Nat:=max (max 9 10) 13+1
theorem Co.keep {w w':World} (h:Co w) (hb: ∀k,k<Vw->w'.heap[k]? =w.heap[k]?):Co w':=by obtain ⟨a,b,c⟩:=h;exact ⟨by rw [hb _ (by decide)];exact a,by rw [hb _ (by decide)];exact b,by rw [hb _ (by decide)];exact c⟩
theorem Co.size {w:World} (h:Co w):Vw<=w.heap.size:=by obtain ⟨t,fr,h2⟩:=h.front;obtain ⟨t,fr,h1⟩:=h.sign;obtain ⟨t,fr,h0⟩:=h.str;have e2:=(Array.getElem?_eq_some_iff.1 h2).1;have e1:=(Array.getElem?_eq_some_iff.1 h1).1;have e0:=(Array.getElem?_eq_some_iff.1 h0).1;unfold Vw;omega
def tkv (t:Tk):List Value:=[.int .i64 (t.kind:Int),.string ⟨t.text.toArray⟩,.int .i64 (t.n:Int),.int .i64 (t.place:Int)]
def Ey (L:List Tk):List Value:=L.flatMap tkv
theorem Q8o: ∀L:List Tk,(Ey L).length=L.length*4
 | []=>rfl
 |x::r=>by have ih:=Q8o r;unfold Ey at ih ⊢;rw [List.flatMap_cons,Qf,ih,Qp];show 4+_=_;omega
theorem Qh1: ∀(L:List Tk) (j k:Nat) (t:Tk),L[j]? =some t->k<4->(Ey L)[j*4+k]? =(tkv t)[k]?
 | [],j,k,t,h,_=>by simp at h
 |x::r,0,k,t,h,hk=>by simp at h;subst h;unfold Ey;rw [List.flatMap_cons,Nat.zero_mul,Bq,Qg1 (by show k<4;exact hk)]
 |x::r,j+1,k,t,h,hk=>by have ih:=Qh1 r j k t (by simpa using h) hk;unfold Ey at ih ⊢;rw [List.flatMap_cons,Ht (by show 4<=_;omega),<-ih];congr 1;show (j+1)*4+k-4=_;omega
theorem Wnh (L:List Tk): ∀u∈Ey L,u.oneCell'=true:=by intro u hu;obtain ⟨t,_,h⟩:=List.mem_flatMap.1 hu;simp [tkv]at h;rcases h with rfl |rfl |rfl |rfl<;>rfl
def Uo (w:World) (b off:Nat) (L:List Tk):Prop:= ∀j u,(Ey L)[j]? =some u->w.cell? ⟨b,off+j,none⟩=some u
theorem Uo.at_ {w:World} {b off:Nat} {L:List Tk} (h:Uo w b off L) {j:Nat} {t:Tk} (ht:L[j]? =some t):
  w.cell? ⟨b,off+j*4,none⟩=some (.int .i64 (t.kind:Int))/\w.cell? ⟨b,off+j*4+1,none⟩=some (.string ⟨t.text.toArray⟩)/\w.cell? ⟨b,off+j*4+2,none⟩=some (.int .i64 (t.n:Int))/\w.cell? ⟨b,off+j*4+3,none⟩=some (.int .i64 (t.place:Int)):=by
 refine ⟨?_,?_,?_,?_⟩
 ·exact h (j*4+0) _ ((Qh1 L j 0 t ht (by decide)).trans rfl)
 ·have:=h (j*4+1) _ ((Qh1 L j 1 t ht (by decide)).trans rfl);rw [<-La]at this;exact this
 ·have:=h (j*4+2) _ ((Qh1 L j 2 t ht (by decide)).trans rfl);rw [<-La]at this;exact this
 ·have:=h (j*4+3) _ ((Qh1 L j 3 t ht (by decide)).trans rfl);rw [<-La]at this;exact this
theorem Uo.block {w w':World} {b off:Nat} {L:List Tk} (h:Uo w b off L) (hb:w'.heap[b]? =w.heap[b]?):Uo w' b off L:=by intro j u hj;have:=h j u hj;unfold World.cell? at this ⊢;rw [hb];exact this
def Y5 (y:Nd):Value:=.slice y.ka y.kids.length y.kc
def bare (x:Nd):Nd:=⟨x.kind,none,0,x.kids,x.n,x.s,x.at_⟩
structure Bx where
 tb:Nat
 tc:Nat
 vn:Value
 vh:Value
 Z:Nat->Prop
structure Core (B g:Nat) (L:List Tk) (w:World) (R:Bx) (p:Nat) (d:Int) (l:List Nd) (h:List Nat) (e q:Int):Prop where
 box:Held w g 98 #[.slice (some ⟨R.tb,0,none⟩) L.length R.tc,.int .i64 (p:Int),.int .i64 d,R.vn,R.vh,.int .i64 e,.int .i64 q]
 toks:Uo w R.tb 0 L
 Jh:R.tb<w.heap.size
 told:B<=R.tb
 ty: ∃cs fz,w.heap[R.tb]? =some (.cells cs 69 fz)
 own:w.ownsRow B 37 5 R.vn l.length (Ay l)
 hts:Now B w R.vh (h.map Int.ofNat)
 kids: ∀x∈l,Now B w (Y5 x) x.kids
 off: ∀x∈l,(Y5 x).ownBlock=none\/(Y5 x).ownBlock≠R.vh.ownBlock
 old:B<=g
 fin: ∀j t,L[j]? =some t->t.kind≠0->j+1<L.length
 many:L.length<=100000
 tabs:Co w
 base:Vw<=B
 zone: ∀k,R.Z k->k<w.heap.size/\R.vh.ownBlock≠some k/\ ∀x∈l,(Y5 x).ownBlock≠some k
structure Rd (B g:Nat) (L:List Tk) (w:World) (R:Bx) (p:Nat) (d:Int) (l:List Nd) (h:List Nat) (e q:Int):Prop extends Core B g L w R p d l h e q where
 len:h.length=l.length
 here:p<L.length
 few:l.length<=p+1
 low: ∀x∈h,x<=200
structure Fr (g:Nat) (w w':World) (R R':Bx):Prop where
 os:w'.os=w.os
 tape:w'.tape=w.tape
 output:w'.output=w.output
 size:w.heap.size<=w'.heap.size
 block: ∀k,k<w.heap.size->k≠g->R.vn.ownBlock≠some k->R.vh.ownBlock≠some k->w'.heap[k]? =w.heap[k]?
 vn: ∀k,R'.vn.ownBlock=some k->R.vn.ownBlock=some k\/w.heap.size<=k
 vh: ∀k,R'.vh.ownBlock=some k->R.vh.ownBlock=some k\/w.heap.size<=k
theorem Fr.of_below {g:Nat} {w w':World} (R:Bx) (h:Below w.heap.size w w'):Fr g w w' R R:=
 ⟨h.os,h.tape,h.output,h.size,λk hk _ _ _=>h.block k hk,λk hk=>.inl hk,λk hk=>.inl hk⟩
theorem Fr.trans {g:Nat} {w w1 w2:World} {R R1 R2:Bx} (h:Fr g w w1 R R1) (k:Fr g w1 w2 R1 R2):Fr g w w2 R R2:=by
 refine ⟨k.os.trans h.os,k.tape.trans h.tape,k.output.trans h.output,F7 h.size k.size,?_,?_,?_⟩
 ·intro j hj h1 h2 h3;rw [k.block j (Fe hj h.size) h1,h.block j hj h1 h2 h3]
  ·intro e;rcases h.vn j e with e' |e'
   ·exact h2 e'
   ·omega
  ·intro e;rcases h.vh j e with e' |e'
   ·exact h3 e'
   ·omega
 ·intro j e;rcases k.vn j e with e' |e'
  ·exact h.vn j e'
  ·exact .inr (F7 h.size e')
 ·intro j e;rcases k.vh j e with e' |e'
  ·exact h.vh j e'
  ·exact .inr (F7 h.size e')
theorem Core.Uf {B g:Nat} {L:List Tk} {w w':World} {R R':Bx} {p:Nat} {d e q:Int} {l:List Nd} {h:List Nat} (H:Core B g L w R p d l h e q) (F:Fr g w w' R R'):Below B w w':=
 ⟨F.os,F.tape,F.output,F.size,λk hk=>F.block k (by have:=H.old;have:=H.box.lt;omega) (by have:=H.old;omega) (λe=>by have:=(H.own.lt k e).1;omega) (λe=>by have:=(H.hts.lt k e).1;omega)⟩
theorem Core.below {B g:Nat} {L:List Tk} {w w':World} {R:Bx} {p:Nat} {d e q:Int} {l:List Nd} {h:List Nat} (H:Core B g L w R p d l h e q) (hb:Below w.heap.size w w'):Core B g L w' R p d l h e q:=by
 obtain ⟨cs,fz,hty⟩:=H.ty;exact ⟨H.box.since hb,H.toks.block (hb.block _ H.Jh),Fe H.Jh hb.size,H.told,⟨cs,fz,(hb.block _ H.Jh).trans hty⟩,Dr H.own hb,Dr H.hts hb,λx hx=>Dr (H.kids x hx) hb,H.off,H.old,H.fin,H.many,
  H.tabs.keep (λk hk=>hb.block k (by have:=H.tabs.size;omega)),H.base,λk hk=>⟨Fe (H.zone k hk).1 hb.size,(H.zone k hk).2⟩⟩
theorem Rd.below {B g:Nat} {L:List Tk} {w w':World} {R:Bx} {p:Nat} {d e q:Int} {l:List Nd} {h:List Nat} (H:Rd B g L w R p d l h e q) (hb:Below w.heap.size w w'):Rd B g L w' R p d l h e q:=
 ⟨H.toCore.below hb,H.len,H.here,H.few,H.low⟩
theorem Core.Px {B g:Nat} {L:List Tk} {w:World} {R:Bx} {p:Nat} {d e q:Int} {l:List Nd} {h:List Nat} (H:Core B g L w R p d l h e q):R.tb≠g:=by
 obtain ⟨cs,fz,hty⟩:=H.ty;intro e0;have h1:w.heap[g]? =_:=H.box;rw [e0,h1]at hty;injection hty with h2
 injection h2 with _ h3
 exact absurd h3 (by decide)
theorem Rd.store {B g:Nat} {L:List Tk} {w:World} {R:Bx} {p p':Nat} {d e q d' e' q':Int} {l:List Nd} {h:List Nat} (H:Rd B g L w R p d l h e q) {i:Nat} {u:Value}
  (hc:(#[.slice (some ⟨R.tb,0,none⟩) L.length R.tc,.int .i64 (p:Int),.int .i64 d,R.vn,R.vh,.int .i64 e,.int .i64 q]:Array Value).setIfInBounds i u= #[.slice (some ⟨R.tb,0,none⟩) L.length R.tc,.int .i64 (p':Int),.int .i64 d',R.vn,R.vh,.int .i64 e',.int .i64 q'])
  (hp:p'<L.length) (hf:l.length<=p'+1):Rd B g L (w.setCell ⟨g,i,none⟩ u) R p' d' l h e' q':=by
 have hg:=H.box;have hne: ∀k,k≠g->(w.setCell ⟨g,i,none⟩ u).heap[k]? =w.heap[k]?:=λk hk=>Below.heap_setCell w ⟨g,i,none⟩ u k hk;obtain ⟨cs,fz,hty⟩:=H.ty;have htb:=H.toCore.Px;have gr:=Gv w g i u;refine ⟨⟨?_,H.toks.block (hne _ htb),by have:=H.Jh;simpa [World.setCell] using this,H.told,⟨cs,fz,(hne _ htb).trans hty⟩,H.own.kept gr (.inr (Yr H.own hg (by decide))),H.hts.kept gr (.inr (Yr H.hts hg (by decide))),λx hx=>(H.kids x hx).kept gr (.inr (Yr (H.kids x hx) hg (by decide))),H.off,H.old,H.fin,H.many,
  H.tabs.keep (λk hk=>hne k (by have:=H.old;have:=H.base;omega)),H.base,λk hk=>⟨by have:=(H.zone k hk).1;simpa [World.setCell] using this,(H.zone k hk).2⟩⟩,H.len,hp,hf,H.low⟩;have:=hg.set i u;rw [hc]at this;exact this
theorem Core.node {B g:Nat} {L:List Tk} {w W1 w3:World} {R:Bx} {p:Nat} {d e q:Int} {l:List Nd} {h:List Nat} {v3:Value} {y:Nd} (H0:Core B g L w R p d l h e q) (hW1:Below w.heap.size w W1) (hown:w3.ownsRow B 37 5 v3 (l.length+1) (Ay l++y.cs.toList)) (hg:W1.grownBy w3 R.vn.ownBlock)
  (hat: ∀k,v3.ownBlock=some k->R.vn.ownBlock=some k\/w.heap.size<=k) (hk:Now B w (Y5 y) y.kids) (hoff:(Y5 y).ownBlock=none\/(Y5 y).ownBlock≠R.vh.ownBlock) (hz: ∀k,R.Z k->(Y5 y).ownBlock≠some k):
  Core B g L (w3.setCell ⟨g,3,none⟩ v3) {R with vn:=v3} p d (l++[y]) h e q/\Fr g w (w3.setCell ⟨g,3,none⟩ v3) R {R with vn:=v3}:=by
 have H:=H0.below hW1;have hne: ∀k,k≠g->(w3.setCell ⟨g,3,none⟩ v3).heap[k]? =w3.heap[k]?:=λk hk=>Below.heap_setCell w3 ⟨g,3,none⟩ v3 k hk;have hgv:R.vn.ownBlock≠some g:=Yr H.own H.box (by decide);have Ei:Held w3 g 98 _:=H.box.block (hg.block g H.box.lt (λe=>hgv e.symm));obtain ⟨cs,fz,hty⟩:=H.ty;have Po:R.vn.ownBlock≠some R.tb:=Yr H.own hty (by decide);have Pp:w3.heap[R.tb]? =W1.heap[R.tb]?:=hg.block R.tb H.Jh (λe=>Po e.symm);have gr:=Gv w3 g 3 v3;have hk1:Now B W1 (Y5 y) y.kids:=Dr hk hW1;have K3: ∀x,Now B W1 (Y5 x) x.kids->Now B (w3.setCell ⟨g,3,none⟩ v3) (Y5 x) x.kids:=by intro x hx;have h3:Now B w3 (Y5 x) x.kids:=World.ownsRow.kept hx hg (Nr hx H.own (by decide));exact World.ownsRow.kept h3 gr (.inr (Yr h3 Ei (by decide)))
 have h3:Now B w3 R.vh (h.map Int.ofNat):=World.ownsRow.kept H.hts hg (Nr H.hts H.own (by decide));refine ⟨⟨Ei.set 3 v3,(H.toks.block Pp).block (hne _ H.Px),?_,H.told,⟨cs,fz,(hne _ H.Px).trans (Pp.trans hty)⟩,?_,World.ownsRow.kept h3 gr (.inr (Yr h3 Ei (by decide))),?_,?_,H.old,H.fin,H.many,?_,H.base,?zone⟩,?_,?_,?_,?_,?_,?_,?_⟩
 case zone=>
  intro k hk;have h1:=H.zone k hk;refine ⟨by have h2:=hg.size;have h4:=h1.1;simp [World.setCell];omega,h1.2.1,λx hx=> ?_⟩;rcases List.mem_append.1 hx with hx |hx
  ·exact h1.2.2 x hx
  ·rw [List.mem_singleton.1 hx];exact hz k hk
 ·have h1:=H.Jh;have h2:=hg.size;simp [World.setCell];omega
 ·have h4:=World.ownsRow.kept hown gr (.inr (Yr hown Ei (by decide)));rw [Qf,Qfv,Qn8];exact h4
 ·intro x hx;rcases List.mem_append.1 hx with hx |hx
  ·exact K3 x (H.kids x hx)
  ·rw [List.mem_singleton.1 hx];exact K3 y hk1
 ·intro x hx;rcases List.mem_append.1 hx with hx |hx
  ·exact H.off x hx
  ·rw [List.mem_singleton.1 hx];exact hoff
 ·refine H.tabs.keep (λk hk=> ?_);have hb:=H.base;rw [hne k (by have:=H.old;omega),hg.block k (by have:=H.tabs.size;omega) (λe=>by have:=(H.own.lt k e.symm).1;omega)]
 ·exact (show w3.os=_ from hg.os).trans hW1.os
 ·exact (show w3.tape=_ from hg.tape).trans hW1.tape
 ·exact (show w3.output=_ from hg.output).trans hW1.output
 ·have h1:=hW1.size;have h2:=hg.size;simp [World.setCell];omega
 ·intro k hk h1 h2 h4;rw [hne k h1,hg.block k (by have:=hW1.size;omega) (λe=>h2 e.symm),hW1.block k hk]
 ·exact hat
 ·exact λk hk=>.inl hk
theorem Core.height {B g:Nat} {L:List Tk} {w W1 w3:World} {R:Bx} {p:Nat} {d e q:Int} {l:List Nd} {h:List Nat} {v3:Value} {z:Nat} (H0:Core B g L w R p d l h e q) (hW1:Below w.heap.size w W1) (hown:Now B w3 v3 ((h++[z]).map Int.ofNat)) (hg:W1.grownBy w3 R.vh.ownBlock)
  (hat: ∀k,v3.ownBlock=some k->R.vh.ownBlock=some k\/w.heap.size<=k):
  Core B g L (w3.setCell ⟨g,4,none⟩ v3) {R with vh:=v3} p d l (h++[z]) e q/\Fr g w (w3.setCell ⟨g,4,none⟩ v3) R {R with vh:=v3}:=by
 have H:=H0.below hW1;have hne: ∀k,k≠g->(w3.setCell ⟨g,4,none⟩ v3).heap[k]? =w3.heap[k]?:=λk hk=>Below.heap_setCell w3 ⟨g,4,none⟩ v3 k hk;have hgv:R.vh.ownBlock≠some g:=Yr H.hts H.box (by decide);have Ei:Held w3 g 98 _:=H.box.block (hg.block g H.box.lt (λe=>hgv e.symm));obtain ⟨cs,fz,hty⟩:=H.ty;have Po:R.vh.ownBlock≠some R.tb:=Yr H.hts hty (by decide);have Pp:w3.heap[R.tb]? =W1.heap[R.tb]?:=hg.block R.tb H.Jh (λe=>Po e.symm);have gr:=Gv w3 g 4 v3;have Qg7:=World.ownsRow.kept H.own hg (Nr H.own H.hts (by decide));refine ⟨⟨Ei.set 4 v3,(H.toks.block Pp).block (hne _ H.Px),?_,H.told,⟨cs,fz,(hne _ H.Px).trans (Pp.trans hty)⟩,World.ownsRow.kept Qg7 gr (.inr (Yr Qg7 Ei (by decide))),World.ownsRow.kept hown gr (.inr (Yr hown Ei (by decide))),?_,?_,H.old,H.fin,H.many,?_,H.base,?zone⟩,?_,?_,?_,?_,?_,?_,?_⟩
 case zone=>
  intro k hk;have h1:=H0.zone k hk;refine ⟨by have h2:=hg.size;have h4:=h1.1;have h5:=hW1.size;simp [World.setCell];omega,λe=> ?_,h1.2.2⟩;rcases hat k e with h6 |h6
  ·exact h1.2.1 h6
  ·have:=h1.1;omega
 ·have h1:=H.Jh;have h2:=hg.size;simp [World.setCell];omega
 ·intro x hx;have h4:Now B w3 (Y5 x) x.kids:=World.ownsRow.kept (H.kids x hx) hg (H.off x hx);exact World.ownsRow.kept h4 gr (.inr (Yr h4 Ei (by decide)))
 ·intro x hx;cases hb:(Y5 x).ownBlock with
  |none=>exact .inl rfl
  |some b=>
   right;intro e;rcases hat b e.symm with h1 |h1
   ·rcases H.off x hx with h2 |h2
    ·rw [h2]at hb;cases hb
    ·exact h2 (hb.trans h1.symm)
   ·have h2:=((H0.kids x hx).lt b hb).2;omega
 ·refine H.tabs.keep (λk hk=> ?_);have hb:=H.base;rw [hne k (by have:=H.old;omega),hg.block k (by have:=H.tabs.size;omega) (λe=>by have:=(H.hts.lt k e.symm).1;omega)]
 ·exact (show w3.os=_ from hg.os).trans hW1.os
 ·exact (show w3.tape=_ from hg.tape).trans hW1.tape
 ·exact (show w3.output=_ from hg.output).trans hW1.output
 ·have h1:=hW1.size;have h2:=hg.size;simp [World.setCell];omega
 ·intro k hk h1 h2 h4;rw [hne k h1,hg.block k (by have:=hW1.size;omega) (λe=>h4 e.symm),hW1.block k hk]
 ·exact λk hk=>.inl hk
 ·exact hat
theorem Fr.store {B g:Nat} {L:List Tk} {w:World} {R:Bx} (i:Nat) (u:Value):Fr g w (w.setCell ⟨g,i,none⟩ u) R R:=
 ⟨rfl,rfl,rfl,by simp [World.setCell],λk hk hne _ _=>Below.heap_setCell w ⟨g,i,none⟩ u k hne,λk hk=>.inl hk,λk hk=>.inl hk⟩
def Good (B g:Nat) (L:List Tk) (w:World) (R:Bx) (d:Nat) (s:PS):Prop:= ∃p l,Rd B g L w R p (d:Int) l s.h 0 0/\s.r=L.drop p/\s.l=l.map bare
def Bad (B g:Nat) (L:List Tk) (w:World) (R:Bx) (d:Nat) (f:Qq):Prop:= ∃p l h,Rd B g L w R p (d:Int) l h (f.1:Int) (f.2:Int)/\f.1≠0
theorem Good.below {B g:Nat} {L:List Tk} {w w':World} {R:Bx} {d:Nat} {s:PS} (H:Good B g L w R d s) (hb:Below w.heap.size w w'):Good B g L w' R d s:=by obtain ⟨p,l,h,r⟩:=H;exact ⟨p,l,h.below hb,r⟩
theorem Bad.below {B g:Nat} {L:List Tk} {w w':World} {R:Bx} {d:Nat} {f:Qq} (H:Bad B g L w R d f) (hb:Below w.heap.size w w'):Bad B g L w' R d f:=by obtain ⟨p,l,h,H,r⟩:=H;exact ⟨p,l,h,H.below hb,r⟩
theorem Rd.foreign {B g:Nat} {L:List Tk} {w:World} {R:Bx} {p:Nat} {d e q:Int} {l:List Nd} {h:List Nat} {W1 w':World} {v:Value} {B' n:Nat} {xs:List Value} (H0:Rd B g L w R p d l h e q) (hW1:Below w.heap.size w W1) (hv:W1.ownsRow B' 3 1 v n xs) (hB':Vw<=B') (hz: ∀k,v.ownBlock=some k->R.Z k) (hg:W1.grownBy w' v.ownBlock):Rd B g L w' R p d l h e q:=by
 have H:=H0.below hW1;obtain ⟨cs,fz,hty⟩:=H.ty;have hgv:v.ownBlock≠some g:=Yr hv H.box (by decide);have Po:v.ownBlock≠some R.tb:=Yr hv hty (by decide);have htb:w'.heap[R.tb]? =W1.heap[R.tb]?:=hg.block R.tb H.Jh (λe=>Po e.symm);have hne: ∀{u:Value},(∀k,R.Z k->u.ownBlock≠some k)->u.ownBlock=none\/u.ownBlock≠v.ownBlock:=by
  intro u hu;cases hb:u.ownBlock with
  |none=>exact .inl rfl
  |some b=>exact .inr (λe=>hu b (hz b e.symm) hb)
 have hlow: ∀k,k<Vw->w'.heap[k]? =W1.heap[k]?:=by intro k hk;exact hg.block k (by have:=H.tabs.size;omega) (λe=>by have:=(hv.lt k e.symm).1;omega)
 refine ⟨⟨H.box.block (hg.block g H.box.lt (λe=>hgv e.symm)),H.toks.block htb,Fe H.Jh hg.size,H.told,⟨cs,fz,htb.trans hty⟩,World.ownsRow.kept H.own hg (Nr H.own hv (by decide)),World.ownsRow.kept H.hts hg (hne (λk hk=>(H.zone k hk).2.1)),λx hx=>World.ownsRow.kept (H.kids x hx) hg (hne (λk hk=>(H.zone k hk).2.2 x hx)),H.off,H.old,H.fin,H.many,H.tabs.keep hlow,H.base,λk hk=>⟨Fe (H.zone k hk).1 hg.size,(H.zone k hk).2⟩⟩,H.len,H.here,H.few,H.low⟩
theorem Bad.foreign {B g B' n:Nat} {L:List Tk} {w W1 w':World} {R:Bx} {d:Nat} {f:Qq} {v:Value} {xs:List Value} (H:Bad B g L w R d f) (hW1:Below w.heap.size w W1) (hv:W1.ownsRow B' 3 1 v n xs) (hB':Vw<=B') (hz: ∀k,v.ownBlock=some k->R.Z k) (hg:W1.grownBy w' v.ownBlock):Bad B g L w' R d f:=by obtain ⟨p,l,h,H,r⟩:=H;exact ⟨p,l,h,H.foreign hW1 hv hB' hz hg,r⟩
theorem Rd.less {B g:Nat} {L:List Tk} {w:World} {R:Bx} {p:Nat} {d e q:Int} {l:List Nd} {h:List Nat} (H:Rd B g L w R p d l h e q) (Z':Nat->Prop) (hz: ∀k,Z' k->R.Z k):Rd B g L w {R with Z:=Z'} p d l h e q:=
 ⟨⟨H.box,H.toks,H.Jh,H.told,H.ty,H.own,H.hts,H.kids,H.off,H.old,H.fin,H.many,H.tabs,H.base,λk hk=>H.zone k (hz k hk)⟩,H.len,H.here,H.few,H.low⟩
theorem Good.less {B g:Nat} {L:List Tk} {w:World} {R:Bx} {d:Nat} {s:PS} (H:Good B g L w R d s) (Z':Nat->Prop) (hz: ∀k,Z' k->R.Z k):Good B g L w {R with Z:=Z'} d s:=by obtain ⟨p,l,h,r⟩:=H;exact ⟨p,l,h.less Z' hz,r⟩
theorem Bad.less {B g:Nat} {L:List Tk} {w:World} {R:Bx} {d:Nat} {f:Qq} (H:Bad B g L w R d f) (Z':Nat->Prop) (hz: ∀k,Z' k->R.Z k):Bad B g L w {R with Z:=Z'} d f:=by obtain ⟨p,l,h,H,r⟩:=H;exact ⟨p,l,h,H.less Z' hz,r⟩
theorem Rd.wider {B g:Nat} {L:List Tk} {w w':World} {R:Bx} {p:Nat} {d e q:Int} {l:List Nd} {h:List Nat} (H:Rd B g L w R p d l h e q) (H':Rd B g L w' R p d l h e q) (Z':Nat->Prop) (hz: ∀k,Z' k->R.Z k\/(w.heap.size<=k/\k<w'.heap.size)):Rd B g L w' {R with Z:=Z'} p d l h e q:=by
 refine ⟨⟨H'.box,H'.toks,H'.Jh,H'.told,H'.ty,H'.own,H'.hts,H'.kids,H'.off,H'.old,H'.fin,H'.many,H'.tabs,H'.base,λk hk=> ?_⟩,H'.len,H'.here,H'.few,H'.low⟩;rcases hz k hk with h1 |⟨h1,h2⟩
 ·exact H'.zone k h1
 ·exact ⟨h2,λe=>by have:=(H.hts.lt k e).2;omega,λx hx e=>by have:=((H.kids x hx).lt k e).2;omega⟩
theorem Good.wider {B g B' n:Nat} {L:List Tk} {w W1 w':World} {R:Bx} {d:Nat} {s:PS} {v:Value} {xs:List Value} (H:Good B g L w R d s) (hW1:Below w.heap.size w W1) (hv:W1.ownsRow B' 3 1 v n xs) (hB':Vw<=B') (hz: ∀k,v.ownBlock=some k->R.Z k) (hg:W1.grownBy w' v.ownBlock) (Z':Nat->Prop) (hz': ∀k,Z' k->R.Z k\/(w.heap.size<=k/\k<w'.heap.size)):Good B g L w' {R with Z:=Z'} d s:=by obtain ⟨p,l,h,r⟩:=H;exact ⟨p,l,h.wider (h.foreign hW1 hv hB' hz hg) Z' hz',r⟩
theorem Bad.wider {B g B' n:Nat} {L:List Tk} {w W1 w':World} {R:Bx} {d:Nat} {f:Qq} {v:Value} {xs:List Value} (H:Bad B g L w R d f) (hW1:Below w.heap.size w W1) (hv:W1.ownsRow B' 3 1 v n xs) (hB':Vw<=B') (hz: ∀k,v.ownBlock=some k->R.Z k) (hg:W1.grownBy w' v.ownBlock) (Z':Nat->Prop) (hz': ∀k,Z' k->R.Z k\/(w.heap.size<=k/\k<w'.heap.size)):Bad B g L w' {R with Z:=Z'} d f:=by obtain ⟨p,l,h,H,r⟩:=H;exact ⟨p,l,h,H.wider (H.foreign hW1 hv hB' hz hg) Z' hz',r⟩
theorem Qd4 {L:List Tk} {p:Nat} (hp:p<L.length): ∃t,L[p]? =some t/\L.drop p=t::L.drop (p+1):=⟨L[p],Y3 hp,List.drop_eq_getElem_cons hp⟩
theorem Good.tok {B g:Nat} {L:List Tk} {w:World} {R:Bx} {d:Nat} {s:PS} (H:Good B g L w R d s): ∃p l,Rd B g L w R p (d:Int) l s.h 0 0/\s.r=L.drop p/\s.l=l.map bare/\L[p]? =some s.tok/\s.next.r=L.drop (p+1):=by
 obtain ⟨p,l,h,hr,hl⟩:=H;obtain ⟨t,h1,h2⟩:=Qd4 h.here;refine ⟨p,l,h,hr,hl,?_,?_⟩
 ·unfold PS.tok;rw [hr,h2];exact h1
 ·show s.r.tail=_;rw [hr,h2];rfl
variable {B g:Nat}{L:List Tk}{w:World}{R:Bx}{p:Nat}{d e q:Int}{l:List Nd}{h:List Nat}
theorem Core.c0 (H:Core B g L w R p d l h e q):w.cell? ⟨g,0,none⟩=some (.slice (some ⟨R.tb,0,none⟩) L.length R.tc):=H.box.at_ rfl
theorem Core.c1 (H:Core B g L w R p d l h e q):w.cell? ⟨g,1,none⟩=some (.int .i64 (p:Int)):=H.box.at_ rfl
theorem Core.c2 (H:Core B g L w R p d l h e q):w.cell? ⟨g,2,none⟩=some (.int .i64 d):=H.box.at_ rfl
theorem Core.c3 (H:Core B g L w R p d l h e q):w.cell? ⟨g,3,none⟩=some R.vn:=H.box.at_ rfl
theorem Core.c4 (H:Core B g L w R p d l h e q):w.cell? ⟨g,4,none⟩=some R.vh:=H.box.at_ rfl
theorem Core.c5 (H:Core B g L w R p d l h e q):w.cell? ⟨g,5,none⟩=some (.int .i64 e):=H.box.at_ rfl
theorem Core.c6 (H:Core B g L w R p d l h e q):w.cell? ⟨g,6,none⟩=some (.int .i64 q):=H.box.at_ rfl
theorem Held.t0 {a b c x:Value} {t:TypeId} (H:Held w g t #[a,b,c,x]):w.cell? ⟨g,0,none⟩=some a:=H.at_ rfl
theorem Held.t1 {a b c x:Value} {t:TypeId} (H:Held w g t #[a,b,c,x]):w.cell? ⟨g,1,none⟩=some b:=H.at_ rfl
theorem Held.t2 {a b c x:Value} {t:TypeId} (H:Held w g t #[a,b,c,x]):w.cell? ⟨g,2,none⟩=some c:=H.at_ rfl
theorem Held.t3 {a b c x:Value} {t:TypeId} (H:Held w g t #[a,b,c,x]):w.cell? ⟨g,3,none⟩=some x:=H.at_ rfl
end
end Go.Proofs.YtdncpkkhkbijfaaGreatDoor
