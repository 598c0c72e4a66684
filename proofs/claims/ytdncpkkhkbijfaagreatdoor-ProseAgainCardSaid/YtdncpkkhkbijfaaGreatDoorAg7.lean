import Derived.Test.YtdncpkkhkbijfaaGreatDoorAg2
set_option linter.all false
set_option maxHeartbeats 0
set_option maxRecDepth 100000
namespace Go.Proofs.YtdncpkkhkbijfaaGreatDoor
structure PS where
 r:List Tk
 l:List Nd
 h:List Nat
def PS.tok (s:PS):Tk:=s.r.headD ⟨0,[],0,0⟩
def sees (k:Tk) (t:List UInt8):Bool:=(k.kind==3||k.kind==4)&&k.text==t
def PS.is (s:PS) (t:List UInt8):Bool:=sees s.tok t
def PS.next (s:PS):PS:={s with r:=s.r.tail}
def En (kind:Int) (kids:List Int) (n:Int) (s:ByteArray) (at_:Int):Nd:=⟨kind,none,0,kids,n,s,at_⟩
abbrev Qq:=Nat×Nat
abbrev Out:=Except Qq (List Int×PS)
def hstep (h:List Nat) (a:Nat) (k:Int):Nat:=if 0<=k/\k<(h.length:Int)then max a (h.getD k.toNat 0+1)else a
def high (h:List Nat) (ks:List Int):Nat:=ks.foldl (hstep h) 1
def lay (x:Nd) (s:PS):Out:=
 if 200<high s.h x.kids then .error (4,x.at_.toNat)else .ok ([(s.l.length:Int)],⟨s.r,s.l++[x],s.h++[high s.h x.kids]⟩)
inductive Md where
 |chain (lv:Nat)
 |loop (lv:Nat) (left:Int)
 |front
 |idx
 |more (p:Int)
 |single
 |inner (a b:List UInt8)
 |call (nm:ByteArray) (at_:Nat)
 |args (acc:List Int)
def Zx (lv:Nat):Nat:=[1,2,3,9,13].getD lv 0
def Ag (lv:Nat):Nat:=[1,2,8,12,16].getD lv 0
def Lr (k:Tk) (a:Nat):Nat->Option Nat
 | 0=>none
 |n+1=>if sees k (Xu.getD a [])then some a else Lr k (a+1) n
def opAt (lv:Nat) (k:Tk):Option Nat:=Lr k (Zx lv) (Ag lv+1-Zx lv)
def Out.go (o:Option Out) (f:List Int->PS->Option Out):Option Out:=match o with
 |none=>none
 |some (.error e)=>some (.error e)
 |some (.ok (p,s))=>f p s
def hd1 (l:List Int):Int:=l.headD 0
def rp:List UInt8:=[41]
def lp:List UInt8:=[40]
def rb:List UInt8:=[93]
def lb:List UInt8:=[91]
def comma:List UInt8:=[44]
def minus:List UInt8:=[45]
def bang:List UInt8:=[33]
def Bz:List UInt8:=[116,114,117,101]
def Cv:List UInt8:=[102,97,108,115,101]
def Di:List UInt8:=[110,105,108]
def Ky:List UInt8:=[108,101,110]
def Ah:List UInt8:=[110,101,119]
def Qg:Nat->Md->Nat->PS->Option Out
 | 0,_,_,_=>none
 |n+1,.chain lv,d,s=>if lv=5 then Qg n .front d s else Out.go (Qg n (.chain (lv+1)) d s) λp s1=>Qg n (.loop lv (hd1 p)) d s1
 |n+1,.loop lv p,d,s=>match opAt lv s.tok with
  |none=>some (.ok ([p],s))
  |some op=>Out.go (Qg n (.chain (lv+1)) d s.next) λq s1=>Out.go (some (lay (En 5 [p,hd1 q] op ⟨#[]⟩ s.tok.place) s1)) λk s2=>if lv=2 then some (.ok (k,s2))else Qg n (.loop lv (hd1 k)) d s2
 |n+1,.front,d,s=>
  if s.is minus||s.is bang then
   (if 200<=d then some (.error (4,s.tok.place))
    else Out.go (Qg n .front (d+1) s.next) λq s1=>some (lay (En (if s.is minus then 6 else 7) [hd1 q] 0 ⟨#[]⟩ s.tok.place) s1))
  else Qg n .idx d s
 |n+1,.idx,d,s=>Out.go (Qg n .single d s) λp s1=>Qg n (.more (hd1 p)) d s1
 |n+1,.more p,d,s=>
  if s.is lb then Out.go (Qg n (.inner lb rb) d s) λq s1=>Out.go (some (lay (En 8 [p,hd1 q] 0 ⟨#[]⟩ s.tok.place) s1)) λk s2=>Qg n (.more (hd1 k)) d s2
  else some (.ok ([p],s))
 |n+1,.inner a b,d,s=>
  if s.is a then
   (if 200<=d then some (.error (4,s.tok.place))
    else Out.go (Qg n (.chain 0) (d+1) s.next) λp s1=>if s1.is b then some (.ok (p,s1.next))else some (.error (8,s1.tok.place)))
  else some (.error (8,s.tok.place))
 |n+1,.call nm at_,d,s=>
  if s.is lp then
   (if 200<=d then some (.error (4,s.tok.place))
    else Out.go (if s.next.is rp then some (.ok ([],s.next))else Qg n (.args []) (d+1) s.next) λl s1=>if s1.is rp then some (lay (En 11 l 0 nm at_) s1.next)else some (.error (8,s1.tok.place)))
  else some (.error (8,s.tok.place))
 |n+1,.args acc,d,s=>
  if acc.length=8 then some (.error (3,s.tok.place))
  else Out.go (Qg n (.chain 0) d s) λp s1=>if s1.is comma then Qg n (.args (acc++[hd1 p])) d s1.next else some (.ok (acc++[hd1 p],s1))
 |n+1,.single,d,s=>
  if s.is lp then Qg n (.inner lp rp) d s
  else if s.is Bz then some (lay (En 2 [] 1 ⟨#[]⟩ s.tok.place) s.next)
  else if s.is Cv then some (lay (En 2 [] 0 ⟨#[]⟩ s.tok.place) s.next)
  else if s.is Di then some (lay (En 3 [] 0 ⟨#[]⟩ s.tok.place) s.next)
  else if s.is Ky then Out.go (Qg n (.inner lp rp) d s.next) λq s1=>some (lay (En 9 [hd1 q] 0 ⟨#[]⟩ s.tok.place) s1)
  else if s.is Ah then Out.go (Qg n (.inner lp rp) d s.next) λq s1=>some (lay (En 10 [hd1 q] 0 ⟨#[]⟩ s.tok.place) s1)
  else if s.tok.kind=2 then some (lay (En 1 [] s.tok.n ⟨#[]⟩ s.tok.place) s.next)
  else if s.tok.kind=1 then
   (if s.next.is lp then Qg n (.call ⟨s.tok.text.toArray⟩ s.tok.place) d s.next else some (lay (En 4 [] 0 ⟨s.tok.text.toArray⟩ s.tok.place) s.next))
  else some (.error (8,s.tok.place))
theorem Aw {o o':Option Out} {f f':List Int->PS->Option Out} {v:Out} (h:Out.go o f=some v) (ho: ∀u,o=some u->o'=some u) (hf: ∀p s u,f p s=some u->f' p s=some u):Out.go o' f'=some v:=by
 cases o with
 |none=>cases h
 |some u=>
  rw [ho u rfl];cases u with
  |error e=>exact h
  |ok x=>exact hf _ _ _ h
theorem Tn: ∀(n:Nat) (m:Md) (d:Nat) (s:PS) (v:Out),Qg n m d s=some v->Qg (n+1) m d s=some v
 | 0,_,_,_,_,h=>by cases h
 |n+1,.chain lv,d,s,v,h=>by
  have ih:=Tn n;rw [Qg]at h ⊢;split at h
  ·rename_i g;rw [Qk g];exact ih _ _ _ _ h
  ·rename_i g;rw [Qd g];exact Aw h (λu=>ih _ _ _ u) (λp s u=>ih _ _ _ u)
 |n+1,.loop lv p,d,s,v,h=>by
  have ih:=Tn n;rw [Qg]at h ⊢;cases ho:opAt lv s.tok with
  |none=>rw [ho]at h;exact h
  |some op=>
   rw [ho]at h;refine Aw h (λu=>ih _ _ _ u) (λq s1 u hu=>Aw hu (λ_ e=>e) (λk s2 u2 h2=> ?_));split at h2
   ·rename_i g;rw [Qk g];exact h2
   ·rename_i g;rw [Qd g];exact ih _ _ _ _ h2
 |n+1,.front,d,s,v,h=>by
  have ih:=Tn n;rw [Qg]at h ⊢;split at h
  ·rename_i g;rw [Qk g];split at h
   ·rename_i g2;rw [Qk g2];exact h
   ·rename_i g2;rw [Qd g2];exact Aw h (λu=>ih _ _ _ u) (λ_ _ _ e=>e)
  ·rename_i g;rw [Qd g];exact ih _ _ _ _ h
 |n+1,.idx,d,s,v,h=>by have ih:=Tn n;rw [Qg]at h ⊢;exact Aw h (λu=>ih _ _ _ u) (λp s u=>ih _ _ _ u)
 |n+1,.more p,d,s,v,h=>by
  have ih:=Tn n;rw [Qg]at h ⊢;split at h
  ·rename_i g;rw [Qk g];exact Aw h (λu=>ih _ _ _ u) (λq s1 u hu=>Aw hu (λ_ e=>e) (λk s2 u2 h2=>ih _ _ _ _ h2))
  ·rename_i g;rw [Qd g];exact h
 |n+1,.inner a b,d,s,v,h=>by
  have ih:=Tn n;rw [Qg]at h ⊢;split at h
  ·rename_i g;rw [Qk g];split at h
   ·rename_i g2;rw [Qk g2];exact h
   ·rename_i g2;rw [Qd g2];exact Aw h (λu=>ih _ _ _ u) (λ_ _ _ e=>e)
  ·rename_i g;rw [Qd g];exact h
 |n+1,.call nm a,d,s,v,h=>by
  have ih:=Tn n;rw [Qg]at h ⊢;split at h
  ·rename_i g;rw [Qk g];split at h
   ·rename_i g2;rw [Qk g2];exact h
   ·rename_i g2;rw [Qd g2];refine Aw h (λu hu=> ?_) (λ_ _ _ e=>e);split at hu
    ·rename_i g3;rw [Qk g3];exact hu
    ·rename_i g3;rw [Qd g3];exact ih _ _ _ _ hu
  ·rename_i g;rw [Qd g];exact h
 |n+1,.args acc,d,s,v,h=>by
  have ih:=Tn n;rw [Qg]at h ⊢;split at h
  ·rename_i g;rw [Qk g];exact h
  ·rename_i g;rw [Qd g];refine Aw h (λu=>ih _ _ _ u) (λp s1 u hu=> ?_);split at hu
   ·rename_i g3;rw [Qk g3];exact ih _ _ _ _ hu
   ·rename_i g3;rw [Qd g3];exact hu
 |n+1,.single,d,s,v,h=>by
  have ih:=Tn n;rw [Qg]at h ⊢;split at h
  ·rename_i g;rw [Qk g];exact ih _ _ _ _ h
  rename_i g0;rw [Qd g0];split at h
  ·rename_i g;rw [Qk g];exact h
  rename_i g1;rw [Qd g1];split at h
  ·rename_i g;rw [Qk g];exact h
  rename_i g2;rw [Qd g2];split at h
  ·rename_i g;rw [Qk g];exact h
  rename_i g3;rw [Qd g3];split at h
  ·rename_i g;rw [Qk g];exact Aw h (λu=>ih _ _ _ u) (λ_ _ _ e=>e)
  rename_i g4;rw [Qd g4];split at h
  ·rename_i g;rw [Qk g];exact Aw h (λu=>ih _ _ _ u) (λ_ _ _ e=>e)
  rename_i g5;rw [Qd g5];split at h
  ·rename_i g;rw [Qk g];exact h
  rename_i g6;rw [Qd g6];split at h
  ·rename_i g;rw [Qk g];split at h
   ·rename_i g8;rw [Qk g8];exact ih _ _ _ _ h
   ·rename_i g8;rw [Qd g8];exact h
  ·rename_i g;rw [Qd g];exact h
theorem Hy {n m:Nat} {k:Md} {d:Nat} {s:PS} {v:Out} (h:Qg n k d s=some v) (hm:n<=m):Qg m k d s=some v:=by
 induction hm with
 |refl=>exact h
 |step _ ih=>exact Tn _ _ _ _ _ ih
def Reads (k:Md) (d:Nat) (s:PS) (v:Out):Prop:= ∃n,Qg n k d s=some v
theorem Reads.one {k:Md} {d:Nat} {s:PS} {v u:Out} (h:Reads k d s v) (g:Reads k d s u):v=u:=by obtain ⟨n,hn⟩:=h;obtain ⟨m,hm⟩:=g;have h1:=Hy hn (Nat.le_max_left n m);have h2:=Hy hm (Nat.le_max_right n m);rw [h1]at h2;exact Option.some.inj h2
section
variable {d:Nat}{s s1 s2:PS}{v:Out}{f:Qq}{lv:Nat}{p q k:Int}
theorem Reads.Qlb (h:Reads .front d s v):Reads (.chain 5) d s v:=by obtain ⟨n,hn⟩:=h;exact ⟨n+1,by rw [Qg,Qk rfl];exact hn⟩
theorem Reads.chain (hlv:lv≠5) (h:Reads (.chain (lv+1)) d s (.ok ([p],s1))) (g:Reads (.loop lv p) d s1 v):Reads (.chain lv) d s v:=by obtain ⟨n,hn⟩:=h;obtain ⟨m,hm⟩:=g;exact ⟨max n m+1,by rw [Qg,Qd hlv,Hy hn (Nat.le_max_left ..)];exact Hy hm (Nat.le_max_right ..)⟩
theorem Reads.Wp5 (hlv:lv≠5) (h:Reads (.chain (lv+1)) d s (.error f)):Reads (.chain lv) d s (.error f):=by obtain ⟨n,hn⟩:=h;exact ⟨n+1,by rw [Qg,Qd hlv,hn];rfl⟩
theorem Reads.Qa7 (h:opAt lv s.tok=none):Reads (.loop lv p) d s (.ok ([p],s)):=⟨1,by rw [Qg,h]⟩
theorem Reads.Q00 {op:Nat} (h:opAt lv s.tok=some op) (g:Reads (.chain (lv+1)) d s.next (.error f)):Reads (.loop lv p) d s (.error f):=by obtain ⟨n,hn⟩:=g;exact ⟨n+1,by rw [Qg,h];simp only [];rw [hn];rfl⟩
theorem Reads.Q2n {op:Nat} (h:opAt lv s.tok=some op) (g:Reads (.chain (lv+1)) d s.next (.ok ([q],s1))) (hl:lay (En 5 [p,q] op ⟨#[]⟩ s.tok.place) s1= .error f):Reads (.loop lv p) d s (.error f):=by obtain ⟨n,hn⟩:=g;refine ⟨n+1,?_⟩;rw [Qg,h];simp only [];rw [hn];show Out.go (some (lay (En 5 [p,q] op ⟨#[]⟩ s.tok.place) s1)) _=_;rw [hl];rfl
theorem Reads.Qno {op:Nat} (hv:lv=2) (h:opAt lv s.tok=some op) (g:Reads (.chain (lv+1)) d s.next (.ok ([q],s1))) (hl:lay (En 5 [p,q] op ⟨#[]⟩ s.tok.place) s1= .ok ([k],s2)):Reads (.loop lv p) d s (.ok ([k],s2)):=by obtain ⟨n,hn⟩:=g;refine ⟨n+1,?_⟩;rw [Qg,h];simp only [];rw [hn];show Out.go (some (lay (En 5 [p,q] op ⟨#[]⟩ s.tok.place) s1)) _=_;rw [hl];show (if lv=2 then _ else _)=_;rw [Qk hv]
theorem Reads.Qly {op:Nat} (hv:lv≠2) (h:opAt lv s.tok=some op) (g:Reads (.chain (lv+1)) d s.next (.ok ([q],s1))) (hl:lay (En 5 [p,q] op ⟨#[]⟩ s.tok.place) s1= .ok ([k],s2)) (r:Reads (.loop lv k) d s2 v):Reads (.loop lv p) d s v:=by obtain ⟨n,hn⟩:=g;obtain ⟨m,hm⟩:=r;refine ⟨max n m+1,?_⟩;rw [Qg,h];simp only [];rw [Hy hn (Nat.le_max_left ..)];show Out.go (some (lay (En 5 [p,q] op ⟨#[]⟩ s.tok.place) s1)) _=_;rw [hl];show (if lv=2 then _ else _)=_;rw [Qd hv];exact Hy hm (Nat.le_max_right ..)
theorem Reads.Qjx (h:s.is minus=false) (h':s.is bang=false) (g:Reads .idx d s v):Reads .front d s v:=by obtain ⟨n,hn⟩:=g;exact ⟨n+1,by rw [Qg,h,h'];exact hn⟩
theorem Reads.Qht (h:s.is minus=true\/s.is bang=true) (hd:200<=d):Reads .front d s (.error (4,s.tok.place)):=
 ⟨1,by rw [Qg,Qk (by simpa using h),Qk hd]⟩
theorem Reads.Wax (h:s.is minus=true\/s.is bang=true) (hd:d<200) (g:Reads .front (d+1) s.next (.error f)):Reads .front d s (.error f):=by obtain ⟨n,hn⟩:=g;exact ⟨n+1,by rw [Qg,Qk (by simpa using h),Qd (by omega),hn];rfl⟩
theorem Reads.Qrw (h:s.is minus=true\/s.is bang=true) (hd:d<200) (g:Reads .front (d+1) s.next (.ok ([q],s1))):Reads .front d s (lay (En (if s.is minus then 6 else 7) [q] 0 ⟨#[]⟩ s.tok.place) s1):=by obtain ⟨n,hn⟩:=g;exact ⟨n+1,by rw [Qg,Qk (by simpa using h),Qd (by omega),hn];rfl⟩
theorem Reads.idx (h:Reads .single d s (.ok ([p],s1))) (g:Reads (.more p) d s1 v):Reads .idx d s v:=by obtain ⟨n,hn⟩:=h;obtain ⟨m,hm⟩:=g;exact ⟨max n m+1,by rw [Qg,Hy hn (Nat.le_max_left ..)];exact Hy hm (Nat.le_max_right ..)⟩
theorem Reads.Wpi (h:Reads .single d s (.error f)):Reads .idx d s (.error f):=by obtain ⟨n,hn⟩:=h;exact ⟨n+1,by rw [Qg,hn];rfl⟩
theorem Reads.Qie (h:s.is lb=false):Reads (.more p) d s (.ok ([p],s)):=⟨1,by rw [Qg,h];rfl⟩
theorem Reads.Wia (h:s.is lb=true) (g:Reads (.inner lb rb) d s (.error f)):Reads (.more p) d s (.error f):=by obtain ⟨n,hn⟩:=g;exact ⟨n+1,by rw [Qg,Qk h,hn];rfl⟩
theorem Reads.Q9c (h:s.is lb=true) (g:Reads (.inner lb rb) d s (.ok ([q],s1))) (hl:lay (En 8 [p,q] 0 ⟨#[]⟩ s.tok.place) s1= .error f):Reads (.more p) d s (.error f):=by obtain ⟨n,hn⟩:=g;refine ⟨n+1,?_⟩;rw [Qg,Qk h,hn];show Out.go (some (lay (En 8 [p,q] 0 ⟨#[]⟩ s.tok.place) s1)) _=_;rw [hl];rfl
theorem Reads.Qa0 (h:s.is lb=true) (g:Reads (.inner lb rb) d s (.ok ([q],s1))) (hl:lay (En 8 [p,q] 0 ⟨#[]⟩ s.tok.place) s1= .ok ([k],s2)) (r:Reads (.more k) d s2 v):Reads (.more p) d s v:=by obtain ⟨n,hn⟩:=g;obtain ⟨m,hm⟩:=r;refine ⟨max n m+1,?_⟩;rw [Qg,Qk h,Hy hn (Nat.le_max_left ..)];show Out.go (some (lay (En 8 [p,q] 0 ⟨#[]⟩ s.tok.place) s1)) _=_;rw [hl];exact Hy hm (Nat.le_max_right ..)
variable {a b:List UInt8}
theorem Reads.Qyg (h:s.is a=false):Reads (.inner a b) d s (.error (8,s.tok.place)):=⟨1,by rw [Qg,h];rfl⟩
theorem Reads.Qxo (h:s.is a=true) (hd:200<=d):Reads (.inner a b) d s (.error (4,s.tok.place)):=⟨1,by rw [Qg,Qk h,Qk hd]⟩
theorem Reads.Wjq (h:s.is a=true) (hd:d<200) (g:Reads (.chain 0) (d+1) s.next (.error f)):Reads (.inner a b) d s (.error f):=by obtain ⟨n,hn⟩:=g;exact ⟨n+1,by rw [Qg,Qk h,Qd (by omega),hn];rfl⟩
theorem Reads.Wfe (h:s.is a=true) (hd:d<200) (g:Reads (.chain 0) (d+1) s.next (.ok ([p],s1))) (hb:s1.is b=false):Reads (.inner a b) d s (.error (8,s1.tok.place)):=by obtain ⟨n,hn⟩:=g;refine ⟨n+1,?_⟩;rw [Qg,Qk h,Qd (by omega),hn];show (if s1.is b=true then _ else _)=_;rw [hb];rfl
theorem Reads.Qcu (h:s.is a=true) (hd:d<200) (g:Reads (.chain 0) (d+1) s.next (.ok ([p],s1))) (hb:s1.is b=true):Reads (.inner a b) d s (.ok ([p],s1.next)):=by obtain ⟨n,hn⟩:=g;refine ⟨n+1,?_⟩;rw [Qg,Qk h,Qd (by omega),hn];show (if s1.is b=true then _ else _)=_;rw [Qk hb]
variable {nm:ByteArray}{at_:Nat}{l acc:List Int}
theorem Reads.Wap (h:s.is lp=false):Reads (.call nm at_) d s (.error (8,s.tok.place)):=⟨1,by rw [Qg,h];rfl⟩
theorem Reads.Whf (h:s.is lp=true) (hd:200<=d):Reads (.call nm at_) d s (.error (4,s.tok.place)):=⟨1,by rw [Qg,Qk h,Qk hd]⟩
theorem Reads.Q1y (h:s.is lp=true) (hd:d<200) (hr:s.next.is rp=true):Reads (.call nm at_) d s (lay (En 11 [] 0 nm at_) s.next.next):=by refine ⟨1,?_⟩;rw [Qg,Qk h,Qd (by omega),Qk hr];show (if s.next.is rp=true then _ else _)=_;rw [Qk hr]
theorem Reads.Wn6 (h:s.is lp=true) (hd:d<200) (hr:s.next.is rp=false) (g:Reads (.args []) (d+1) s.next (.error f)):Reads (.call nm at_) d s (.error f):=by obtain ⟨n,hn⟩:=g;refine ⟨n+1,?_⟩;rw [Qg,Qk h,Qd (by omega),Qd (by rw [hr];decide),hn];rfl
theorem Reads.Q9r (h:s.is lp=true) (hd:d<200) (hr:s.next.is rp=false) (g:Reads (.args []) (d+1) s.next (.ok (l,s1))) (hb:s1.is rp=false):Reads (.call nm at_) d s (.error (8,s1.tok.place)):=by obtain ⟨n,hn⟩:=g;refine ⟨n+1,?_⟩;rw [Qg,Qk h,Qd (by omega),Qd (by rw [hr];decide),hn];show (if s1.is rp=true then _ else _)=_;rw [hb];rfl
theorem Reads.Q2b (h:s.is lp=true) (hd:d<200) (hr:s.next.is rp=false) (g:Reads (.args []) (d+1) s.next (.ok (l,s1))) (hb:s1.is rp=true):Reads (.call nm at_) d s (lay (En 11 l 0 nm at_) s1.next):=by obtain ⟨n,hn⟩:=g;refine ⟨n+1,?_⟩;rw [Qg,Qk h,Qd (by omega),Qd (by rw [hr];decide),hn];show (if s1.is rp=true then _ else _)=_;rw [Qk hb]
theorem Reads.Qyq (h:acc.length=8):Reads (.args acc) d s (.error (3,s.tok.place)):=⟨1,by rw [Qg,Qk h]⟩
theorem Reads.Wmh (h:acc.length≠8) (g:Reads (.chain 0) d s (.error f)):Reads (.args acc) d s (.error f):=by obtain ⟨n,hn⟩:=g;exact ⟨n+1,by rw [Qg,Qd h,hn];rfl⟩
theorem Reads.Q2k (h:acc.length≠8) (g:Reads (.chain 0) d s (.ok ([p],s1))) (hc:s1.is comma=false):Reads (.args acc) d s (.ok (acc++[p],s1)):=by obtain ⟨n,hn⟩:=g;refine ⟨n+1,?_⟩;rw [Qg,Qd h,hn];show (if s1.is comma=true then _ else _)=_;rw [hc];rfl
theorem Reads.Qwl (h:acc.length≠8) (g:Reads (.chain 0) d s (.ok ([p],s1))) (hc:s1.is comma=true) (r:Reads (.args (acc++[p])) d s1.next v):Reads (.args acc) d s v:=by obtain ⟨n,hn⟩:=g;obtain ⟨m,hm⟩:=r;refine ⟨max n m+1,?_⟩;rw [Qg,Qd h,Hy hn (Nat.le_max_left ..)];show (if s1.is comma=true then _ else _)=_;rw [Qk hc];exact Hy hm (Nat.le_max_right ..)
def sg (t:Tk):Nat:=
 if sees t lp then 1 else if sees t Bz then 2 else if sees t Cv then 3 else if sees t Di then 4 else if sees t Ky then 5 else if sees t Ah then 6 else if t.kind=2 then 7 else if t.kind=1 then 8 else 0
theorem Eh (n d:Nat) (s:PS):Qg (n+1) .single d s=(match sg s.tok with
  | 1=>Qg n (.inner lp rp) d s
  | 2=>some (lay (En 2 [] 1 ⟨#[]⟩ s.tok.place) s.next)
  | 3=>some (lay (En 2 [] 0 ⟨#[]⟩ s.tok.place) s.next)
  | 4=>some (lay (En 3 [] 0 ⟨#[]⟩ s.tok.place) s.next)
  | 5=>Out.go (Qg n (.inner lp rp) d s.next) λq s1=>some (lay (En 9 [hd1 q] 0 ⟨#[]⟩ s.tok.place) s1)
  | 6=>Out.go (Qg n (.inner lp rp) d s.next) λq s1=>some (lay (En 10 [hd1 q] 0 ⟨#[]⟩ s.tok.place) s1)
  | 7=>some (lay (En 1 [] s.tok.n ⟨#[]⟩ s.tok.place) s.next)
  | 8=>(if s.next.is lp then Qg n (.call ⟨s.tok.text.toArray⟩ s.tok.place) d s.next else some (lay (En 4 [] 0 ⟨s.tok.text.toArray⟩ s.tok.place) s.next))
  |_=>some (.error (8,s.tok.place))):=by
 rw [Qg];unfold sg PS.is;by_cases h1:sees s.tok lp=true
 ·simp only [Qk h1]
 by_cases h2:sees s.tok Bz=true
 ·simp only [Qd h1,Qk h2]
 by_cases h3:sees s.tok Cv=true
 ·simp only [Qd h1,Qd h2,Qk h3]
 by_cases h4:sees s.tok Di=true
 ·simp only [Qd h1,Qd h2,Qd h3,Qk h4]
 by_cases h5:sees s.tok Ky=true
 ·simp only [Qd h1,Qd h2,Qd h3,Qd h4,Qk h5]
 by_cases h6:sees s.tok Ah=true
 ·simp only [Qd h1,Qd h2,Qd h3,Qd h4,Qd h5,Qk h6]
 by_cases h7:s.tok.kind=2
 ·simp only [Qd h1,Qd h2,Qd h3,Qd h4,Qd h5,Qd h6,Qk h7]
 by_cases h8:s.tok.kind=1
 ·simp only [Qd h1,Qd h2,Qd h3,Qd h4,Qd h5,Qd h6,Qd h7,Qk h8]
 ·simp only [Qd h1,Qd h2,Qd h3,Qd h4,Qd h5,Qd h6,Qd h7,Qd h8]
theorem Reads.Qw2 (h:sg s.tok=1) (g:Reads (.inner lp rp) d s v):Reads .single d s v:=by obtain ⟨n,hn⟩:=g;exact ⟨n+1,by rw [Eh,h];exact hn⟩
theorem Reads.Qsj (h:sg s.tok=2):Reads .single d s (lay (En 2 [] 1 ⟨#[]⟩ s.tok.place) s.next):=⟨1,by rw [Eh,h];rfl⟩
theorem Reads.Qs1 (h:sg s.tok=3):Reads .single d s (lay (En 2 [] 0 ⟨#[]⟩ s.tok.place) s.next):=⟨1,by rw [Eh,h];rfl⟩
theorem Reads.Qrl (h:sg s.tok=4):Reads .single d s (lay (En 3 [] 0 ⟨#[]⟩ s.tok.place) s.next):=⟨1,by rw [Eh,h];rfl⟩
theorem Reads.Qss (h:sg s.tok=7):Reads .single d s (lay (En 1 [] s.tok.n ⟨#[]⟩ s.tok.place) s.next):=⟨1,by rw [Eh,h];rfl⟩
def Qbu (j:Nat):Int:=if j=5 then 9 else 10
theorem Reads.Q7z {j:Nat} (hj:j=5\/j=6) (h:sg s.tok=j) (g:Reads (.inner lp rp) d s.next (.error f)):Reads .single d s (.error f):=by
 obtain ⟨n,hn⟩:=g;rcases hj with rfl |rfl
 ·exact ⟨n+1,by rw [Eh,h];simp only [];rw [hn];rfl⟩
 ·exact ⟨n+1,by rw [Eh,h];simp only [];rw [hn];rfl⟩
theorem Reads.Qfb {j:Nat} (hj:j=5\/j=6) (h:sg s.tok=j) (g:Reads (.inner lp rp) d s.next (.ok ([q],s1))):Reads .single d s (lay (En (Qbu j) [q] 0 ⟨#[]⟩ s.tok.place) s1):=by
 obtain ⟨n,hn⟩:=g;rcases hj with rfl |rfl
 ·exact ⟨n+1,by rw [Eh,h];simp only [];rw [hn];rfl⟩
 ·exact ⟨n+1,by rw [Eh,h];simp only [];rw [hn];rfl⟩
theorem Reads.Qza (h:sg s.tok=8) (hp:s.next.is lp=true) (g:Reads (.call ⟨s.tok.text.toArray⟩ s.tok.place) d s.next v):Reads .single d s v:=by obtain ⟨n,hn⟩:=g;exact ⟨n+1,by rw [Eh,h];simp only [];rw [Qk hp];exact hn⟩
theorem Reads.Qmz (h:sg s.tok=8) (hp:s.next.is lp=false):Reads .single d s (lay (En 4 [] 0 ⟨s.tok.text.toArray⟩ s.tok.place) s.next):=by exact ⟨1,by rw [Eh,h];simp only [];rw [hp];rfl⟩
theorem Reads.Q71 (h:sg s.tok=0):Reads .single d s (.error (8,s.tok.place)):=⟨1,by rw [Eh,h];rfl⟩
def Fq (s:PS) (v:Out):Prop:= ∀l s',v= .ok (l,s')->s'.l.length+s'.r.length<=s.l.length+s.r.length/\s'.r.length<=s.r.length/\(s.h.length=s.l.length->s'.h.length=s'.l.length)
theorem Fq.err (e:Qq):Fq s (.error e):=λl s' h=>by cases h
theorem Fq.ok {l:List Int}:Fq s (.ok (l,s)):=λl s' h=>by cases h;exact ⟨Qh _,Qh _,id⟩
theorem Fq.next (h:s.next.r.length+1=s.r.length) {v:Out} (hv:Fq s.next v):Fq s v:=λl s' e=>by obtain ⟨h1,h2,h3⟩:=hv l s' e;have e1:s.next.l=s.l:=rfl;have e2:s.next.h=s.h:=rfl;rw [e1]at h1 h3;rw [e2]at h3;exact ⟨by omega,by omega,h3⟩
theorem Qbq {x:Nd} {l:List Int} {s':PS} (h:lay x s= .ok (l,s')):s'.l.length=s.l.length+1/\s'.r=s.r/\(s.h.length=s.l.length->s'.h.length=s'.l.length)/\l=[(s.l.length:Int)]:=by
 unfold lay at h;split at h
 ·cases h
 ·injection h with h
  injection h with h1 h2
  subst h1 h2;exact ⟨by simp,rfl,λe=>by simp [e],rfl⟩
theorem Fq.lay {x:Nd} (h1:s1.l.length+s1.r.length+1<=s.l.length+s.r.length) (h2:s1.r.length<=s.r.length) (h3:s.h.length=s.l.length->s1.h.length=s1.l.length):Fq s (lay x s1):=λl s' e=>by obtain ⟨a,b,c,_⟩:=Qbq e;rw [b];exact ⟨by omega,h2,λe=>c (h3 e)⟩
theorem Ii {t:List UInt8} (h:s.is t=true):s.next.r.length+1=s.r.length:=by
 unfold PS.is PS.tok at h;cases hr:s.r with
 |nil=>rw [hr]at h;simp [sees]at h
 |cons t r=>unfold PS.next;rw [hr];rfl
theorem Qgp (h:s.tok.kind≠0):s.next.r.length+1=s.r.length:=by
 unfold PS.tok at h;cases hr:s.r with
 |nil=>rw [hr]at h;exact absurd rfl h
 |cons t r=>unfold PS.next;rw [hr];rfl
theorem Qpb {t:Tk}: ∀(n a:Nat) {o:Nat},Lr t a n=some o->sees t (Xu.getD o [])=true/\a<=o/\o<a+n
 | 0,_,_,h=>by cases h
 |n+1,a,o,h=>by
  unfold Lr at h;split at h
  ·injection h with h;subst h;exact ⟨by assumption,Qh _,by omega⟩
  ·have:=Qpb n (a+1) h;exact ⟨this.1,by omega,by omega⟩
theorem Qx1 {t:Tk} {o:Nat} (h:opAt lv t=some o):sees t (Xu.getD o [])=true:=(Qpb _ _ h).1
theorem go_ok {o:Option Out} {f:List Int->PS->Option Out} {v:Out} (h:Out.go o f=some v):(∃e,o=some (.error e)/\v= .error e)\/ ∃p s1,o=some (.ok (p,s1))/\f p s1=some v:=by
 cases o with
 |none=>cases h
 |some u=>
  cases u with
  |error e=>injection h with h;exact .inl ⟨e,rfl,h.symm⟩
  |ok x=>obtain ⟨p,s1⟩:=x;exact .inr ⟨p,s1,rfl,h⟩
theorem Lg: ∀(n:Nat) (m:Md) (d:Nat) (s:PS) (v:Out),Qg n m d s=some v->Fq s v
 | 0,_,_,_,_,h=>by cases h
 |n+1,.chain lv,d,s,v,h=>by
  have ih:=Lg n;rw [Qg]at h;split at h
  ·exact ih _ _ _ _ h
  ·rcases go_ok h with ⟨e,_,rfl⟩ |⟨p,s1,h1,h2⟩
   ·exact .err e
   ·have a:=ih _ _ _ _ h1 _ _ rfl;intro l s' e;have b:=ih _ _ _ _ h2 l s' e;exact ⟨by omega,by omega,λx=>b.2.2 (a.2.2 x)⟩
 |n+1,.loop lv p,d,s,v,h=>by
  have ih:=Lg n;rw [Qg]at h;cases ho:opAt lv s.tok with
  |none=>rw [ho]at h;injection h with h;subst h;exact .ok
  |some op=>
   rw [ho]at h;have hs:=Ii (s:=s) (Qx1 ho);rcases go_ok h with ⟨e,_,rfl⟩ |⟨q,s1,h1,h2⟩
   ·exact .err e
   ·have a:=Fq.next hs (ih _ _ _ _ h1) _ _ rfl;have a':=ih _ _ _ _ h1 _ _ rfl;have e1:s.next.l=s.l:=rfl;rw [e1]at a';rcases go_ok h2 with ⟨e,_,rfl⟩ |⟨k,s2,h3,h4⟩
    ·exact .err e
    ·injection h3 with h3
     have c:=Qbq h3;split at h4
     ·injection h4 with h4;subst h4
      intro l s' e;cases e;rw [c.2.1];exact ⟨by omega,by omega,λx=>c.2.2.1 (a.2.2 x)⟩
     ·intro l s' e;have b:=ih _ _ _ _ h4 l s' e;rw [c.2.1]at b;exact ⟨by omega,by omega,λx=>b.2.2 (c.2.2.1 (a.2.2 x))⟩
 |n+1,.front,d,s,v,h=>by
  have ih:=Lg n;rw [Qg]at h;split at h
  ·rename_i g;have hs:s.next.r.length+1=s.r.length:=by
    rw [Bool.or_eq_true]at g;rcases g with g |g
    ·exact Ii g
    ·exact Ii g
   split at h
   ·injection h with h;subst h;exact .err _
   ·rcases go_ok h with ⟨e,_,rfl⟩ |⟨q,s1,h1,h2⟩
    ·exact .err e
    ·have a:=ih _ _ _ _ h1 _ _ rfl;have e1:s.next.l=s.l:=rfl;have e2:s.next.h=s.h:=rfl;rw [e1,e2]at a;injection h2 with h2
     subst h2;exact .lay (by omega) (by omega) a.2.2
  ·exact ih _ _ _ _ h
 |n+1,.idx,d,s,v,h=>by
  have ih:=Lg n;rw [Qg]at h;rcases go_ok h with ⟨e,_,rfl⟩ |⟨p,s1,h1,h2⟩
  ·exact .err e
  ·have a:=ih _ _ _ _ h1 _ _ rfl;intro l s' e;have b:=ih _ _ _ _ h2 l s' e;exact ⟨by omega,by omega,λx=>b.2.2 (a.2.2 x)⟩
 |n+1,.more p,d,s,v,h=>by
  have ih:=Lg n;rw [Qg]at h;split at h
  ·rename_i g;rcases go_ok h with ⟨e,_,rfl⟩ |⟨q,s1,h1,h2⟩
   ·exact .err e
   ·have hi:s1.l.length+s1.r.length+1<=s.l.length+s.r.length/\s1.r.length<=s.r.length/\(s.h.length=s.l.length->s1.h.length=s1.l.length):=by
     cases n with
     |zero=>cases h1
     |succ n=>
      rw [Qg,Qk g]at h1;have hs:=Ii g;split at h1
      ·cases h1
      ·rcases go_ok h1 with ⟨e,_,he⟩ |⟨p2,s3,h3,h4⟩
       ·cases he
       ·have a:=Lg n _ _ _ _ h3 _ _ rfl;have e1:s.next.l=s.l:=rfl;have e2:s.next.h=s.h:=rfl;rw [e1,e2]at a;split at h4
        ·rename_i g2;have hs2:=Ii g2;injection h4 with h4
         injection h4 with h4
         injection h4 with _ h5
         subst h5;have e3:s3.next.l=s3.l:=rfl;have e4:s3.next.h=s3.h:=rfl;rw [e3,e4];exact ⟨by omega,by omega,a.2.2⟩
        ·cases h4
    rcases go_ok h2 with ⟨e,_,rfl⟩ |⟨k,s2,h3,h4⟩
    ·exact .err e
    ·injection h3 with h3
     have c:=Qbq h3;intro l s' e;have b:=ih _ _ _ _ h4 l s' e;rw [c.2.1]at b;exact ⟨by omega,by omega,λx=>b.2.2 (c.2.2.1 (hi.2.2 x))⟩
  ·injection h with h;subst h;exact .ok
 |n+1,.inner a b,d,s,v,h=>by
  have ih:=Lg n;rw [Qg]at h;split at h
  ·rename_i g;have hs:=Ii g;split at h
   ·injection h with h;subst h;exact .err _
   ·rcases go_ok h with ⟨e,_,rfl⟩ |⟨q,s1,h1,h2⟩
    ·exact .err e
    ·have a:=Fq.next hs (ih _ _ _ _ h1) _ _ rfl;split at h2
     ·rename_i g2;have hs2:=Ii g2;injection h2 with h2
      subst h2;intro l s' e;cases e;have e1:s1.next.l=s1.l:=rfl;have e2:s1.next.h=s1.h:=rfl;rw [e1,e2];exact ⟨by omega,by omega,a.2.2⟩
     ·injection h2 with h2;subst h2;exact .err _
  ·injection h with h;subst h;exact .err _
 |n+1,.call nm at_,d,s,v,h=>by
  have ih:=Lg n;rw [Qg]at h;split at h
  ·rename_i g;have hs:=Ii g;split at h
   ·injection h with h;subst h;exact .err _
   ·rcases go_ok h with ⟨e,_,rfl⟩ |⟨q,s1,h1,h2⟩
    ·exact .err e
    ·have a':Fq s.next (.ok (q,s1)):=by
      split at h1
      ·injection h1 with h1;injection h1 with h1;injection h1 with h3 h4;subst h3 h4;exact .ok
      ·exact ih _ _ _ _ h1
     have a:=Fq.next hs a' _ _ rfl;split at h2
     ·rename_i g2;have hs2:=Ii g2;injection h2 with h2
      subst h2;have e1:s1.next.l=s1.l:=rfl;have e2:s1.next.h=s1.h:=rfl;exact .lay (by rw [e1];omega) (by omega) (by rw [e1,e2];exact a.2.2)
     ·injection h2 with h2;subst h2;exact .err _
  ·injection h with h;subst h;exact .err _
 |n+1,.args acc,d,s,v,h=>by
  have ih:=Lg n;rw [Qg]at h;split at h
  ·injection h with h;subst h;exact .err _
  ·rcases go_ok h with ⟨e,_,rfl⟩ |⟨p,s1,h1,h2⟩
   ·exact .err e
   ·have a:=ih _ _ _ _ h1 _ _ rfl;split at h2
    ·rename_i g2;have hs2:=Ii g2;intro l s' e;have b:=Fq.next hs2 (ih _ _ _ _ h2) l s' e;exact ⟨by omega,by omega,λx=>b.2.2 (a.2.2 x)⟩
    ·injection h2 with h2;subst h2
     intro l s' e;cases e;exact a
 |n+1,.single,d,s,v,h=>by
  have ih:=Lg n;rw [Eh]at h;have hk:sg s.tok≠0->s.next.r.length+1=s.r.length:=by intro h0;refine Qgp (λe=>h0 ?_);unfold sg sees;rw [e];rfl
  have e1:s.next.l=s.l:=rfl;have e2:s.next.h=s.h:=rfl;have leaf:sg s.tok≠0-> ∀x,some (lay x s.next)=some v->Fq s v:=by
   intro h0 x hx;injection hx with hx
   subst hx;have:=hk h0;exact .lay (by rw [e1];omega) (by omega) (by rw [e1,e2];exact id)
  have Qh9:sg s.tok≠0-> ∀K,(Out.go (Qg n (.inner lp rp) d s.next) λq s1=>some (lay (En K [hd1 q] 0 ⟨#[]⟩ s.tok.place) s1))=some v->Fq s v:=by
   intro h0 K hx;have hs:=hk h0;rcases go_ok hx with ⟨e,_,rfl⟩ |⟨q,s1,h1,h2⟩
   ·exact .err e
   ·have a:=ih _ _ _ _ h1 _ _ rfl;rw [e1,e2]at a;injection h2 with h2
    subst h2;exact .lay (by omega) (by omega) a.2.2
  split at h
  ·exact ih _ _ _ _ h
  ·rename_i hg;exact leaf (by rw [hg];decide) _ h
  ·rename_i hg;exact leaf (by rw [hg];decide) _ h
  ·rename_i hg;exact leaf (by rw [hg];decide) _ h
  ·rename_i hg;exact Qh9 (by rw [hg];decide) _ h
  ·rename_i hg;exact Qh9 (by rw [hg];decide) _ h
  ·rename_i hg;exact leaf (by rw [hg];decide) _ h
  ·rename_i hg;have hs:=hk (by rw [hg];decide);split at h
   ·exact Fq.next hs (ih _ _ _ _ h)
   ·exact leaf (by rw [hg];decide) _ h
  ·injection h with h;subst h;exact .err _
theorem Reads.N7 {m:Md} {l:List Int} {s':PS} (h:Reads m d s (.ok (l,s'))):s'.l.length+s'.r.length<=s.l.length+s.r.length/\s'.r.length<=s.r.length/\(s.h.length=s.l.length->s'.h.length=s'.l.length):=by obtain ⟨n,hn⟩:=h;exact Lg n _ _ _ _ hn _ _ rfl
end
section
theorem Qju {A C:List Nd} {i:Nat} (h:i<A.length):nd (A++C) i=nd A i:=by unfold nd;rw [Yc,Yc,Qg1 h]
theorem Qk2 {A:List Nd} {x:Nd}:nd (A++[x]) A.length=x:=by unfold nd;rw [Yc,Ht (Qh _),Nat.sub_self];rfl
def Fb (l:List Nd):List Int:=l.flatMap (λx=>x.kids)
theorem Wma (l:List Nd) (x:Nd):Fb (l++[x])=Fb l++x.kids:=by unfold Fb;rw [List.flatMap_append];simp
theorem Q8g (l:List Nd):Jc l l.length=Fb l:=by unfold Jc Fb;rw [List.take_length]
def rng (n:Nat):List Int:=(List.range n).map Int.ofNat
theorem Wfk (n:Nat):rng (n+1)=rng n++[(n:Int)]:=by unfold rng;rw [List.range_succ,Zp];rfl
theorem Q7b {n:Nat} {z:Int}:z∈rng n↔0<=z/\z<(n:Int):=by
 unfold rng;rw [List.mem_map];constructor
 ·rintro ⟨i,hi,rfl⟩;have:=List.mem_range.1 hi;exact ⟨Int.natCast_nonneg i,by show (i:Int)<_;omega⟩
 ·rintro ⟨h1,h2⟩;exact ⟨z.toNat,List.mem_range.2 (by omega),by show ((z.toNat:Nat):Int)=z;omega⟩
theorem Ahead.snoc {l:List Nd} {x:Nd} (h:Ahead l) (hx: ∀k∈x.kids,0<=k/\k<(l.length:Int)):Ahead (l++[x]):=by
 intro i hi k hk;rw [Qf]at hi;have hi':i<l.length+1:=hi;rcases V7 i l.length with g |g
 ·rw [Qju g]at hk;exact h i g k hk
 ·have e:i=l.length:=by omega
  subst e;rw [Qk2]at hk;exact hx k hk
theorem Qx5 {l:List Nd} {x:Nd} (h:Ahead l) (h':Ahead (l++[x])): ∀n i,i<n->i<l.length->hgt (l++[x]) i=hgt l i:=by
 intro n
 induction n with
 |zero=>intro i h;omega
 |succ n ih=>
  intro i hn hi;rw [Qf4 h' (by rw [Qf];omega),Qf4 h hi,Qju hi];congr 1;apply List.map_congr_left;intro k hk;have:=h i hi k hk;exact ih k.toNat (by omega) (by omega)
theorem Q3t {h:List Nat} {l:List Nd} (hh: ∀i,i<l.length->h.getD i 0=hgt l i) (hn:h.length=l.length): ∀(ks:List Int) (a:Nat),(∀k∈ks,0<=k/\k<(l.length:Int))->ks.foldl (hstep h) a=(ks.map (λk=>hgt l k.toNat)).foldl (λh x=>max h (1+x)) a
 | [],a,_=>rfl
 |k::ks,a,hk=>by
  have h1:=hk k (List.mem_cons_self ..);have e:hstep h a k=max a (1+hgt l k.toNat):=by unfold hstep;rw [Qk ⟨h1.1,by rw [hn];exact h1.2⟩,hh k.toNat (by omega),Nat.add_comm]
  show ks.foldl (hstep h) (hstep h a k)=_;rw [e];exact Q3t hh hn ks _ (λk hk'=>hk k (Iy _ hk'))
structure I8 (L:List Tk):Prop where
 fin: ∀j t,L[j]? =some t->t.kind≠0->j+1<L.length
 name: ∀t∈L,t.kind=1->Xa t.text=true
 num: ∀t∈L,t.n<=9223372036854775807
structure Wx (St:Int->Prop) (L:List Tk) (s:PS) (ps:List Int):Prop where
 suf: ∃j,j<L.length/\s.r=L.drop j
 fo:(Fb s.l++ps).Perm (rng s.l.length)
 ahead:Ahead s.l
 hn:s.h.length=s.l.length
 hh: ∀i,i<s.l.length->s.h.getD i 0=hgt s.l i
 low: ∀i,i<s.l.length->hgt s.l i<=200
 fit: ∀i,i<s.l.length->J7 s.l (nd s.l i)=true
 stand: ∀x∈s.l,St x.at_
 nums: ∀x∈s.l,0<=x.n/\x.n<=9223372036854775807
variable {St:Int→Prop}{L:List Tk}{s s1 s2:PS}{ps:List Int}
theorem Wx.tok (h:Wx St L s ps): ∃j,L[j]? =some s.tok/\s.r=L.drop j/\s.tok∈L:=by
 obtain ⟨j,hj,hr⟩:=h.suf;have e:L.drop j=L[j]::L.drop (j+1):=List.drop_eq_getElem_cons hj;have et:s.tok=L[j]:=by unfold PS.tok;rw [hr,e];rfl
 exact ⟨j,by rw [et];exact Y3 hj,hr,by rw [et];exact F5 _⟩
theorem Wx.Jq (h:Wx St L s ps):s.tok∈L:=by obtain ⟨_,_,_,h⟩:=h.tok;exact h
theorem Wx.next (hL:I8 L) (h:Wx St L s ps) (hk:s.tok.kind≠0):Wx St L s.next ps:=by obtain ⟨j,hj,hr,_⟩:=h.tok;have:=hL.fin j _ hj hk;refine ⟨⟨j+1,this,?_⟩,h.fo,h.ahead,h.hn,h.hh,h.low,h.fit,h.stand,h.nums⟩;show s.r.tail=_;rw [hr,List.tail_drop]
theorem Q2s {t:Tk} {b:List UInt8} (h:sees t b=true):t.kind≠0:=by unfold sees at h;simp at h;omega
theorem Wx.Ml (hL:I8 L) (h:Wx St L s ps) {b:List UInt8} (hb:s.is b=true):Wx St L s.next ps:=h.next hL (Q2s hb)
theorem Wx.mem (h:Wx St L s ps) {k:Int} (hk:k∈ps):0<=k/\k<(s.l.length:Int):=Q7b.1 (h.fo.subset (List.mem_append_right _ hk))
theorem Uu (h:Wx St L s ps):Wx St L s (ps++[]):=by rw [Xe];exact h
def Ext (s s':PS):Prop:= ∃r,s'.l=s.l++r
theorem Ext.refl (s:PS):Ext s s:=⟨[],(Xe _).symm⟩
theorem Ext.of_next:Ext s s.next:=⟨[],(Xe _).symm⟩
theorem Ext.trans (h:Ext s s1) (g:Ext s1 s2):Ext s s2:=by obtain ⟨r,e⟩:=h;obtain ⟨r',e'⟩:=g;exact ⟨r++r',by rw [e',e,Qy]⟩
theorem Ext.Hr (h:Ext s s1):Ext s s1.next:=h.trans .of_next
def Ws (s:PS) (p:Int):Int:=(nd s.l p.toNat).kind
theorem Ext.kd (h:Ext s s1) {p:Int} (hp:0<=p/\p<(s.l.length:Int)):Ws s1 p=Ws s p:=by obtain ⟨r,e⟩:=h;unfold Ws;rw [e,Qju (by omega)]
theorem Ext.I6 (h:Ext s s1) (hi:Wx St L s ps) {p:Int} (hp:p∈ps):Ws s1 p=Ws s p:=h.kd (hi.mem hp)
structure Em (St:Int->Prop) (s:PS) (x:Nd):Prop where
 own:ownB x=true
 kids:Y9 x.kind (x.kids.map (Ws s))=true
 stand:St x.at_
 nums:0<=x.n/\x.n<=9223372036854775807
structure Qgd (St:Int->Prop) (L:List Tk) (s:PS) (ps:List Int) (x:Nd) (l:List Int) (s':PS):Prop where
 inv:Wx St L s' (ps++l)
 root: ∃p,l=[p]/\Ws s' p=x.kind
 ext:Ext s s'
def Qfy (St:Int->Prop) (L:List Tk) (s:PS) (ps:List Int) (x:Nd) (v:Out):Prop:=match v with
 | .ok (l,s')=>Qgd St L s ps x l s'
 | .error f=>St (f.2:Int)
theorem Wx.lay {x:Nd} {qs:List Int} (h:Wx St L s (ps++qs)) (hx:x.kids=qs) (ho:Em St s x) (ha:0<=x.at_):Qfy St L s ps x (lay x s):=by
 have hq: ∀k∈x.kids,0<=k/\k<(s.l.length:Int):=λk hk=>h.mem (List.mem_append_right _ (by rw [<-hx];exact hk));unfold Go.Proofs.YtdncpkkhkbijfaaGreatDoor.lay;split
 ·show St ((x.at_.toNat:Nat):Int);rw [show ((x.at_.toNat:Nat):Int)=x.at_ by omega];exact ho.stand
 ·rename_i hh;have hA:=h.ahead.snoc hq;have hnew:hgt (s.l++[x]) s.l.length=high s.h x.kids:=by rw [Qf4 hA (by simp),Qk2];unfold high;rw [Q3t h.hh h.hn x.kids 1 hq];congr 1;apply List.map_congr_left;intro k hk;have:=hq k hk;exact Qx5 h.ahead hA (k.toNat+1) k.toNat (by omega) (by omega)
  have hold: ∀i,i<s.l.length->hgt (s.l++[x]) i=hgt s.l i:=λi hi=>Qx5 h.ahead hA (i+1) i (by omega) hi;have hlen: ∀i,i<(s.l++[x]).length->i<s.l.length\/i=s.l.length:=λi hi=>by rw [Qf]at hi;have:i<s.l.length+1:=hi;omega
  have hkk: ∀y:Nd,(∀k∈y.kids,0<=k/\k<(s.l.length:Int))->kk (s.l++[x]) y=kk s.l y:=by intro y hy;unfold kk;apply List.map_congr_left;intro k hk;have:=hy k hk;rw [Qju (by omega)]
  refine ⟨⟨h.suf,?_,hA,?_,?_,?_,?_,?_,?_⟩,⟨_,rfl,?_⟩,⟨[x],rfl⟩⟩
  ·show (Fb (s.l++[x])++(ps++[(s.l.length:Int)])).Perm (rng (s.l++[x]).length);rw [Wma,Qf,show [x].length=1 from rfl,Wfk,hx];have h1:=h.fo;have h2:(Fb s.l++qs++(ps++[(s.l.length:Int)])).Perm (Fb s.l++(ps++qs)++[(s.l.length:Int)]):=by rw [Qy,Qy,<-Qy qs ps];exact List.Perm.append_left _ (List.Perm.append_right _ List.perm_append_comm)
   exact h2.trans (List.Perm.append_right _ h1)
  ·show (s.h++[_]).length=(s.l++[x]).length;rw [Qf,Qf,h.hn];rfl
  ·intro i hi;show (s.h++[high s.h x.kids]).getD i 0=_;rcases hlen i hi with g |g
   ·rw [hold i g,<-h.hh i g,Yc,Qg1 (by rw [h.hn];exact g),<-Yc]
   ·subst g;show _=hgt (s.l++[x]) s.l.length;rw [hnew,Yc,Ht (by rw [h.hn];exact Qh _),h.hn,Nat.sub_self];rfl
  ·intro i hi;show hgt (s.l++[x]) i<=200;rcases hlen i hi with g |g
   ·rw [hold i g];exact h.low i g
   ·subst g;rw [hnew];omega
  ·intro i hi;show J7 (s.l++[x]) (nd (s.l++[x]) i)=true;rcases hlen i hi with g |g
   ·rw [Qju g];have h1:=h.fit i g;unfold J7 at h1 ⊢;rw [hkk _ (λk hk=>by have:=h.ahead i g k hk;omega)];exact h1
   ·subst g;rw [Qk2];unfold J7;rw [ho.own,hkk x hq,Bool.true_and];exact ho.kids
  ·intro y hy;rcases List.mem_append.1 hy with hy |hy
   ·exact h.stand y hy
   ·rw [List.mem_singleton.1 hy];exact ho.stand
  ·intro y hy;rcases List.mem_append.1 hy with hy |hy
   ·exact h.nums y hy
   ·rw [List.mem_singleton.1 hy];exact ho.nums
  ·show (nd (s.l++[x]) ((s.l.length:Int)).toNat).kind=_;rw [Ja,Qk2]
structure Got (St:Int->Prop) (L:List Tk) (m:Md) (s:PS) (ps:List Int) (l:List Int) (s':PS):Prop where
 inv:Wx St L s' (ps++l)
 few:l.length<=8
 one:(∀acc,m≠ .args acc)-> ∃p,l=[p]
 ex: ∀p∈l,Q6 (Ws s' p)=true
 ext:Ext s s'
def Qpy (St:Int->Prop) (L:List Tk) (m:Md) (ps:List Int) (s:PS):Prop:=match m with
 | .chain lv=>lv<=5/\Wx St L s ps
 | .loop lv p=>lv<5/\Wx St L s (ps++[p])/\Q6 (Ws s p)=true
 | .more p=>Wx St L s (ps++[p])/\Q6 (Ws s p)=true
 | .call nm a=>Wx St L s ps/\Xa nm.data.toList=true/\St (a:Int)
 | .args acc=>Wx St L s (ps++acc)/\acc.length<=8/\ ∀p∈acc,Q6 (Ws s p)=true
 |_=>Wx St L s ps
def Qe6 (St:Int->Prop) (L:List Tk) (m:Md) (s:PS) (ps:List Int) (v:Out):Prop:=match v with
 | .error f=>St (f.2:Int)
 | .ok (l,s')=>Got St L m s ps l s'
theorem Qfy.post {m:Md} {x:Nd} {v:Out} {s0:PS} (h:Qfy St L s ps x v) (hx:Q6 x.kind=true) (hs:Ext s0 s):Qe6 St L m s0 ps v:=by
 cases v with
 |error f=>exact h
 |ok y=>
  obtain ⟨l,s'⟩:=y;have h:Qgd St L s ps x l s':=h;obtain ⟨p,rfl,hk⟩:=h.root;exact ⟨h.inv,by show 1<=8;omega,λ_=>⟨p,rfl⟩,λq hq=>by rw [List.mem_singleton.1 hq,hk];exact hx,hs.trans h.ext⟩
theorem Qe6.from {m m':Md} {v:Out} {s0:PS} (h:Qe6 St L m s ps v) (hs:Ext s0 s) (hm:(∀acc,m'≠ .args acc)-> ∀acc,m≠ .args acc):Qe6 St L m' s0 ps v:=by
 cases v with
 |error f=>exact h
 |ok y=>
  obtain ⟨l,s'⟩:=y;have h:Got St L m s ps l s':=h;exact ⟨h.inv,h.few,λg=>h.one (hm g),h.ex,hs.trans h.ext⟩
theorem Whj {K:Int} (hK:K=5\/K=8) {ks:List Int} (hl:ks.length=2) (h: ∀k∈ks,Q6 k=true):Y9 K ks=true:=by unfold Y9;rw [Qk (by omega),hl];unfold exprs;rw [hl,show ks.take 2=ks from F6 (by omega),List.all_eq_true.2 h];rfl
theorem Qux {K:Int} (hK:K=6\/K=7\/K=9\/K=10\/K=12\/K=13\/K=20\/K=21) {ks:List Int} (hl:ks.length=1) (h: ∀k∈ks,Q6 k=true):Y9 K ks=true:=by unfold Y9;rw [Qd (by omega),Qk (by omega),hl];unfold exprs;rw [hl,show ks.take 1=ks from F6 (by omega),List.all_eq_true.2 h];rfl
theorem Wfu {ks:List Int} (hl:ks.length<=8) (h: ∀k∈ks,Q6 k=true):Y9 11 ks=true:=by unfold Y9;rw [Qd (by omega),Qd (by omega),Qk rfl];unfold exprs;rw [List.take_length,List.all_eq_true.2 h,decide_eq_true hl,decide_eq_true (Qh _)];rfl
theorem Si {K n:Int} {a:Nat} {ks:List Int} (hK:K∈[(1:Int),2,3,5,6,7,8,9,10,15,16,18,19,20,21,22,23,26]) (hn:Ej K n=true):ownB (En K ks n ⟨#[]⟩ a)=true:=by
 have hnm:named K=false:=by simp only [Mt,Ef,or_false]at hK;rcases hK with rfl |rfl |rfl |rfl |rfl |rfl |rfl |rfl |rfl |rfl |rfl |rfl |rfl |rfl |rfl |rfl |rfl |rfl<;>decide
 have hb:1<=K/\K<=26:=by simp only [Mt,Ef,or_false]at hK;omega
 unfold ownB;show (decide (1<=K)&&decide (K<=26)&&decide (0<=(a:Int))&&(if named K=true then _ else _)&&Ej K n)=true;rw [decide_eq_true hb.1,decide_eq_true hb.2,decide_eq_true (Int.natCast_nonneg a),hnm,hn];rfl
theorem Qeh {K n:Int} {a:Nat} {ks:List Int} {nm:ByteArray} (hK:K∈[(4:Int),11,12,13,14,17,24,25]) (hm:Xa nm.data.toList=true) (hn:Ej K n=true):ownB (En K ks n nm a)=true:=by
 have hnm:named K=true:=decide_eq_true hK;have hb:1<=K/\K<=26:=by simp only [Mt,Ef,or_false]at hK;omega
 unfold ownB;show (decide (1<=K)&&decide (K<=26)&&decide (0<=(a:Int))&&(if named K=true then Xa nm.data.toList else _)&&Ej K n)=true;rw [decide_eq_true hb.1,decide_eq_true hb.2,decide_eq_true (Int.natCast_nonneg a),hnm,hn,hm];rfl
theorem Iu:(0:Int)<=0/\(0:Int)<=9223372036854775807:=by omega
theorem Cg (a:Nat) {K n:Int} {ks:List Int} {nm:ByteArray}:0<=(En K ks n nm (a:Int)).at_:=Int.natCast_nonneg a
theorem Wfx {K n:Int} {a:Nat} (ha:St (a:Int)) (hK:K=1\/K=2\/K=3) (hn:Ej K n=true) (hm:0<=n/\n<=9223372036854775807):Em St s (En K [] n ⟨#[]⟩ a):=
 ⟨Si (by rcases hK with rfl |rfl |rfl<;>decide) hn,by rcases hK with rfl |rfl |rfl<;>rfl,ha,hm⟩
theorem Q31 {K:Int} {a:Nat} {q:Int} (ha:St (a:Int)) (hK:K=6\/K=7\/K=9\/K=10) (hq:Q6 (Ws s q)=true):Em St s (En K [q] 0 ⟨#[]⟩ a):=
 ⟨Si (by rcases hK with rfl |rfl |rfl |rfl<;>decide) (by rcases hK with rfl |rfl |rfl |rfl<;>rfl),Qux (K:=K) (by omega) rfl (λk hk=>by rw [List.mem_singleton.1 hk];exact hq),ha,Iu⟩
theorem Qxi {K n:Int} {a:Nat} {p q:Int} (ha:St (a:Int)) (hK:K=5\/K=8) (hn:Ej K n=true) (hm:0<=n/\n<=9223372036854775807) (hp:Q6 (Ws s p)=true) (hq:Q6 (Ws s q)=true):Em St s (En K [p,q] n ⟨#[]⟩ a):=
 ⟨Si (by rcases hK with rfl |rfl<;>decide) hn,Whj hK rfl (λk hk=>by
  have hk':k∈[Ws s p,Ws s q]:=hk;simp only [Mt,Ef,or_false]at hk';rcases hk' with rfl |rfl
  ·exact hp
  ·exact hq),ha,hm⟩
theorem Wh9 {a:Nat} {nm:ByteArray} {l:List Int} (ha:St (a:Int)) (hn:Xa nm.data.toList=true) (hl:l.length<=8) (hq: ∀q∈l,Q6 (Ws s q)=true):Em St s (En 11 l 0 nm a):=
 ⟨Qeh (by decide) hn rfl,Wfu (by show (l.map (Ws s)).length<=8;rw [Zr];exact hl) (λk hk=>by have hk':k∈l.map (Ws s):=hk;obtain ⟨q,hq',rfl⟩:=List.mem_map.1 hk';exact hq q hq'),ha,Iu⟩
theorem Wcn {a:Nat} {nm:ByteArray} (ha:St (a:Int)) (hn:Xa nm.data.toList=true):Em St s (En 4 [] 0 nm a):=
 ⟨Qeh (by decide) hn rfl,rfl,ha,Iu⟩
theorem Wiv {lv:Nat} {t:Tk} {o:Nat} (h:opAt lv t=some o) (hlv:lv<5):0<=(o:Int)/\(o:Int)<=9223372036854775807:=by
 have:=Qpb _ _ h;have hr:Ag lv<=16/\Zx lv<=Ag lv:=by
  have:lv=0\/lv=1\/lv=2\/lv=3\/lv=4:=by omega
  rcases this with rfl |rfl |rfl |rfl |rfl<;>decide
 omega
theorem Wf3 {lv:Nat} (hlv:lv<5) {t:Tk} {o:Nat} (h:opAt lv t=some o):Ej 5 (o:Int)=true:=by
 have:=Qpb _ _ h;have hr:1<=Zx lv/\Ag lv<=16/\Zx lv<=Ag lv:=by
  have:lv=0\/lv=1\/lv=2\/lv=3\/lv=4:=by omega
  rcases this with rfl |rfl |rfl |rfl |rfl<;>decide
 unfold Ej;rw [Qd (by omega),Qd (by omega),Qk rfl,decide_eq_true (by omega),decide_eq_true (by omega)];rfl
theorem Wd7 {t:Tk} (h:sg t≠0):t.kind≠0:=λe=>h (by unfold sg sees;rw [e];rfl)
theorem Wmr {t:Tk} (h:sg t=8):t.kind=1:=by
 unfold sg at h
 repeat' split at h
 all_goals first |omega |assumption
theorem Q05 {K:Int} (h:1<=K) (g:K<=11):Q6 K=true:=by unfold Q6;rw [decide_eq_true h,decide_eq_true g];rfl
theorem Na (hL:I8 L) (hSt: ∀t∈L,St (t.place:Int)): ∀(n:Nat) (m:Md) (d:Nat) (s:PS) (v:Out),Qg n m d s=some v-> ∀ps,Qpy St L m ps s->Qe6 St L m s ps v
 | 0,_,_,_,_,h=>by cases h
 |n+1,.chain lv,d,s,v,h=>by
  intro ps hp;have ih:=Na hL hSt n;rw [Qg]at h;split at h
  ·exact (ih _ _ _ _ h ps hp.2).from (.refl s) (λ_ acc e=>by cases e)
  ·rcases go_ok h with ⟨e,h1,rfl⟩ |⟨p,s1,h1,h2⟩
   ·exact ih _ _ _ _ h1 ps ⟨by have:=hp.1;omega,hp.2⟩
   ·have a:Got St L _ s ps p s1:=ih _ _ _ _ h1 ps ⟨by have:=hp.1;omega,hp.2⟩;obtain ⟨x,rfl⟩:=a.one (λacc e=>by cases e);exact (ih _ _ _ _ h2 ps ⟨by have:=hp.1;omega,a.inv,a.ex x (List.mem_singleton.2 rfl)⟩).from a.ext (λ_ acc e=>by cases e)
 |n+1,.loop lv p,d,s,v,h=>by
  intro ps hp;obtain ⟨hlv,hI,hpx⟩:=hp;have ih:=Na hL hSt n;rw [Qg]at h;cases ho:opAt lv s.tok with
  |none=>rw [ho]at h;injection h with h;subst h;exact ⟨hI,by show 1<=8;omega,λ_=>⟨p,rfl⟩,λq hq=>by rw [List.mem_singleton.1 hq];exact hpx,.refl s⟩
  |some op=>
   rw [ho]at h;have hin:=hI.next hL (Q2s (Qx1 ho));rcases go_ok h with ⟨e,h1,rfl⟩ |⟨q,s1,h1,h2⟩
   ·exact ih _ _ _ _ h1 (ps++[p]) ⟨by omega,hin⟩
   ·have a:Got St L _ s.next (ps++[p]) q s1:=ih _ _ _ _ h1 (ps++[p]) ⟨by omega,hin⟩;obtain ⟨x,rfl⟩:=a.one (λacc e=>by cases e);have hi:Wx St L s1 (ps++[p,x]):=(by have:=a.inv;rw [Qy]at this;exact this);have hE:Ext s s1:=Ext.trans .of_next a.ext;have hp1:Q6 (Ws s1 p)=true:=(by rw [hE.I6 hI (by simp)];exact hpx);have hl:=Wx.lay hi (x:=En 5 [p,x] op ⟨#[]⟩ s.tok.place) rfl (Qxi (hSt _ hI.Jq) (.inl rfl) (Wf3 hlv ho) (Wiv ho hlv) hp1 (a.ex x (List.mem_singleton.2 rfl))) (Cg _);rcases go_ok h2 with ⟨e,h3,rfl⟩ |⟨k,s2,h3,h4⟩
    ·injection h3 with h3
     rw [show hd1 [x]=x from rfl]at h3;rw [h3]at hl;exact hl
    ·injection h3 with h3
     rw [show hd1 [x]=x from rfl]at h3;rw [h3]at hl;split at h4
     ·injection h4 with h4;subst h4;exact Qfy.post (v:=.ok (k,s2)) hl rfl hE
     ·have hl:Qgd St L s1 ps _ k s2:=hl;obtain ⟨y,rfl,hy⟩:=hl.root;exact (ih _ _ _ _ h4 ps ⟨hlv,hl.inv,by rw [show Ws s2 (hd1 [y])=Ws s2 y from rfl,hy];rfl⟩).from (hE.trans hl.ext) (λ_ acc e=>by cases e)
 |n+1,.front,d,s,v,h=>by
  intro ps hp;have hp:Wx St L s ps:=hp;have ih:=Na hL hSt n;rw [Qg]at h;split at h
  ·rename_i g;have hs:Wx St L s.next ps:=by
    rw [Bool.or_eq_true]at g;rcases g with g |g
    ·exact hp.Ml hL g
    ·exact hp.Ml hL g
   split at h
   ·injection h with h;subst h;exact hSt _ hp.Jq
   ·rcases go_ok h with ⟨e,h1,rfl⟩ |⟨q,s1,h1,h2⟩
    ·exact ih _ _ _ _ h1 ps hs
    ·have a:Got St L _ s.next ps q s1:=ih _ _ _ _ h1 ps hs;obtain ⟨x,rfl⟩:=a.one (λacc e=>by cases e);injection h2 with h2
     have hl:=Wx.lay a.inv (x:=En (if s.is minus then 6 else 7) [x] 0 ⟨#[]⟩ s.tok.place) rfl (Q31 (hSt _ hp.Jq) (by split<;>omega) (a.ex x (List.mem_singleton.2 rfl))) (Cg _);rw [show hd1 [x]=x from rfl]at h2;rw [h2]at hl;exact hl.post (by show Q6 (if s.is minus then 6 else 7)=true;split<;>rfl) (Ext.trans .of_next a.ext)
  ·exact (ih _ _ _ _ h ps hp).from (.refl s) (λ_ acc e=>by cases e)
 |n+1,.idx,d,s,v,h=>by
  intro ps hp;have ih:=Na hL hSt n;rw [Qg]at h;rcases go_ok h with ⟨e,h1,rfl⟩ |⟨p,s1,h1,h2⟩
  ·exact ih _ _ _ _ h1 ps hp
  ·have a:Got St L _ s ps p s1:=ih _ _ _ _ h1 ps hp;obtain ⟨x,rfl⟩:=a.one (λacc e=>by cases e);exact (ih _ _ _ _ h2 ps ⟨a.inv,a.ex x (List.mem_singleton.2 rfl)⟩).from a.ext (λ_ acc e=>by cases e)
 |n+1,.more p,d,s,v,h=>by
  intro ps hp;obtain ⟨hI,hpx⟩:=hp;have ih:=Na hL hSt n;rw [Qg]at h;split at h
  ·rename_i g;rcases go_ok h with ⟨e,h1,rfl⟩ |⟨q,s1,h1,h2⟩
   ·exact ih _ _ _ _ h1 (ps++[p]) hI
   ·have a:Got St L _ s (ps++[p]) q s1:=ih _ _ _ _ h1 (ps++[p]) hI;obtain ⟨x,rfl⟩:=a.one (λacc e=>by cases e);have hi:Wx St L s1 (ps++[p,x]):=(by have:=a.inv;rw [Qy]at this;exact this);have hp1:Q6 (Ws s1 p)=true:=(by rw [a.ext.I6 hI (by simp)];exact hpx);have hl:=Wx.lay hi (x:=En 8 [p,x] 0 ⟨#[]⟩ s.tok.place) rfl (Qxi (hSt _ hI.Jq) (.inr rfl) rfl Iu hp1 (a.ex x (List.mem_singleton.2 rfl))) (Cg _);rcases go_ok h2 with ⟨e,h3,rfl⟩ |⟨k,s2,h3,h4⟩
    ·injection h3 with h3
     rw [show hd1 [x]=x from rfl]at h3;rw [h3]at hl;exact hl
    ·injection h3 with h3
     rw [show hd1 [x]=x from rfl]at h3;rw [h3]at hl;have hl:Qgd St L s1 ps _ k s2:=hl;obtain ⟨y,rfl,hy⟩:=hl.root;exact (ih _ _ _ _ h4 ps ⟨hl.inv,by rw [show Ws s2 (hd1 [y])=Ws s2 y from rfl,hy];rfl⟩).from (a.ext.trans hl.ext) (λ_ acc e=>by cases e)
  ·injection h with h;subst h;exact ⟨hI,by show 1<=8;omega,λ_=>⟨p,rfl⟩,λq hq=>by rw [List.mem_singleton.1 hq];exact hpx,.refl s⟩
 |n+1,.inner a b,d,s,v,h=>by
  intro ps hp;have hp:Wx St L s ps:=hp;have ih:=Na hL hSt n;rw [Qg]at h;split at h
  ·rename_i g;have hs:=hp.Ml hL g;split at h
   ·injection h with h;subst h;exact hSt _ hp.Jq
   ·rcases go_ok h with ⟨e,h1,rfl⟩ |⟨q,s1,h1,h2⟩
    ·exact ih _ _ _ _ h1 ps ⟨by omega,hs⟩
    ·have a:Got St L _ s.next ps q s1:=ih _ _ _ _ h1 ps ⟨by omega,hs⟩;split at h2
     ·rename_i g2;injection h2 with h2
      subst h2;exact ⟨a.inv.Ml hL g2,a.few,λ_=>a.one (λacc e=>by cases e),a.ex,(Ext.trans .of_next a.ext).Hr⟩
     ·injection h2 with h2;subst h2;exact hSt _ a.inv.Jq
  ·injection h with h;subst h;exact hSt _ hp.Jq
 |n+1,.call nm at_,d,s,v,h=>by
  intro ps hp;obtain ⟨hp,hnm,hat⟩:=hp;have ih:=Na hL hSt n;rw [Qg]at h;split at h
  ·rename_i g;have hs:=hp.Ml hL g;split at h
   ·injection h with h;subst h;exact hSt _ hp.Jq
   ·rcases go_ok h with ⟨e,h1,rfl⟩ |⟨q,s1,h1,h2⟩
    ·split at h1
     ·cases h1
     ·exact ih _ _ _ _ h1 ps ⟨Uu hs,by show 0<=8;omega,λp hp=>by cases hp⟩
    ·have a':Wx St L s1 (ps++q)/\q.length<=8/\(∀p∈q,Q6 (Ws s1 p)=true)/\Ext s s1:=by
      split at h1
      ·injection h1 with h1;injection h1 with h1;injection h1 with h3 h4;subst h3 h4;exact ⟨Uu hs,by show 0<=8;omega,(λp hp=>by cases hp),.of_next⟩
      ·have a:Got St L _ s.next ps q s1:=ih _ _ _ _ h1 ps ⟨Uu hs,by show 0<=8;omega,λp hp=>by cases hp⟩;exact ⟨a.inv,a.few,a.ex,Ext.trans .of_next a.ext⟩
     split at h2
     ·rename_i g2;injection h2 with h2
      have hl:=Wx.lay (a'.1.Ml hL g2) (x:=En 11 q 0 nm at_) rfl (Wh9 hat hnm a'.2.1 a'.2.2.1) (Cg _);rw [h2]at hl;exact hl.post rfl a'.2.2.2.Hr
     ·injection h2 with h2;subst h2;exact hSt _ a'.1.Jq
  ·injection h with h;subst h;exact hSt _ hp.Jq
 |n+1,.args acc,d,s,v,h=>by
  intro ps hp;obtain ⟨hp,hac,hax⟩:=hp;have ih:=Na hL hSt n;rw [Qg]at h;split at h
  ·injection h with h;subst h;exact hSt _ hp.Jq
  ·rename_i h8;rcases go_ok h with ⟨e,h1,rfl⟩ |⟨p,s1,h1,h2⟩
   ·exact ih _ _ _ _ h1 (ps++acc) ⟨by omega,hp⟩
   ·have a:Got St L _ s (ps++acc) p s1:=ih _ _ _ _ h1 (ps++acc) ⟨by omega,hp⟩;obtain ⟨x,rfl⟩:=a.one (λacc e=>by cases e);have hi:Wx St L s1 (ps++(acc++[x])):=(by have:=a.inv;rw [Qy]at this;exact this);have hlen:(acc++[x]).length<=8:=(by rw [Qf];show acc.length+1<=8;omega);have hall: ∀p∈acc++[x],Q6 (Ws s1 p)=true:=by
     intro p hpm;rcases List.mem_append.1 hpm with hm |hm
     ·rw [a.ext.I6 hp (List.mem_append_right _ hm)];exact hax p hm
     ·exact a.ex p hm
    split at h2
    ·rename_i g2;exact (ih _ _ _ _ h2 ps ⟨hi.Ml hL g2,hlen,hall⟩).from a.ext.Hr (λhh=>absurd rfl (hh acc))
    ·injection h2 with h2;subst h2
     exact ⟨hi,hlen,λhh=>absurd rfl (hh acc),hall,a.ext⟩
 |n+1,.single,d,s,v,h=>by
  intro ps hp;have hp:Wx St L s ps:=hp;have ih:=Na hL hSt n;rw [Eh]at h;have hnx:sg s.tok≠0->Wx St L s.next ps:=λh0=>hp.next hL (Wd7 h0);have leaf:sg s.tok≠0-> ∀K N,(K=1\/K=2\/K=3)->Ej K N=true->(0<=N/\N<=9223372036854775807)->some (lay (En K [] N ⟨#[]⟩ s.tok.place) s.next)=some v->Qe6 St L .single s ps v:=by
   intro h0 K N hK hN hM hx;injection hx with hx
   subst hx;exact (Wx.lay (Uu (hnx h0)) rfl (Wfx (hSt _ hp.Jq) hK hN hM) (Cg _)).post (Q05 (by show 1<=K;omega) (by show K<=11;omega)) .of_next
  have Qh9:sg s.tok≠0-> ∀K,(K=6\/K=7\/K=9\/K=10)->(Out.go (Qg n (.inner lp rp) d s.next) λq s1=>some (lay (En K [hd1 q] 0 ⟨#[]⟩ s.tok.place) s1))=some v->Qe6 St L .single s ps v:=by
   intro h0 K hK hx;rcases go_ok hx with ⟨e,h1,rfl⟩ |⟨q,s1,h1,h2⟩
   ·exact ih _ _ _ _ h1 ps (hnx h0)
   ·have a:Got St L _ s.next ps q s1:=ih _ _ _ _ h1 ps (hnx h0);obtain ⟨x,rfl⟩:=a.one (λacc e=>by cases e);injection h2 with h2
    subst h2;exact (Wx.lay a.inv rfl (Q31 (hSt _ hp.Jq) hK (a.ex x (List.mem_singleton.2 rfl))) (Cg _)).post (Q05 (by show 1<=K;omega) (by show K<=11;omega)) (Ext.trans .of_next a.ext)
  split at h
  ·exact (ih _ _ _ _ h ps hp).from (.refl s) (λ_ acc e=>by cases e)
  ·rename_i hg;exact leaf (by rw [hg];decide) _ _ (by omega) rfl (by omega) h
  ·rename_i hg;exact leaf (by rw [hg];decide) _ _ (by omega) rfl (by omega) h
  ·rename_i hg;exact leaf (by rw [hg];decide) _ _ (by omega) rfl (by omega) h
  ·rename_i hg;exact Qh9 (by rw [hg];decide) _ (by omega) h
  ·rename_i hg;exact Qh9 (by rw [hg];decide) _ (by omega) h
  ·rename_i hg;exact leaf (by rw [hg];decide) _ _ (by omega) (by unfold Ej;rw [Qk rfl];exact decide_eq_true (Int.natCast_nonneg _)) (by have:=hL.num _ hp.Jq;omega) h
  ·rename_i hg;have h0:sg s.tok≠0:=(by rw [hg];decide);have hnm:=hL.name _ hp.Jq (Wmr hg);split at h
   ·exact (ih _ _ _ _ h ps ⟨hnx h0,hnm,hSt _ hp.Jq⟩).from .of_next (λ_ acc e=>by cases e)
   ·injection h with h
    subst h;exact (Wx.lay (Uu (hnx h0)) rfl (Wcn (hSt _ hp.Jq) hnm) (Cg _)).post rfl .of_next
  ·injection h with h;subst h;exact hSt _ hp.Jq
theorem Wie {St:Int->Prop} {L:List Tk} (h0:0<L.length):Wx St L ⟨L,[],[]⟩ []:=
 ⟨⟨0,h0,rfl⟩,List.Perm.refl _,(λi hi=>by simp at hi),rfl,(λi hi=>by simp at hi),(λi hi=>by simp at hi),(λi hi=>by simp at hi),(λx hx=>by simp at hx),(λx hx=>by simp at hx)⟩
theorem Wx.right {p:Int} (hv:Wx St L s [p]):Rt s.l/\p=(s.l.length:Int)-1:=by
 have hpm:=hv.mem (List.mem_singleton.2 rfl);have hlen:0<s.l.length:=by omega
 have hperm:=hv.fo;have hnd:(Fb s.l++[p]).Nodup:=hperm.nodup_iff.2 (by unfold rng List.Nodup;rw [List.pairwise_map];exact (List.nodup_range (n:=s.l.length)).imp (λh e=>h (Int.ofNat.inj e)));have hcount:(Fb s.l++[p]).length=s.l.length:=by rw [hperm.length_eq];unfold rng;simp
 refine ⟨⟨⟨hlen,hv.ahead,?_,?_⟩,λi hi=>hv.fit i hi,hv.low _ (by omega)⟩,?_⟩
 ·rw [Q8g];exact (List.nodup_append.1 hnd).1
 ·rw [Q8g];rw [Qf]at hcount;have:(Fb s.l).length+1=s.l.length:=hcount;omega
 ·
  have hmem:((s.l.length:Int)-1)∈Fb s.l++[p]:=hperm.symm.subset (Q7b.2 ⟨by omega,by omega⟩);rcases List.mem_append.1 hmem with hm |hm
  ·exfalso;unfold Fb at hm;obtain ⟨x,hx,hk⟩:=List.mem_flatMap.1 hm;obtain ⟨i,hi,e⟩:=List.getElem_of_mem hx;have en:nd s.l i=x:=(by unfold nd;rw [Yc,Y3 hi,e];rfl);have:=hv.ahead i hi ((s.l.length:Int)-1) (by rw [en];exact hk);omega
  ·exact (List.mem_singleton.1 hm).symm
theorem Wao {l:List Nd} {ps:List Int} (h:(Fb l++ps).Perm (rng l.length)): ∀x∈l,x.kids.length<=l.length:=by
 intro x hx;have h1:(Fb l++ps).length=l.length:=by rw [h.length_eq];unfold rng;simp
 have h2:x.kids.length<=(Fb l).length:=by unfold Fb;obtain ⟨a,b,rfl⟩:=List.append_of_mem hx;rw [List.flatMap_append,List.flatMap_cons,Qf,Qf];omega
 rw [Qf]at h1;omega
end
end Go.Proofs.YtdncpkkhkbijfaaGreatDoor
