import Derived.Test.YtdncpkkhkbijfaaGreatDoorBa2
set_option linter.all false
set_option maxHeartbeats 0
set_option maxRecDepth 100000
namespace Go.Proofs.YtdncpkkhkbijfaaGreatDoor
structure PS where
 r:List Tk
 l:List Nd
 h:List Nat
def PS.tok (s:PS):Tk:=s.r.headD ⟨0,[],0,0⟩
def sees (k:Tk) (t:List UInt8):Bool:=(k.kind==3||k.kind==4)&&k.text==t
def PS.is (s:PS) (t:List UInt8):Bool:=sees s.tok t
def PS.next (s:PS):PS:={s with r:=s.r.tail}
def En (kind:Int) (kids:List Int) (n:Int) (s:ByteArray) (at_:Int):Nd:=⟨kind,none,0,kids,n,s,at_⟩
abbrev Qq:=Nat×Nat
abbrev Out:=Except Qq (List Int×PS)
def hstep (h:List Nat) (a:Nat) (k:Int):Nat:=if 0<=k/\k<(h.length:Int)then max a (h.getD k.toNat 0+1)else a
def high (h:List Nat) (ks:List Int):Nat:=ks.foldl (hstep h) 1
def lay (x:Nd) (s:PS):Out:=
 if 200<high s.h x.kids then .error (4,x.at_.toNat)else .ok ([(s.l.length:Int)],⟨s.r,s.l++[x],s.h++[high s.h x.kids]⟩)
inductive Md where
 |chain (lv:Nat)
 |loop (lv:Nat) (left:Int)
 |front
 |idx
 |more (p:Int)
 |single
 |inner (a b:List UInt8)
 |call (nm:ByteArray) (at_:Nat)
 |args (acc:List Int)
def Zx (lv:Nat):Nat:=[1,2,3,9,13].getD lv 0
def Ag (lv:Nat):Nat:=[1,2,8,12,16].getD lv 0
def Lr (k:Tk) (a:Nat):Nat->Option Nat
 | 0=>none
 |n+1=>if sees k (Xu.getD a [])then some a else Lr k (a+1) n
def opAt (lv:Nat) (k:Tk):Option Nat:=Lr k (Zx lv) (Ag lv+1-Zx lv)
def Out.go (o:Option Out) (f:List Int->PS->Option Out):Option Out:=match o with
 |none=>none
 |some (.error e)=>some (.error e)
 |some (.ok (p,s))=>f p s
def hd1 (l:List Int):Int:=l.headD 0
def rp:List UInt8:=[41]
def lp:List UInt8:=[40]
def rb:List UInt8:=[93]
def lb:List UInt8:=[91]
def comma:List UInt8:=[44]
def minus:List UInt8:=[45]
def bang:List UInt8:=[33]
def Bz:List UInt8:=[116,114,117,101]
def Cv:List UInt8:=[102,97,108,115,101]
def Di:List UInt8:=[110,105,108]
def Ky:List UInt8:=[108,101,110]
def Ah:List UInt8:=[110,101,119]
def Qg:Nat->Md->Nat->PS->Option Out
 | 0,_,_,_=>none
 |n+1,.chain lv,d,s=>if lv=5 then Qg n .front d s else Out.go (Qg n (.chain (lv+1)) d s) λp s1=>Qg n (.loop lv (hd1 p)) d s1
 |n+1,.loop lv p,d,s=>match opAt lv s.tok with
  |none=>some (.ok ([p],s))
  |some op=>Out.go (Qg n (.chain (lv+1)) d s.next) λq s1=>Out.go (some (lay (En 5 [p,hd1 q] op ⟨#[]⟩ s.tok.place) s1)) λk s2=>if lv=2 then some (.ok (k,s2))else Qg n (.loop lv (hd1 k)) d s2
 |n+1,.front,d,s=>
  if s.is minus||s.is bang then
   (if 200<=d then some (.error (4,s.tok.place))
    else Out.go (Qg n .front (d+1) s.next) λq s1=>some (lay (En (if s.is minus then 6 else 7) [hd1 q] 0 ⟨#[]⟩ s.tok.place) s1))
  else Qg n .idx d s
 |n+1,.idx,d,s=>Out.go (Qg n .single d s) λp s1=>Qg n (.more (hd1 p)) d s1
 |n+1,.more p,d,s=>
  if s.is lb then Out.go (Qg n (.inner lb rb) d s) λq s1=>Out.go (some (lay (En 8 [p,hd1 q] 0 ⟨#[]⟩ s.tok.place) s1)) λk s2=>Qg n (.more (hd1 k)) d s2
  else some (.ok ([p],s))
 |n+1,.inner a b,d,s=>
  if s.is a then
   (if 200<=d then some (.error (4,s.tok.place))
    else Out.go (Qg n (.chain 0) (d+1) s.next) λp s1=>if s1.is b then some (.ok (p,s1.next))else some (.error (8,s1.tok.place)))
  else some (.error (8,s.tok.place))
 |n+1,.call nm at_,d,s=>
  if s.is lp then
   (if 200<=d then some (.error (4,s.tok.place))
    else Out.go (if s.next.is rp then some (.ok ([],s.next))else Qg n (.args []) (d+1) s.next) λl s1=>if s1.is rp then some (lay (En 11 l 0 nm at_) s1.next)else some (.error (8,s1.tok.place)))
  else some (.error (8,s.tok.place))
 |n+1,.args acc,d,s=>
  if acc.length=8 then some (.error (3,s.tok.place))
  else Out.go (Qg n (.chain 0) d s) λp s1=>if s1.is comma then Qg n (.args (acc++[hd1 p])) d s1.next else some (.ok (acc++[hd1 p],s1))
 |n+1,.single,d,s=>
  if s.is lp then Qg n (.inner lp rp) d s
  else if s.is Bz then some (lay (En 2 [] 1 ⟨#[]⟩ s.tok.place) s.next)
  else if s.is Cv then some (lay (En 2 [] 0 ⟨#[]⟩ s.tok.place) s.next)
  else if s.is Di then some (lay (En 3 [] 0 ⟨#[]⟩ s.tok.place) s.next)
  else if s.is Ky then Out.go (Qg n (.inner lp rp) d s.next) λq s1=>some (lay (En 9 [hd1 q] 0 ⟨#[]⟩ s.tok.place) s1)
  else if s.is Ah then Out.go (Qg n (.inner lp rp) d s.next) λq s1=>some (lay (En 10 [hd1 q] 0 ⟨#[]⟩ s.tok.place) s1)
  else if s.tok.kind=2 then some (lay (En 1 [] s.tok.n ⟨#[]⟩ s.tok.place) s.next)
  else if s.tok.kind=1 then
   (if s.next.is lp then Qg n (.call ⟨s.tok.text.toArray⟩ s.tok.place) d s.next else some (lay (En 4 [] 0 ⟨s.tok.text.toArray⟩ s.tok.place) s.next))
  else some (.error (8,s.tok.place))
theorem Aw {o o':Option Out} {f f':List Int->PS->Option Out} {v:Out} (h:Out.go o f=some v) (ho: ∀u,o=some u->o'=some u) (hf: ∀p s u,f p s=some u->f' p s=some u):Out.go o' f'=some v:=by
 cases o with
 |none=>cases h
 |some u=>
  rw [ho u rfl];cases u with
  |error e=>exact h
  |ok x=>exact hf _ _ _ h
theorem Tn: ∀(n:Nat) (m:Md) (d:Nat) (s:PS) (v:Out),Qg n m d s=some v->Qg (n+1) m d s=some v
 | 0,_,_,_,_,h=>by cases h
 |n+1,.chain lv,d,s,v,h=>by
  have ih:=Tn n;rw [Qg]at h ⊢;split at h
  ·rename_i g;rw [Qk g];exact ih _ _ _ _ h
  ·rename_i g;rw [Qd g];exact Aw h (λu=>ih _ _ _ u) (λp s u=>ih _ _ _ u)
 |n+1,.loop lv p,d,s,v,h=>by
  have ih:=Tn n;rw [Qg]at h ⊢;cases ho:opAt lv s.tok with
  |none=>rw [ho]at h;exact h
  |some op=>
   rw [ho]at h;refine Aw h (λu=>ih _ _ _ u) (λq s1 u hu=>Aw hu (λ_ e=>e) (λk s2 u2 h2=> ?_));split at h2
   ·rename_i g;rw [Qk g];exact h2
   ·rename_i g;rw [Qd g];exact ih _ _ _ _ h2
 |n+1,.front,d,s,v,h=>by
  have ih:=Tn n;rw [Qg]at h ⊢;split at h
  ·rename_i g;rw [Qk g];split at h
   ·rename_i g2;rw [Qk g2];exact h
   ·rename_i g2;rw [Qd g2];exact Aw h (λu=>ih _ _ _ u) (λ_ _ _ e=>e)
  ·rename_i g;rw [Qd g];exact ih _ _ _ _ h
 |n+1,.idx,d,s,v,h=>by have ih:=Tn n;rw [Qg]at h ⊢;exact Aw h (λu=>ih _ _ _ u) (λp s u=>ih _ _ _ u)
 |n+1,.more p,d,s,v,h=>by
  have ih:=Tn n;rw [Qg]at h ⊢;split at h
  ·rename_i g;rw [Qk g];exact Aw h (λu=>ih _ _ _ u) (λq s1 u hu=>Aw hu (λ_ e=>e) (λk s2 u2 h2=>ih _ _ _ _ h2))
  ·rename_i g;rw [Qd g];exact h
 |n+1,.inner a b,d,s,v,h=>by
  have ih:=Tn n;rw [Qg]at h ⊢;split at h
  ·rename_i g;rw [Qk g];split at h
   ·rename_i g2;rw [Qk g2];exact h
   ·rename_i g2;rw [Qd g2];exact Aw h (λu=>ih _ _ _ u) (λ_ _ _ e=>e)
  ·rename_i g;rw [Qd g];exact h
 |n+1,.call nm a,d,s,v,h=>by
  have ih:=Tn n;rw [Qg]at h ⊢;split at h
  ·rename_i g;rw [Qk g];split at h
   ·rename_i g2;rw [Qk g2];exact h
   ·rename_i g2;rw [Qd g2];refine Aw h (λu hu=> ?_) (λ_ _ _ e=>e);split at hu
    ·rename_i g3;rw [Qk g3];exact hu
    ·rename_i g3;rw [Qd g3];exact ih _ _ _ _ hu
  ·rename_i g;rw [Qd g];exact h
 |n+1,.args acc,d,s,v,h=>by
  have ih:=Tn n;rw [Qg]at h ⊢;split at h
  ·rename_i g;rw [Qk g];exact h
  ·rename_i g;rw [Qd g];refine Aw h (λu=>ih _ _ _ u) (λp s1 u hu=> ?_);split at hu
   ·rename_i g3;rw [Qk g3];exact ih _ _ _ _ hu
   ·rename_i g3;rw [Qd g3];exact hu
 |n+1,.single,d,s,v,h=>by
  have ih:=Tn n;rw [Qg]at h ⊢;split at h
  ·rename_i g;rw [Qk g];exact ih _ _ _ _ h
  rename_i g0;rw [Qd g0];split at h
  ·rename_i g;rw [Qk g];exact h
  rename_i g1;rw [Qd g1];split at h
  ·rename_i g;rw [Qk g];exact h
  rename_i g2;rw [Qd g2];split at h
  ·rename_i g;rw [Qk g];exact h
  rename_i g3;rw [Qd g3];split at h
  ·rename_i g;rw [Qk g];exact Aw h (λu=>ih _ _ _ u) (λ_ _ _ e=>e)
  rename_i g4;rw [Qd g4];split at h
  ·rename_i g;rw [Qk g];exact Aw h (λu=>ih _ _ _ u) (λ_ _ _ e=>e)
  rename_i g5;rw [Qd g5];split at h
  ·rename_i g;rw [Qk g];exact h
  rename_i g6;rw [Qd g6];split at h
  ·rename_i g;rw [Qk g];split at h
   ·rename_i g8;rw [Qk g8];exact ih _ _ _ _ h
   ·rename_i g8;rw [Qd g8];exact h
  ·rename_i g;rw [Qd g];exact h
theorem Hy {n m:Nat} {k:Md} {d:Nat} {s:PS} {v:Out} (h:Qg n k d s=some v) (hm:n<=m):Qg m k d s=some v:=by
 induction hm with
 |refl=>exact h
 |step _ ih=>exact Tn _ _ _ _ _ ih
def Reads (k:Md) (d:Nat) (s:PS) (v:Out):Prop:= ∃n,Qg n k d s=some v
theorem Reads.one {k:Md} {d:Nat} {s:PS} {v u:Out} (h:Reads k d s v) (g:Reads k d s u):v=u:=by obtain ⟨n,hn⟩:=h;obtain ⟨m,hm⟩:=g;have h1:=Hy hn (Nat.le_max_left n m);have h2:=Hy hm (Nat.le_max_right n m);rw [h1]at h2;exact Option.some.inj h2
section
variable {d:Nat}{s s1 s2:PS}{v:Out}{f:Qq}{lv:Nat}{p q k:Int}
theorem Reads.Qlb (h:Reads .front d s v):Reads (.chain 5) d s v:=by obtain ⟨n,hn⟩:=h;exact ⟨n+1,by rw [Qg,Qk rfl];exact hn⟩
theorem Reads.chain (hlv:lv≠5) (h:Reads (.chain (lv+1)) d s (.ok ([p],s1))) (g:Reads (.loop lv p) d s1 v):Reads (.chain lv) d s v:=by obtain ⟨n,hn⟩:=h;obtain ⟨m,hm⟩:=g;exact ⟨max n m+1,by rw [Qg,Qd hlv,Hy hn (Nat.le_max_left ..)];exact Hy hm (Nat.le_max_right ..)⟩
theorem Reads.Wp5 (hlv:lv≠5) (h:Reads (.chain (lv+1)) d s (.error f)):Reads (.chain lv) d s (.error f):=by obtain ⟨n,hn⟩:=h;exact ⟨n+1,by rw [Qg,Qd hlv,hn];rfl⟩
theorem Reads.Qa7 (h:opAt lv s.tok=none):Reads (.loop lv p) d s (.ok ([p],s)):=⟨1,by rw [Qg,h]⟩
theorem Reads.Q00 {op:Nat} (h:opAt lv s.tok=some op) (g:Reads (.chain (lv+1)) d s.next (.error f)):Reads (.loop lv p) d s (.error f):=by obtain ⟨n,hn⟩:=g;exact ⟨n+1,by rw [Qg,h];simp only [];rw [hn];rfl⟩
theorem Reads.Q2n {op:Nat} (h:opAt lv s.tok=some op) (g:Reads (.chain (lv+1)) d s.next (.ok ([q],s1))) (hl:lay (En 5 [p,q] op ⟨#[]⟩ s.tok.place) s1= .error f):Reads (.loop lv p) d s (.error f):=by obtain ⟨n,hn⟩:=g;refine ⟨n+1,?_⟩;rw [Qg,h];simp only [];rw [hn];show Out.go (some (lay (En 5 [p,q] op ⟨#[]⟩ s.tok.place) s1)) _=_;rw [hl];rfl
theorem Reads.Qno {op:Nat} (hv:lv=2) (h:opAt lv s.tok=some op) (g:Reads (.chain (lv+1)) d s.next (.ok ([q],s1))) (hl:lay (En 5 [p,q] op ⟨#[]⟩ s.tok.place) s1= .ok ([k],s2)):Reads (.loop lv p) d s (.ok ([k],s2)):=by obtain ⟨n,hn⟩:=g;refine ⟨n+1,?_⟩;rw [Qg,h];simp only [];rw [hn];show Out.go (some (lay (En 5 [p,q] op ⟨#[]⟩ s.tok.place) s1)) _=_;rw [hl];show (if lv=2 then _ else _)=_;rw [Qk hv]
theorem Reads.Qly {op:Nat} (hv:lv≠2) (h:opAt lv s.tok=some op) (g:Reads (.chain (lv+1)) d s.next (.ok ([q],s1))) (hl:lay (En 5 [p,q] op ⟨#[]⟩ s.tok.place) s1= .ok ([k],s2)) (r:Reads (.loop lv k) d s2 v):Reads (.loop lv p) d s v:=by obtain ⟨n,hn⟩:=g;obtain ⟨m,hm⟩:=r;refine ⟨max n m+1,?_⟩;rw [Qg,h];simp only [];rw [Hy hn (Nat.le_max_left ..)];show Out.go (some (lay (En 5 [p,q] op ⟨#[]⟩ s.tok.place) s1)) _=_;rw [hl];show (if lv=2 then _ else _)=_;rw [Qd hv];exact Hy hm (Nat.le_max_right ..)
theorem Reads.Qjx (h:s.is minus=false) (h':s.is bang=false) (g:Reads .idx d s v):Reads .front d s v:=by obtain ⟨n,hn⟩:=g;exact ⟨n+1,by rw [Qg,h,h'];exact hn⟩
theorem Reads.Qht (h:s.is minus=true\/s.is bang=true) (hd:200<=d):Reads .front d s (.error (4,s.tok.place)):=
 ⟨1,by rw [Qg,Qk (by simpa using h),Qk hd]⟩
theorem Reads.Wax (h:s.is minus=true\/s.is bang=true) (hd:d<200) (g:Reads .front (d+1) s.next (.error f)):Reads .front d s (.error f):=by obtain ⟨n,hn⟩:=g;exact ⟨n+1,by rw [Qg,Qk (by simpa using h),Qd (by omega),hn];rfl⟩
theorem Reads.Qrw (h:s.is minus=true\/s.is bang=true) (hd:d<200) (g:Reads .front (d+1) s.next (.ok ([q],s1))):Reads .front d s (lay (En (if s.is minus then 6 else 7) [q] 0 ⟨#[]⟩ s.tok.place) s1):=by obtain ⟨n,hn⟩:=g;exact ⟨n+1,by rw [Qg,Qk (by simpa using h),Qd (by omega),hn];rfl⟩
theorem Reads.idx (h:Reads .single d s (.ok ([p],s1))) (g:Reads (.more p) d s1 v):Reads .idx d s v:=by obtain ⟨n,hn⟩:=h;obtain ⟨m,hm⟩:=g;exact ⟨max n m+1,by rw [Qg,Hy hn (Nat.le_max_left ..)];exact Hy hm (Nat.le_max_right ..)⟩
theorem Reads.Wpi (h:Reads .single d s (.error f)):Reads .idx d s (.error f):=by obtain ⟨n,hn⟩:=h;exact ⟨n+1,by rw [Qg,hn];rfl⟩
theorem Reads.Qie (h:s.is lb=false):Reads (.more p) d s (.ok ([p],s)):=⟨1,by rw [Qg,h];rfl⟩
theorem Reads.Wia (h:s.is lb=true) (g:Reads (.inner lb rb) d s (.error f)):Reads (.more p) d s (.error f):=by obtain ⟨n,hn⟩:=g;exact ⟨n+1,by rw [Qg,Qk h,hn];rfl⟩
theorem Reads.Q9c (h:s.is lb=true) (g:Reads (.inner lb rb) d s (.ok ([q],s1))) (hl:lay (En 8 [p,q] 0 ⟨#[]⟩ s.tok.place) s1= .error f):Reads (.more p) d s (.error f):=by obtain ⟨n,hn⟩:=g;refine ⟨n+1,?_⟩;rw [Qg,Qk h,hn];show Out.go (some (lay (En 8 [p,q] 0 ⟨#[]⟩ s.tok.place) s1)) _=_;rw [hl];rfl
theorem Reads.Qa0 (h:s.is lb=true) (g:Reads (.inner lb rb) d s (.ok ([q],s1))) (hl:lay (En 8 [p,q] 0 ⟨#[]⟩ s.tok.place) s1= .ok ([k],s2)) (r:Reads (.more k) d s2 v):Reads (.more p) d s v:=by obtain ⟨n,hn⟩:=g;obtain ⟨m,hm⟩:=r;refine ⟨max n m+1,?_⟩;rw [Qg,Qk h,Hy hn (Nat.le_max_left ..)];show Out.go (some (lay (En 8 [p,q] 0 ⟨#[]⟩ s.tok.place) s1)) _=_;rw [hl];exact Hy hm (Nat.le_max_right ..)
variable {a b:List UInt8}
theorem Reads.Qyg (h:s.is a=false):Reads (.inner a b) d s (.error (8,s.tok.place)):=⟨1,by rw [Qg,h];rfl⟩
theorem Reads.Qxo (h:s.is a=true) (hd:200<=d):Reads (.inner a b) d s (.error (4,s.tok.place)):=⟨1,by rw [Qg,Qk h,Qk hd]⟩
theorem Reads.Wjq (h:s.is a=true) (hd:d<200) (g:Reads (.chain 0) (d+1) s.next (.error f)):Reads (.inner a b) d s (.error f):=by obtain ⟨n,hn⟩:=g;exact ⟨n+1,by rw [Qg,Qk h,Qd (by omega),hn];rfl⟩
theorem Reads.Wfe (h:s.is a=true) (hd:d<200) (g:Reads (.chain 0) (d+1) s.next (.ok ([p],s1))) (hb:s1.is b=false):Reads (.inner a b) d s (.error (8,s1.tok.place)):=by obtain ⟨n,hn⟩:=g;refine ⟨n+1,?_⟩;rw [Qg,Qk h,Qd (by omega),hn];show (if s1.is b=true then _ else _)=_;rw [hb];rfl
theorem Reads.Qcu (h:s.is a=true) (hd:d<200) (g:Reads (.chain 0) (d+1) s.next (.ok ([p],s1))) (hb:s1.is b=true):Reads (.inner a b) d s (.ok ([p],s1.next)):=by obtain ⟨n,hn⟩:=g;refine ⟨n+1,?_⟩;rw [Qg,Qk h,Qd (by omega),hn];show (if s1.is b=true then _ else _)=_;rw [Qk hb]
variable {nm:ByteArray}{at_:Nat}{l acc:List Int}
theorem Reads.Wap (h:s.is lp=false):Reads (.call nm at_) d s (.error (8,s.tok.place)):=⟨1,by rw [Qg,h];rfl⟩
theorem Reads.Whf (h:s.is lp=true) (hd:200<=d):Reads (.call nm at_) d s (.error (4,s.tok.place)):=⟨1,by rw [Qg,Qk h,Qk hd]⟩
theorem Reads.Q1y (h:s.is lp=true) (hd:d<200) (hr:s.next.is rp=true):Reads (.call nm at_) d s (lay (En 11 [] 0 nm at_) s.next.next):=by refine ⟨1,?_⟩;rw [Qg,Qk h,Qd (by omega),Qk hr];show (if s.next.is rp=true then _ else _)=_;rw [Qk hr]
theorem Reads.Wn6 (h:s.is lp=true) (hd:d<200) (hr:s.next.is rp=false) (g:Reads (.args []) (d+1) s.next (.error f)):Reads (.call nm at_) d s (.error f):=by obtain ⟨n,hn⟩:=g;refine ⟨n+1,?_⟩;rw [Qg,Qk h,Qd (by omega),Qd (by rw [hr];decide),hn];rfl
theorem Reads.Q9r (h:s.is lp=true) (hd:d<200) (hr:s.next.is rp=false) (g:Reads (.args []) (d+1) s.next (.ok (l,s1))) (hb:s1.is rp=false):Reads (.call nm at_) d s (.error (8,s1.tok.place)):=by obtain ⟨n,hn⟩:=g;refine ⟨n+1,?_⟩;rw [Qg,Qk h,Qd (by omega),Qd (by rw [hr];decide),hn];show (if s1.is rp=true then _ else _)=_;rw [hb];rfl
theorem Reads.Q2b (h:s.is lp=true) (hd:d<200) (hr:s.next.is rp=false) (g:Reads (.args []) (d+1) s.next (.ok (l,s1))) (hb:s1.is rp=true):Reads (.call nm at_) d s (lay (En 11 l 0 nm at_) s1.next):=by obtain ⟨n,hn⟩:=g;refine ⟨n+1,?_⟩;rw [Qg,Qk h,Qd (by omega),Qd (by rw [hr];decide),hn];show (if s1.is rp=true then _ else _)=_;rw [Qk hb]
theorem Reads.Qyq (h:acc.length=8):Reads (.args acc) d s (.error (3,s.tok.place)):=⟨1,by rw [Qg,Qk h]⟩
theorem Reads.Wmh (h:acc.length≠8) (g:Reads (.chain 0) d s (.error f)):Reads (.args acc) d s (.error f):=by obtain ⟨n,hn⟩:=g;exact ⟨n+1,by rw [Qg,Qd h,hn];rfl⟩
theorem Reads.Q2k (h:acc.length≠8) (g:Reads (.chain 0) d s (.ok ([p],s1))) (hc:s1.is comma=false):Reads (.args acc) d s (.ok (acc++[p],s1)):=by obtain ⟨n,hn⟩:=g;refine ⟨n+1,?_⟩;rw [Qg,Qd h,hn];show (if s1.is comma=true then _ else _)=_;rw [hc];rfl
theorem Reads.Qwl (h:acc.length≠8) (g:Reads (.chain 0) d s (.ok ([p],s1))) (hc:s1.is comma=true) (r:Reads (.args (acc++[p])) d s1.next v):Reads (.args acc) d s v:=by obtain ⟨n,hn⟩:=g;obtain ⟨m,hm⟩:=r;refine ⟨max n m+1,?_⟩;rw [Qg,Qd h,Hy hn (Nat.le_max_left ..)];show (if s1.is comma=true then _ else _)=_;rw [Qk hc];exact Hy hm (Nat.le_max_right ..)
def sg (t:Tk):Nat:=
 if sees t lp then 1 else if sees t Bz then 2 else if sees t Cv then 3 else if sees t Di then 4 else if sees t Ky then 5 else if sees t Ah then 6 else if t.kind=2 then 7 else if t.kind=1 then 8 else 0
theorem Eh (n d:Nat) (s:PS):Qg (n+1) .single d s=(match sg s.tok with
  | 1=>Qg n (.inner lp rp) d s
  | 2=>some (lay (En 2 [] 1 ⟨#[]⟩ s.tok.place) s.next)
  | 3=>some (lay (En 2 [] 0 ⟨#[]⟩ s.tok.place) s.next)
  | 4=>some (lay (En 3 [] 0 ⟨#[]⟩ s.tok.place) s.next)
  | 5=>Out.go (Qg n (.inner lp rp) d s.next) λq s1=>some (lay (En 9 [hd1 q] 0 ⟨#[]⟩ s.tok.place) s1)
  | 6=>Out.go (Qg n (.inner lp rp) d s.next) λq s1=>some (lay (En 10 [hd1 q] 0 ⟨#[]⟩ s.tok.place) s1)
  | 7=>some (lay (En 1 [] s.tok.n ⟨#[]⟩ s.tok.place) s.next)
  | 8=>(if s.next.is lp then Qg n (.call ⟨s.tok.text.toArray⟩ s.tok.place) d s.next else some (lay (En 4 [] 0 ⟨s.tok.text.toArray⟩ s.tok.place) s.next))
  |_=>some (.error (8,s.tok.place))):=by
 rw [Qg];unfold sg PS.is;by_cases h1:sees s.tok lp=true
 ·simp only [Qk h1]
 by_cases h2:sees s.tok Bz=true
 ·simp only [Qd h1,Qk h2]
 by_cases h3:sees s.tok Cv=true
 ·simp only [Qd h1,Qd h2,Qk h3]
 by_cases h4:sees s.tok Di=true
 ·simp only [Qd h1,Qd h2,Qd h3,Qk h4]
 by_cases h5:sees s.tok Ky=true
 ·simp only [Qd h1,Qd h2,Qd h3,Qd h4,Qk h5]
 by_cases h6:sees s.tok Ah=true
 ·simp only [Qd h1,Qd h2,Qd h3,Qd h4,Qd h5,Qk h6]
 by_cases h7:s.tok.kind=2
 ·simp only [Qd h1,Qd h2,Qd h3,Qd h4,Qd h5,Qd h6,Qk h7]
 by_cases h8:s.tok.kind=1
 ·simp only [Qd h1,Qd h2,Qd h3,Qd h4,Qd h5,Qd h6,Qd h7,Qk h8]
 ·simp only [Qd h1,Qd h2,Qd h3,Qd h4,Qd h5,Qd h6,Qd h7,Qd h8]
theorem Reads.Qw2 (h:sg s.tok=1) (g:Reads (.inner lp rp) d s v):Reads .single d s v:=by obtain ⟨n,hn⟩:=g;exact ⟨n+1,by rw [Eh,h];exact hn⟩
theorem Reads.Qsj (h:sg s.tok=2):Reads .single d s (lay (En 2 [] 1 ⟨#[]⟩ s.tok.place) s.next):=⟨1,by rw [Eh,h];rfl⟩
theorem Reads.Qs1 (h:sg s.tok=3):Reads .single d s (lay (En 2 [] 0 ⟨#[]⟩ s.tok.place) s.next):=⟨1,by rw [Eh,h];rfl⟩
theorem Reads.Qrl (h:sg s.tok=4):Reads .single d s (lay (En 3 [] 0 ⟨#[]⟩ s.tok.place) s.next):=⟨1,by rw [Eh,h];rfl⟩
theorem Reads.Qss (h:sg s.tok=7):Reads .single d s (lay (En 1 [] s.tok.n ⟨#[]⟩ s.tok.place) s.next):=⟨1,by rw [Eh,h];rfl⟩
def Qbu (j:Nat):Int:=if j=5 then 9 else 10
theorem Reads.Q7z {j:Nat} (hj:j=5\/j=6) (h:sg s.tok=j) (g:Reads (.inner lp rp) d s.next (.error f)):Reads .single d s (.error f):=by
 obtain ⟨n,hn⟩:=g;rcases hj with rfl |rfl
 ·exact ⟨n+1,by rw [Eh,h];simp only [];rw [hn];rfl⟩
 ·exact ⟨n+1,by rw [Eh,h];simp only [];rw [hn];rfl⟩
theorem Reads.Qfb {j:Nat} (hj:j=5\/j=6) (h:sg s.tok=j) (g:Reads (.inner lp rp) d s.next (.ok ([q],s1))):Reads .single d s (lay (En (Qbu j) [q] 0 ⟨#[]⟩ s.tok.place) s1):=by
 obtain ⟨n,hn⟩:=g;rcases hj with rfl |rfl
 ·exact ⟨n+1,by rw [Eh,h];simp only [];rw [hn];rfl⟩
 ·exact ⟨n+1,by rw [Eh,h];simp only [];rw [hn];rfl⟩
theorem Reads.Qza (h:sg s.tok=8) (hp:s.next.is lp=true) (g:Reads (.call ⟨s.tok.text.toArray⟩ s.tok.place) d s.next v):Reads .single d s v:=by obtain ⟨n,hn⟩:=g;exact ⟨n+1,by rw [Eh,h];simp only [];rw [Qk hp];exact hn⟩
theorem Reads.Qmz (h:sg s.tok=8) (hp:s.next.is lp=false):Reads .single d s (lay (En 4 [] 0 ⟨s.tok.text.toArray⟩ s.tok.place) s.next):=by exact ⟨1,by rw [Eh,h];simp only [];rw [hp];rfl⟩
theorem Reads.Q71 (h:sg s.tok=0):Reads .single d s (.error (8,s.tok.place)):=⟨1,by rw [Eh,h];rfl⟩
def Fq (s:PS) (v:Out):Prop:= ∀l s',v= .ok (l,s')->s'.l.length+s'.r.length<=s.l.length+s.r.length/\s'.r.length<=s.r.length/\(s.h.length=s.l.length->s'.h.length=s'.l.length)
theorem Fq.err (e:Qq):Fq s (.error e):=λl s' h=>by cases h
theorem Fq.ok {l:List Int}:Fq s (.ok (l,s)):=λl s' h=>by cases h;exact ⟨Qh _,Qh _,id⟩
theorem Fq.next (h:s.next.r.length+1=s.r.length) {v:Out} (hv:Fq s.next v):Fq s v:=λl s' e=>by obtain ⟨h1,h2,h3⟩:=hv l s' e;have e1:s.next.l=s.l:=rfl;have e2:s.next.h=s.h:=rfl;rw [e1]at h1 h3;rw [e2]at h3;exact ⟨by omega,by omega,h3⟩
theorem Qbq {x:Nd} {l:List Int} {s':PS} (h:lay x s= .ok (l,s')):s'.l.length=s.l.length+1/\s'.r=s.r/\(s.h.length=s.l.length->s'.h.length=s'.l.length)/\l=[(s.l.length:Int)]:=by
 unfold lay at h;split at h
 ·cases h
 ·injection h with h
  injection h with h1 h2
  subst h1 h2;exact ⟨by simp,rfl,λe=>by simp [e],rfl⟩
theorem Fq.lay {x:Nd} (h1:s1.l.length+s1.r.length+1<=s.l.length+s.r.length) (h2:s1.r.length<=s.r.length) (h3:s.h.length=s.l.length->s1.h.length=s1.l.length):Fq s (lay x s1):=λl s' e=>by obtain ⟨a,b,c,_⟩:=Qbq e;rw [b];exact ⟨by omega,h2,λe=>c (h3 e)⟩
theorem Ii {t:List UInt8} (h:s.is t=true):s.next.r.length+1=s.r.length:=by
 unfold PS.is PS.tok at h;cases hr:s.r with
 |nil=>rw [hr]at h;simp [sees]at h
 |cons t r=>unfold PS.next;rw [hr];rfl
theorem Qgp (h:s.tok.kind≠0):s.next.r.length+1=s.r.length:=by
 unfold PS.tok at h;cases hr:s.r with
 |nil=>rw [hr]at h;exact absurd rfl h
 |cons t r=>unfold PS.next;rw [hr];rfl
theorem Qpb {t:Tk}: ∀(n a:Nat) {o:Nat},Lr t a n=some o->sees t (Xu.getD o [])=true/\a<=o/\o<a+n
 | 0,_,_,h=>by cases h
 |n+1,a,o,h=>by
  unfold Lr at h;split at h
  ·injection h with h;subst h;exact ⟨by assumption,Qh _,by omega⟩
  ·have:=Qpb n (a+1) h;exact ⟨this.1,by omega,by omega⟩
theorem Qx1 {t:Tk} {o:Nat} (h:opAt lv t=some o):sees t (Xu.getD o [])=true:=(Qpb _ _ h).1
theorem go_ok {o:Option Out} {f:List Int->PS->Option Out} {v:Out} (h:Out.go o f=some v):(∃e,o=some (.error e)/\v= .error e)\/ ∃p s1,o=some (.ok (p,s1))/\f p s1=some v:=by
 cases o with
 |none=>cases h
 |some u=>
  cases u with
  |error e=>injection h with h;exact .inl ⟨e,rfl,h.symm⟩
  |ok x=>obtain ⟨p,s1⟩:=x;exact .inr ⟨p,s1,rfl,h⟩
theorem Lg: ∀(n:Nat) (m:Md) (d:Nat) (s:PS) (v:Out),Qg n m d s=some v->Fq s v
 | 0,_,_,_,_,h=>by cases h
 |n+1,.chain lv,d,s,v,h=>by
  have ih:=Lg n;rw [Qg]at h;split at h
  ·exact ih _ _ _ _ h
  ·rcases go_ok h with ⟨e,_,rfl⟩ |⟨p,s1,h1,h2⟩
   ·exact .err e
   ·have a:=ih _ _ _ _ h1 _ _ rfl;intro l s' e;have b:=ih _ _ _ _ h2 l s' e;exact ⟨by omega,by omega,λx=>b.2.2 (a.2.2 x)⟩
 |n+1,.loop lv p,d,s,v,h=>by
  have ih:=Lg n;rw [Qg]at h;cases ho:opAt lv s.tok with
  |none=>rw [ho]at h;injection h with h;subst h;exact .ok
  |some op=>
   rw [ho]at h;have hs:=Ii (s:=s) (Qx1 ho);rcases go_ok h with ⟨e,_,rfl⟩ |⟨q,s1,h1,h2⟩
   ·exact .err e
   ·have a:=Fq.next hs (ih _ _ _ _ h1) _ _ rfl;have a':=ih _ _ _ _ h1 _ _ rfl;have e1:s.next.l=s.l:=rfl;rw [e1]at a';rcases go_ok h2 with ⟨e,_,rfl⟩ |⟨k,s2,h3,h4⟩
    ·exact .err e
    ·injection h3 with h3
     have c:=Qbq h3;split at h4
     ·injection h4 with h4;subst h4
      intro l s' e;cases e;rw [c.2.1];exact ⟨by omega,by omega,λx=>c.2.2.1 (a.2.2 x)⟩
     ·intro l s' e;have b:=ih _ _ _ _ h4 l s' e;rw [c.2.1]at b;exact ⟨by omega,by omega,λx=>b.2.2 (c.2.2.1 (a.2.2 x))⟩
 |n+1,.front,d,s,v,h=>by
  have ih:=Lg n;rw [Qg]at h;split at h
  ·rename_i g;have hs:s.next.r.length+1=s.r.length:=by
    rw [Bool.or_eq_true]at g;rcases g with g |g
    ·exact Ii g
    ·exact Ii g
   split at h
   ·injection h with h;subst h;exact .err _
   ·rcases go_ok h with ⟨e,_,rfl⟩ |⟨q,s1,h1,h2⟩
    ·exact .err e
    ·have a:=ih _ _ _ _ h1 _ _ rfl;have e1:s.next.l=s.l:=rfl;have e2:s.next.h=s.h:=rfl;rw [e1,e2]at a;injection h2 with h2
     subst h2;exact .lay (by omega) (by omega) a.2.2
  ·exact ih _ _ _ _ h
 |n+1,.idx,d,s,v,h=>by
  have ih:=Lg n;rw [Qg]at h;rcases go_ok h with ⟨e,_,rfl⟩ |⟨p,s1,h1,h2⟩
  ·exact .err e
  ·have a:=ih _ _ _ _ h1 _ _ rfl;intro l s' e;have b:=ih _ _ _ _ h2 l s' e;exact ⟨by omega,by omega,λx=>b.2.2 (a.2.2 x)⟩
 |n+1,.more p,d,s,v,h=>by
  have ih:=Lg n;rw [Qg]at h;split at h
  ·rename_i g;rcases go_ok h with ⟨e,_,rfl⟩ |⟨q,s1,h1,h2⟩
   ·exact .err e
   ·have hi:s1.l.length+s1.r.length+1<=s.l.length+s.r.length/\s1.r.length<=s.r.length/\(s.h.length=s.l.length->s1.h.length=s1.l.length):=by
     cases n with
     |zero=>cases h1
     |succ n=>
      rw [Qg,Qk g]at h1;have hs:=Ii g;split at h1
      ·cases h1
      ·rcases go_ok h1 with ⟨e,_,he⟩ |⟨p2,s3,h3,h4⟩
       ·cases he
       ·have a:=Lg n _ _ _ _ h3 _ _ rfl;have e1:s.next.l=s.l:=rfl;have e2:s.next.h=s.h:=rfl;rw [e1,e2]at a;split at h4
        ·rename_i g2;have hs2:=Ii g2;injection h4 with h4
         injection h4 with h4
         injection h4 with _ h5
         subst h5;have e3:s3.next.l=s3.l:=rfl;have e4:s3.next.h=s3.h:=rfl;rw [e3,e4];exact ⟨by omega,by omega,a.2.2⟩
        ·cases h4
    rcases go_ok h2 with ⟨e,_,rfl⟩ |⟨k,s2,h3,h4⟩
    ·exact .err e
    ·injection h3 with h3
     have c:=Qbq h3;intro l s' e;have b:=ih _ _ _ _ h4 l s' e;rw [c.2.1]at b;exact ⟨by omega,by omega,λx=>b.2.2 (c.2.2.1 (hi.2.2 x))⟩
  ·injection h with h;subst h;exact .ok
 |n+1,.inner a b,d,s,v,h=>by
  have ih:=Lg n;rw [Qg]at h;split at h
  ·rename_i g;have hs:=Ii g;split at h
   ·injection h with h;subst h;exact .err _
   ·rcases go_ok h with ⟨e,_,rfl⟩ |⟨q,s1,h1,h2⟩
    ·exact .err e
    ·have a:=Fq.next hs (ih _ _ _ _ h1) _ _ rfl;split at h2
     ·rename_i g2;have hs2:=Ii g2;injection h2 with h2
      subst h2;intro l s' e;cases e;have e1:s1.next.l=s1.l:=rfl;have e2:s1.next.h=s1.h:=rfl;rw [e1,e2];exact ⟨by omega,by omega,a.2.2⟩
     ·injection h2 with h2;subst h2;exact .err _
  ·injection h with h;subst h;exact .err _
 |n+1,.call nm at_,d,s,v,h=>by
  have ih:=Lg n;rw [Qg]at h;split at h
  ·rename_i g;have hs:=Ii g;split at h
   ·injection h with h;subst h;exact .err _
   ·rcases go_ok h with ⟨e,_,rfl⟩ |⟨q,s1,h1,h2⟩
    ·exact .err e
    ·have a':Fq s.next (.ok (q,s1)):=by
      split at h1
      ·injection h1 with h1;injection h1 with h1;injection h1 with h3 h4;subst h3 h4;exact .ok
      ·exact ih _ _ _ _ h1
     have a:=Fq.next hs a' _ _ rfl;split at h2
     ·rename_i g2;have hs2:=Ii g2;injection h2 with h2
      subst h2;have e1:s1.next.l=s1.l:=rfl;have e2:s1.next.h=s1.h:=rfl;exact .lay (by rw [e1];omega) (by omega) (by rw [e1,e2];exact a.2.2)
     ·injection h2 with h2;subst h2;exact .err _
  ·injection h with h;subst h;exact .err _
 |n+1,.args acc,d,s,v,h=>by
  have ih:=Lg n;rw [Qg]at h;split at h
  ·injection h with h;subst h;exact .err _
  ·rcases go_ok h with ⟨e,_,rfl⟩ |⟨p,s1,h1,h2⟩
   ·exact .err e
   ·have a:=ih _ _ _ _ h1 _ _ rfl;split at h2
    ·rename_i g2;have hs2:=Ii g2;intro l s' e;have b:=Fq.next hs2 (ih _ _ _ _ h2) l s' e;exact ⟨by omega,by omega,λx=>b.2.2 (a.2.2 x)⟩
    ·injection h2 with h2;subst h2
     intro l s' e;cases e;exact a
 |n+1,.single,d,s,v,h=>by
  have ih:=Lg n;rw [Eh]at h;have hk:sg s.tok≠0->s.next.r.length+1=s.r.length:=by intro h0;refine Qgp (λe=>h0 ?_);unfold sg sees;rw [e];rfl
  have e1:s.next.l=s.l:=rfl;have e2:s.next.h=s.h:=rfl;have leaf:sg s.tok≠0-> ∀x,some (lay x s.next)=some v->Fq s v:=by
   intro h0 x hx;injection hx with hx
   subst hx;have:=hk h0;exact .lay (by rw [e1];omega) (by omega) (by rw [e1,e2];exact id)
  have Qh9:sg s.tok≠0-> ∀K,(Out.go (Qg n (.inner lp rp) d s.next) λq s1=>some (lay (En K [hd1 q] 0 ⟨#[]⟩ s.tok.place) s1))=some v->Fq s v:=by
   intro h0 K hx;have hs:=hk h0;rcases go_ok hx with ⟨e,_,rfl⟩ |⟨q,s1,h1,h2⟩
   ·exact .err e
   ·have a:=ih _ _ _ _ h1 _ _ rfl;rw [e1,e2]at a;injection h2 with h2
    subst h2;exact .lay (by omega) (by omega) a.2.2
  split at h
  ·exact ih _ _ _ _ h
  ·rename_i hg;exact leaf (by rw [hg];decide) _ h
  ·rename_i hg;exact leaf (by rw [hg];decide) _ h
  ·rename_i hg;exact leaf (by rw [hg];decide) _ h
  ·rename_i hg;exact Qh9 (by rw [hg];decide) _ h
  ·rename_i hg;exact Qh9 (by rw [hg];decide) _ h
  ·rename_i hg;exact leaf (by rw [hg];decide) _ h
  ·rename_i hg;have hs:=hk (by rw [hg];decide);split at h
   ·exact Fq.next hs (ih _ _ _ _ h)
   ·exact leaf (by rw [hg];decide) _ h
  ·injection h with h;subst h;exact .err _
theorem Reads.N7 {m:Md} {l:List Int} {s':PS} (h:Reads m d s (.ok (l,s'))):s'.l.length+s'.r.length<=s.l.length+s.r.length/\s'.r.length<=s.r.length/\(s.h.length=s.l.length->s'.h.length=s'.l.length):=by obtain ⟨n,hn⟩:=h;exact Lg n _ _ _ _ hn _ _ rfl
end
end Go.Proofs.YtdncpkkhkbijfaaGreatDoor
