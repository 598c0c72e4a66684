import Derived.Test.YtdncpkkhkbijfaaGreatDoorAg15
import Derived.Deep.DeepCutAuto
open Go.Proofs.Tryz
set_option linter.all false
set_option maxHeartbeats 0
set_option maxRecDepth 100000
namespace Go.Proofs.YtdncpkkhkbijfaaGreatDoor
section
variable {o o1:Except Qq PS}{d lv:Nat}{u v:Out}{s:PS}{p:Int}
theorem Ev.succ {F:Nat->Option Out} (h:Ev (λn=>F (n+1)) v):Ev F v:=by obtain ⟨n0,h⟩:=h;refine ⟨n0+1,λn hn=> ?_⟩;obtain ⟨m,rfl⟩: ∃m,n=m+1:=⟨n-1,by omega⟩;exact h m (by omega)
theorem Does.rd {m:Md} {F:PS->Nat->Option Out} (e: ∀s,o= .ok s-> ∀n,Qg (n+1) m d s=F s n) (h:Does o F u):Does o (λs n=>Qg n m d s) u:=by
 cases o with
 |error f=>exact h
 |ok s=>exact Ev.succ (F:=λn=>Qg n m d s) (Ev.congr (e s rfl) h)
theorem Does.Qj {m:Pm} {F:PS->Nat->Option Out} (e: ∀s,o= .ok s-> ∀n,Qac (n+1) m d s=F s n) (h:Does o F u):Does o (λs n=>Qac n m d s) u:=by
 cases o with
 |error f=>exact h
 |ok s=>exact Ev.succ (F:=λn=>Qac n m d s) (Ev.congr (e s rfl) h)
def E9 (p:Int):Except Qq PS->Out
 | .ok s=>.ok ([p],s)
 | .error f=>.error f
theorem Qnp (p:Int) (o:Except Qq PS):toO (E9 p o)=o:=by cases o<;>rfl
theorem Q03 {p:Int} {o:Except Qq PS} (h: ∀f,o= .error f->p= -1):Qt (E9 p o)=p:=by
 cases o with
 |ok s=>rfl
 |error f=>exact (h f rfl).symm
theorem Does.end_ {F:PS->Nat->Option Out} (h: ∀s,o= .ok s-> ∀n,F s n=some (.ok ([p],s))):Does o F (E9 p o):=by
 cases o with
 |error f=>rfl
 |ok s=>exact Ev.const.congr (h s rfl)
def Qf3 (v:Option Out):Prop:= ∀l s',v=some (.ok (l,s'))->l=[hd1 l]
theorem U2 {e:Qq}:Qf3 (some (.error e)):=λl s' h=>by injection h with h;cases h
theorem Qvj {s:PS}:Qf3 (some (.ok ([p],s))):=λl s' h=>by injection h with h;injection h with h;injection h with h1 h2;subst h1;rfl
theorem Rk {x:Nd}:Qf3 (some (lay x s)):=by
 unfold lay;split
 ·exact U2
 ·exact Qvj
theorem Rx {F:Option Out} {f:List Int->PS->Option Out} (g: ∀p s1,F=some (.ok (p,s1))->Qf3 (f p s1)):Qf3 (Out.go F f):=by
 cases F with
 |none=>intro l s' h;cases h
 |some v=>
  match v with
  | .error e=>exact U2
  | .ok (p,s1)=>exact g p s1 rfl
theorem Qby: ∀(n:Nat) (m:Md) (d:Nat) (s:PS),(∀acc,m≠ .args acc)->Qf3 (Qg n m d s)
 | 0,_,_,_,_=>λl s' h=>by cases h
 |n+1,.chain lv,d,s,_=>by
  have ih:=Qby n;rw [Qg];split
  ·exact ih _ _ _ (λ_ e=>by cases e)
  ·exact Rx λp s1 _=>ih _ _ _ (λ_ e=>by cases e)
 |n+1,.loop lv p,d,s,_=>by
  have ih:=Qby n;rw [Qg];cases opAt lv s.tok with
  |none=>exact Qvj
  |some op=>
   refine Rx λq s1 _=>Rx λk s2 h=> ?_;split
   ·have:=Rk (x:=En 5 [p,hd1 q] op ⟨#[]⟩ s.tok.place) (s:=s1) k s2 h;intro l s' e;injection e with e
    injection e with e
    injection e with e1 e2
    subst e1;exact this
   ·exact ih _ _ _ (λ_ e=>by cases e)
 |n+1,.front,d,s,_=>by
  have ih:=Qby n;rw [Qg];split
  ·split
   ·exact U2
   ·exact Rx λq s1 _=>Rk
  ·exact ih _ _ _ (λ_ e=>by cases e)
 |n+1,.idx,d,s,_=>by have ih:=Qby n;rw [Qg];exact Rx λp s1 _=>ih _ _ _ (λ_ e=>by cases e)
 |n+1,.more p,d,s,_=>by
  have ih:=Qby n;rw [Qg];split
  ·exact Rx λq s1 _=>Rx λk s2 _=>ih _ _ _ (λ_ e=>by cases e)
  ·exact Qvj
 |n+1,.inner a b,d,s,_=>by
  have ih:=Qby n;rw [Qg];split
  ·split
   ·exact U2
   ·refine Rx λq s1 h=> ?_;split
    ·have:=ih _ _ _ (λ_ e=>by cases e) q s1 h;intro l s' e;injection e with e
     injection e with e
     injection e with e1 e2
     subst e1;exact this
    ·exact U2
  ·exact U2
 |n+1,.call nm a,d,s,_=>by
  rw [Qg];split
  ·split
   ·exact U2
   ·refine Rx λq s1 h=> ?_;split
    ·exact Rk
    ·exact U2
  ·exact U2
 |n+1,.args acc,d,s,h=>absurd rfl (h acc)
 |n+1,.single,d,s,_=>by
  have ih:=Qby n;rw [Eh];split
  ·exact ih _ _ _ (λ_ e=>by cases e)
  ·exact Rk
  ·exact Rk
  ·exact Rk
  ·exact Rx λq s1 _=>Rk
  ·exact Rx λq s1 _=>Rk
  ·exact Rk
  ·split
   ·exact ih _ _ _ (λ_ e=>by cases e)
   ·exact Rk
  ·exact U2
theorem Does.Qwm {m:Md} (hm: ∀acc,m≠ .args acc) (h:Does o (λs n=>Qg n m d s) v):v=E9 (Qt v) (toO v):=by
 cases o with
 |error f=>rw [show v=_ from h];rfl
 |ok s=>
  match v,h with
  | .error f,_=>rfl
  | .ok (l,s1),h=>
   obtain ⟨n,hn⟩:=h;have h1:=Qby n m d s hm l s1 (hn n (Qh _));show Except.ok (l,s1)= .ok ([hd1 l],s1);rw [<-h1]
theorem Does.Qjx (h1: ∀s,o= .ok s->s.is minus=false) (h2: ∀s,o= .ok s->s.is bang=false) (h:Does o (λs n=>Qg n .idx d s) u):Does o (λs n=>Qg n .front d s) u:=
 Does.rd (F:=λs n=>Qg n .idx d s) (λs hs n=>by rw [Qg,h1 s hs,h2 s hs];rfl) h
theorem Does.Qht (h:s.is minus=true\/s.is bang=true) (hd:200<=d):Does (.ok s) (λs n=>Qg n .front d s) (.error (4,s.tok.place)):=Does.Pw (Reads.Qht h hd)
theorem Does.Qm4 (h:s.is minus=true\/s.is bang=true) (hd: ¬200<=d) {v:Out} (h1:Does (.ok s.next) (λs n=>Qg n .front (d+1) s) v) (h2:Does (toO v) (λs1 _=>some (lay (En (if s.is minus then 6 else 7) [Qt v] 0 ⟨#[]⟩ s.tok.place) s1)) u):Does (.ok s) (λs n=>Qg n .front d s) u:=by
 refine Does.rd (F:=λs' n=>Out.go (Qg n .front (d+1) s'.next) λq s1=>some (lay (En (if s.is minus then 6 else 7) [hd1 q] 0 ⟨#[]⟩ s.tok.place) s1)) (λs' hs n=> ?_) ?_
 ·injection hs with hs
  subst hs;rw [Qg,Qk (by simpa using h),Qd hd]
 ·exact Does.go (o:=.ok s.next) (F:=λs n=>Qg n .front (d+1) s) (G:=λk s1 _=>some (lay (En (if s.is minus then 6 else 7) [k] 0 ⟨#[]⟩ s.tok.place) s1)) h1 h2
theorem Does.idx {v:Out} (h1:Does o (λs n=>Qg n .single d s) v) (h2:Does (toO v) (λs n=>Qg n (.more (Qt v)) d s) u):Does o (λs n=>Qg n .idx d s) u:=
 Does.rd (F:=λs n=>Out.go (Qg n .single d s) λp s1=>Qg n (.more (hd1 p)) d s1) (λs _ n=>by rw [Qg]) (Does.go (G:=λk s1 n=>Qg n (.more k) d s1) h1 h2)
theorem Does.Qie (h: ∀s,o= .ok s->s.is lb=false):Does o (λs n=>Qg n (.more p) d s) (E9 p o):=
 Does.rd (F:=λs n=>some (.ok ([p],s))) (λs hs n=>by rw [Qg,h s hs];rfl) (Does.end_ λ_ _ _=>rfl)
theorem Does.Qa0 (h:s.is lb=true) {v1 v2:Out} (h1:Does (.ok s) (λs n=>Qg n (.inner lb rb) d s) v1) (h2:Does (toO v1) (λs1 _=>some (lay (En 8 [p,Qt v1] 0 ⟨#[]⟩ s.tok.place) s1)) v2) (h3:Does (toO v2) (λs n=>Qg n (.more (Qt v2)) d s) u):Does (.ok s) (λs n=>Qg n (.more p) d s) u:=by
 refine Does.rd (F:=λs' n=>Out.go (Qg n (.inner lb rb) d s') λq s1=>Out.go (some (lay (En 8 [p,hd1 q] 0 ⟨#[]⟩ s.tok.place) s1)) λk s2=>Qg n (.more (hd1 k)) d s2) (λs' hs n=> ?_) ?_
 ·injection hs with hs
  subst hs;rw [Qg,Qk h]
 ·exact Does.go (G:=λq s1 n=>Out.go (some (lay (En 8 [p,q] 0 ⟨#[]⟩ s.tok.place) s1)) λk s2=>Qg n (.more (hd1 k)) d s2) h1 (Does.go (F:=λs1 _=>some (lay (En 8 [p,Qt v1] 0 ⟨#[]⟩ s.tok.place) s1)) (G:=λk s2 n=>Qg n (.more k) d s2) h2 h3)
theorem Does.chain (hlv:lv≠5) {v:Out} (h1:Does o (λs n=>Qg n (.chain (lv+1)) d s) v) (h2:Does (toO v) (λs n=>Qg n (.loop lv (Qt v)) d s) u):Does o (λs n=>Qg n (.chain lv) d s) u:=
 Does.rd (F:=λs n=>Out.go (Qg n (.chain (lv+1)) d s) λp s1=>Qg n (.loop lv (hd1 p)) d s1) (λs _ n=>by rw [Qg,Qd hlv]) (Does.go (G:=λk s1 n=>Qg n (.loop lv k) d s1) h1 h2)
theorem Does.Qlb (h:Does o (λs n=>Qg n .front d s) u):Does o (λs n=>Qg n (.chain 5) d s) u:=
 Does.rd (F:=λs n=>Qg n .front d s) (λs _ n=>by rw [Qg,Qk rfl]) h
theorem Does.Qa7 (h: ∀s,o= .ok s->opAt lv s.tok=none):Does o (λs n=>Qg n (.loop lv p) d s) (E9 p o):=
 Does.rd (F:=λs n=>some (.ok ([p],s))) (λs hs n=>by rw [Qg,h s hs]) (Does.end_ λ_ _ _=>rfl)
theorem Does.Qly {op:Nat} (h:opAt lv s.tok=some op) (h2':lv≠2) {v1 v2:Out} (h1:Does (.ok s.next) (λs n=>Qg n (.chain (lv+1)) d s) v1) (h2:Does (toO v1) (λs1 _=>some (lay (En 5 [p,Qt v1] op ⟨#[]⟩ s.tok.place) s1)) v2) (h3:Does (toO v2) (λs n=>Qg n (.loop lv (Qt v2)) d s) u):Does (.ok s) (λs n=>Qg n (.loop lv p) d s) u:=by
 refine Does.rd (F:=λs' n=>Out.go (Qg n (.chain (lv+1)) d s'.next) λq s1=>Out.go (some (lay (En 5 [p,hd1 q] op ⟨#[]⟩ s.tok.place) s1)) λk s2=>Qg n (.loop lv (hd1 k)) d s2) (λs' hs n=> ?_) ?_
 ·injection hs with hs
  subst hs;rw [Qg,h];simp only [Qd h2']
 ·exact Does.go (o:=.ok s.next) (F:=λs n=>Qg n (.chain (lv+1)) d s) (G:=λq s1 n=>Out.go (some (lay (En 5 [p,q] op ⟨#[]⟩ s.tok.place) s1)) λk s2=>Qg n (.loop lv (hd1 k)) d s2) h1 (Does.go (F:=λs1 _=>some (lay (En 5 [p,Qt v1] op ⟨#[]⟩ s.tok.place) s1)) (G:=λk s2 n=>Qg n (.loop lv k) d s2) h2 h3)
theorem Ev.Qbo {x u:Out} (h:Ev (λ_=>some x) u):u=x:=by obtain ⟨n,hn⟩:=h;exact (Option.some.inj (hn n (Qh _))).symm
theorem Wds {x:Nd} (h:Does o (λs _=>some (lay x s)) v):v=E9 (Qt v) (toO v):=by
 cases o with
 |error f=>rw [show v=_ from h];rfl
 |ok s=>
  have h1:=Ev.Qbo h
  match v,h1 with
  | .error f,_=>rfl
  | .ok (l,s1),h1=>
   have h2:=Rk (x:=x) (s:=s) l s1 (by rw [<-h1]);show Except.ok (l,s1)= .ok ([hd1 l],s1);rw [<-h2]
theorem Does.Qno {op:Nat} (h:opAt lv s.tok=some op) (h2':lv=2) {v1 v2:Out} (h1:Does (.ok s.next) (λs n=>Qg n (.chain (lv+1)) d s) v1) (h2:Does (toO v1) (λs1 _=>some (lay (En 5 [p,Qt v1] op ⟨#[]⟩ s.tok.place) s1)) v2):Does (.ok s) (λs n=>Qg n (.loop lv p) d s) (E9 (Qt v2) (toO v2)):=by
 rw [<-Wds h2];refine Does.rd (F:=λs' n=>Out.go (Qg n (.chain (lv+1)) d s'.next) λq s1=>some (lay (En 5 [p,hd1 q] op ⟨#[]⟩ s.tok.place) s1)) (λs' hs n=> ?_) ?_
 ·injection hs with hs
  subst hs;rw [Qg,h];simp only [Qk h2'];congr 1
  funext q s1
  cases lay (En 5 [p,hd1 q] op ⟨#[]⟩ s.tok.place) s1 with
  |error f=>rfl
  |ok x=>rfl
 ·exact Does.go (o:=.ok s.next) (F:=λs n=>Qg n (.chain (lv+1)) d s) (G:=λq s1 n=>some (lay (En 5 [p,q] op ⟨#[]⟩ s.tok.place) s1)) h1 h2
theorem Does.Qz7 {a b:List UInt8} {t:Nat} {f:Qq} (ht: ∀s,o= .ok s->t=s.tok.place) (h:Gy d t (Yv a o)= .error f):Does o (λs n=>Qg n (.inner a b) d s) (.error f):=by
 cases o with
 |error f'=>injection h with h;subst h;rfl
 |ok s=>
  have ht:=ht s rfl;subst ht;cases ha:s.is a with
  |false=>rw [Ov ha]at h;injection h with h;subst h;exact Does.Pw (Reads.Qyg ha)
  |true=>
   rw [Oq ha]at h;by_cases hd:200<=d
   ·rw [Ry hd]at h;injection h with h;subst h;exact Does.Pw (Reads.Qxo ha hd)
   ·rw [Un hd]at h;cases h
theorem Qpe {d t:Nat} {o:Except Qq PS} {s2:PS} (h:Gy d t o= .ok s2):o= .ok s2/\ ¬200<=d:=by
 cases o with
 |error f=>cases h
 |ok s=>
  by_cases hd:200<=d
  ·rw [Ry hd]at h;cases h
  ·rw [Un hd]at h;exact ⟨h,hd⟩
theorem Qtk {a:List UInt8} {s1:PS} (h:Yv a o= .ok s1): ∃s,o= .ok s/\s.is a=true/\s1=s.next:=by
 cases o with
 |error f=>cases h
 |ok s=>
  cases ha:s.is a with
  |false=>rw [Ov ha]at h;cases h
  |true=>rw [Oq ha]at h;injection h with h;exact ⟨s,rfl,ha,h.symm⟩
theorem Does.Qcu {a b:List UInt8} (ha:s.is a=true) (hd: ¬200<=d) {v1:Out} (h1:Does (.ok s.next) (λs n=>Qg n (.chain 0) (d+1) s) v1):Does (.ok s) (λs n=>Qg n (.inner a b) d s) (E9 (Qt v1) (Yv b (toO v1))):=by
 have h3:=h1.Qwm (λ_ e=>by cases e);refine Does.rd (F:=λs' n=>Out.go (Qg n (.chain 0) (d+1) s'.next) λp s1=>if s1.is b then some (.ok (p,s1.next))else some (.error (8,s1.tok.place))) (λs' hs n=> ?_) ?_
 ·injection hs with hs
  subst hs;rw [Qg,Qk ha,Qd hd]
 ·match v1,h1,h3 with
  | .error f,h1,_=>exact Ev.Qis (f:=λn p s1=>if s1.is b then some (.ok (p,s1.next))else some (.error (8,s1.tok.place))) h1
  | .ok (l,s1),h1,h3=>
   have h4:l=[hd1 l]:=(by injection h3 with h3;injection h3);refine Ev.go (f:=λn p s1=>if s1.is b then some (.ok (p,s1.next))else some (.error (8,s1.tok.place))) h1 ?_;show Ev _ (E9 (hd1 l) (Yv b (.ok s1)));cases hb:s1.is b with
   |true=>rw [Oq hb];exact Ev.const.congr λn=>by rw [show E9 (hd1 l) (Except.ok s1.next)= .ok (l,s1.next) by rw [h4];rfl];rfl
   |false=>rw [Ov hb];exact Ev.const.congr λn=>rfl
def Qbv (d:Nat):PS->Nat->Option Out:=λs n=>Qm lp s λs1=>if 200<=d then some (.error (4,s.tok.place))else Out.go (if s1.is rp then some (.ok ([],s1))else Qg n (.args []) (d+1) s1) λl s2=>Qm rp s2 λs3=>some (.ok (l,s3))
def Tc (d:Nat) (acc:List Int):PS->Nat->Option Out:=λs n=>if s.is comma then Qg n (.args acc) d s.next else some (.ok (acc,s))
theorem Does.call {nm:ByteArray} {a:Nat} {v:Out} {acc:List Int} (h1:Does o (Qbv d) v) (hq: ∀p s,v= .ok (p,s)->acc=p) (h2:Does (toO v) (λs _=>some (lay (En 11 acc 0 nm a) s)) u):Does o (λs n=>Qg n (.call nm a) d s) u:=by
 refine Does.rd (F:=λs n=>Out.go (Qbv d s n) λl s3=>some (lay (En 11 l 0 nm a) s3)) (λs _ n=> ?_) (Does.go' (G:=λl s3 _=>some (lay (En 11 l 0 nm a) s3)) h1 hq h2);rw [Qg];unfold Qbv Qm;split
 ·split
  ·rfl
  ·dsimp only
   generalize (if s.next.is rp=true then some (Except.ok ([],s.next))else Qg n (.args []) (d+1) s.next:Option Out)=F;cases F with
   |none=>rfl
   |some v=>
    match v with
    | .error f=>rfl
    | .ok (l,s2)=>
     show (if s2.is rp=true then _ else _)=Out.go (if s2.is rp=true then _ else _) _;split
     ·rfl
     ·rfl
 ·rfl
theorem Does.Wev {t:Nat} {f:Qq} (ht: ∀s,o= .ok s->t=s.tok.place) (h:Gy d t (Yv lp o)= .error f):Does o (Qbv d) (.error f):=by
 cases o with
 |error f'=>injection h with h;subst h;rfl
 |ok s=>
  have ht:=ht s rfl;subst ht;refine Does.need (o:=.ok s) (b:=lp) (G:=λs1 n=>if 200<=d then some (.error (4,s.tok.place))else Out.go (if s1.is rp then some (.ok ([],s1))else Qg n (.args []) (d+1) s1) λl s2=>Qm rp s2 λs3=>some (.ok (l,s3))) ?_;cases hn:Yv lp (.ok s)with
  |error f'=>rw [hn]at h;injection h with h;subst h;rfl
  |ok s1=>
   rw [hn]at h;by_cases hd:200<=d
   ·rw [Ry hd]at h;injection h with h;subst h;exact Ev.Pb hd Ev.const
   ·rw [Un hd]at h;cases h
theorem Does.Qzt (ha:s.is lp=true) (hd: ¬200<=d) {v1:Out} (h1:Does (.ok s.next) (λs1 n=>if s1.is rp then some (.ok ([],s1))else Qg n (.args []) (d+1) s1) v1) {acc:List Int} (hq: ∀p s,v1= .ok (p,s)->acc=p) (h:Does (toO v1) (λs2 _=>Qm rp s2 λs3=>some (.ok (acc,s3))) u):Does (.ok s) (Qbv d) u:=by refine Does.need (o:=.ok s) (b:=lp) (G:=λs1 n=>if 200<=d then some (.error (4,s.tok.place))else Out.go (if s1.is rp then some (.ok ([],s1))else Qg n (.args []) (d+1) s1) λl s2=>Qm rp s2 λs3=>some (.ok (l,s3))) ?_;rw [Oq ha];exact Ev.Gi hd (Does.go' (o:=.ok s.next) (F:=λs1 n=>if s1.is rp then some (.ok ([],s1))else Qg n (.args []) (d+1) s1) (G:=λl s2 _=>Qm rp s2 λs3=>some (.ok (l,s3))) h1 hq h)
theorem Does.Wa3 (hr:s.is rp=false) {v1:Out} (h1:Does (.ok s) (λs n=>Qg n (.chain 0) d s) v1) (h:Does (toO v1) (Tc d [Qt v1]) u):Does (.ok s) (λs1 n=>if s1.is rp then some (.ok ([],s1))else Qg n (.args []) d s1) u:=by refine Ev.Gi (F:=λn=>some (.ok ([],s))) (by rw [hr];decide) ?_;refine Does.rd (o:=.ok s) (F:=λs n=>Out.go (Qg n (.chain 0) d s) λp s1=>Tc d [hd1 p] s1 n) (λs' _ n=> ?_) (Does.go (G:=λk s1 n=>Tc d [k] s1 n) h1 h);rw [Qg];rfl
theorem Does.Wda {acc:List Int} (h: ∀s,o= .ok s->s.is comma=false): ∃v,Does o (Tc d acc) v/\toO v=o/\ ∀p s,v= .ok (p,s)->acc=p:=by
 cases o with
 |error f=>exact ⟨.error f,rfl,rfl,λp s e=>by cases e⟩
 |ok s=>exact ⟨.ok (acc,s),Ev.const.congr λn=>Qd (by rw [h s rfl];decide),rfl,λp s' e=>by injection e with e;injection e⟩
theorem Does.Q93 {acc:List Int} (hc:s.is comma=true) (h8:acc.length=8):Does (.ok s) (Tc d acc) (.error (3,s.next.tok.place)):=by refine Ev.congr (F:=λn=>Qg n (.args acc) d s.next) (λn=>Qk hc) ?_;exact (Reads.Qyq h8).ev
theorem Does.Wlp {acc:List Int} (hc:s.is comma=true) (h8:acc.length≠8) {v1:Out} (h1:Does (.ok s.next) (λs n=>Qg n (.chain 0) d s) v1) (h:Does (toO v1) (Tc d (acc++[Qt v1])) u):Does (.ok s) (Tc d acc) u:=by refine Ev.congr (F:=λn=>Qg n (.args acc) d s.next) (λn=>Qk hc) ?_;refine Does.rd (o:=.ok s.next) (F:=λs n=>Out.go (Qg n (.chain 0) d s) λp s1=>Tc d (acc++[hd1 p]) s1 n) (λs' _ n=> ?_) (Does.go (G:=λk s1 n=>Tc d (acc++[k]) s1 n) h1 h);rw [Qg,Qd h8];rfl
end
section
open Go.RowKit
variable {B g:Nat}{L:List Tk}{w w':World}{R R':Bx}{d:Nat}{o:Except Qq PS}
def strsOf (l:List (List UInt8)):Array Value:=(l.map λx=>Value.string ⟨x.toArray⟩).toArray
theorem Qt7 {l:List (List UInt8)} {b:Nat} (H:Held w b 9 (strsOf l)) {i:Nat} (hi:i<l.length):w.cell? ⟨b,i,none⟩=some (.string ⟨(l.getD i []).toArray⟩):=by refine H.at_ ?_;unfold strsOf;simp [Y3 hi,List.getD]
def Qk8 (l:List (List UInt8)) (o:Except Qq PS) (k:Int):Prop:=
 (k= -1/\ ∀s,o= .ok s-> ∀j,j<l.length->s.is (l.getD j [])=false)\/
 ∃i:Nat,i<l.length/\k=(i:Int)/\ ∃s,o= .ok s/\s.is (l.getD i [])=true/\ ∀j,j<i->s.is (l.getD j [])=false
theorem Qtd (l:List (List UInt8)) (b n:Nat) (hn:n=l.length) (hs:Held w b 9 (strsOf l)) (hl:l.length<=100) (H:Qw B g L w R d o):
  Calls prog 147 #[.pointer (some ⟨g,0,none⟩),.slice (some ⟨b,0,none⟩) n n] w λen w'=> ∃k:Int,en= .returned (.int .i64 k)/\Below w.heap.size w w'/\Qk8 l o k:=by
 have HH:=Qa H;have HS:=Qa hs;have hn2:n<=100:=by omega
 have HN:=Qa hn;clear H hs hn hl;go_enter func147,ntmps147;go_wp2_with fail;go_loopw [5] (λt5 wr=> ∃i:Nat,i<=n/\t5= .int .i64 (i:Int)/\Hid (Below w.heap.size w wr)/\Hid (∀s,o= .ok s-> ∀j,j<i->s.is (l.getD j [])=false)) (λt5 _=>n-(intOf t5).toNat)
 case atStart=>exact ⟨0,by omega,rfl,Below.refl _ _,λs hs j hj=>absurd hj (by omega)⟩
 case round=>
  obtain ⟨i,hi,rfl,HB,V9⟩:=hrel;by_cases hlt:i<n
  ·have Qaf:(i:Int)<(n:Int):=(by omega);have Sb:=Qa (HS.out.since HB.out);have c0:=Qt7 Sb.out (i:=i) (by have:=HN.out;omega);obtain ⟨c,hc⟩:=Qb (l.getD i []);rw [<-hc]at c0;have HC:=Qa hc;clear hc;go_wp2_with fail;refine (Pj c (HH.out.below HB.out)).mono ?_;rintro en w1 ⟨x,rfl,hb,hc⟩;have HB1:=Qa (Z4 HB.out hb);have HX:=Qa hc;clear hb hc;cases x with
   |true=>
    go_wp2_with fail;go_ret;refine ⟨(i:Int),rfl,HB1.out,.inr ⟨i,by have:=HN.out;omega,rfl,?_⟩⟩;rcases HX.out with ⟨_,s,hs,hb⟩ |⟨h,_⟩
    ·exact ⟨s,hs,by rw [<-HC.out];exact hb,V9.out s hs⟩
    ·cases h
   |false=>
    go_wp2_with fail;go_roundw
    case rel=>
     refine ⟨i+1,by omega,by go_num,HB1,λs hs j hj=> ?_⟩;rcases V7 j i with h1 |h1
     ·exact V9.out s hs j h1
     ·rcases HX.out with ⟨h,_⟩ |⟨_,h⟩
      ·cases h
      ·rw [show j=i by omega,<-HC.out];exact h s hs
    case measure=>simp [intOf];omega
  ·have Qaf: ¬(i:Int)<(n:Int):=(by omega);go_wp2_with fail;go_ret;exact ⟨-1,rfl,HB.out,.inl ⟨rfl,λs hs j hj=>V9.out s hs j (by have:=HN.out;omega)⟩⟩
def P6 (lv:Nat):List (List UInt8):=(List.range (Ag lv+1-Zx lv)).map λj=>Xu.getD (Zx lv+j) []
def opsOf (lv:Nat):Array Value:=((List.range (Ag lv+1-Zx lv)).map λj=>Value.int .i64 ((Zx lv+j:Nat):Int)).toArray
theorem Qg0 (lv:Nat):(P6 lv).length=Ag lv+1-Zx lv:=by simp [P6]
theorem Qvq {lv j:Nat} (hj:j<Ag lv+1-Zx lv):(P6 lv).getD j []=Xu.getD (Zx lv+j) []:=by simp [P6,List.getD,hj]
theorem Wmb {lv j b:Nat} (H:Held w b 3 (opsOf lv)) (hj:j<Ag lv+1-Zx lv):w.cell? ⟨b,j,none⟩=some (.int .i64 ((Zx lv+j:Nat):Int)):=by refine H.at_ ?_;simp [opsOf,hj]
theorem Qk8.op {lv:Nat} {k:Int} (h:Qk8 (P6 lv) o k):(k= -1/\ ∀s,o= .ok s->opAt lv s.tok=none)\/ ∃i:Nat,i<Ag lv+1-Zx lv/\k=(i:Int)/\ ∃s,o= .ok s/\opAt lv s.tok=some (Zx lv+i)/\s.is (Xu.getD (Zx lv+i) [])=true:=by
 rcases h with ⟨h1,h2⟩ |⟨i,h1,h2,s,h3,h4,h5⟩
 ·refine .inl ⟨h1,λs hs=>Qun _ _ λj h3 h4=> ?_⟩;have h6:=h2 s hs (j-Zx lv) (by rw [Qg0];omega);rw [Qvq (by omega),show Zx lv+(j-Zx lv)=j by omega]at h6;exact h6
 ·rw [Qg0]at h1;rw [Qvq h1]at h4;refine .inr ⟨i,h1,h2,s,h3,Qte _ _ _ (by omega) (by omega) (λj h6 h7=> ?_) h4,h4⟩;have h8:=h5 (j-Zx lv) (by omega);rw [Qvq (by omega),show Zx lv+(j-Zx lv)=j by omega]at h8;exact h8
theorem Wgg (w:World) (o:Obj) (t:TypeId) (cs:Array Value):Held ((w.alloc o).alloc (.cells cs t)) (w.heap.size+1) t cs:=by have h:=Held.new (w.alloc o) t cs;rw [show (w.alloc o).heap.size=w.heap.size+1 by simp]at h;exact h
theorem Wb3 {lv n:Nat} (hlv:lv<5) (hn:n=Ag lv+1-Zx lv) (S:Int) (hS:S=(lv:Int)+1):
  Calls prog 146 #[.int .i64 S] w λen w'=> ∃b1 b2:Nat,en= .returned (.tuple #[.slice (some ⟨b1,0,none⟩) n n,.slice (some ⟨b2,0,none⟩) n n])/\Held w' b1 9 (strsOf (P6 lv))/\Held w' b2 3 (opsOf lv)/\w.heap.size<=b1/\w.heap.size<=b2/\Below w.heap.size w w':=by
 match lv,hlv with
 | 0,_ | 1,_ | 2,_ | 3,_ | 4,_=>
  obtain rfl:=hS;obtain rfl:=hn;go_enter func146,ntmps146;go_wp2_with fail;go_ret2;refine ⟨w.heap.size,w.heap.size+1,by simp [Ag,Zx],(Held.new w _ _).since Qag,?_,Qh _,by omega,Qag.alloc (by simp) _⟩;exact Wgg w _ _ _
end
section
open Go.RowKit
variable {B g:Nat}{L:List Tk}{w w':World}{R R':Bx}{d:Nat}{o o1:Except Qq PS}
theorem Gu (H:Qw B g L w R d o): ∃(tk tn ta:Nat) (tx:ByteArray),(∀s,o= .ok s->tk=s.tok.kind/\tn=s.tok.n/\ta=s.tok.place/\tx=⟨s.tok.text.toArray⟩)/\
  Calls prog 31 #[.pointer (some ⟨g,0,none⟩)] w λen w'=>en= .returned (.agg #[.int .i64 (tk:Int),.string tx,.int .i64 (tn:Int),.int .i64 (ta:Int)])/\Below w.heap.size w w':=by
 obtain ⟨t,h1,h2⟩:=Qwq H;exact ⟨t.kind,t.n,t.place,⟨t.text.toArray⟩,λs hs=>(by rw [h1 s hs];exact ⟨rfl,rfl,rfl,rfl⟩),h2⟩
theorem Cc.end_ {p:Int} (hk:Js o1 p) (hg:Grow o o1):Cc o (E9 p o1):=by
 refine ⟨λs' e=> ?_,λs' e=> ?_⟩
 ·rw [Qnp]at e;subst e;exact hk s' rfl
 ·rw [Qnp]at e;exact hg s' e
theorem Qc.next_lt {s:PS} {n m:Nat} {a:List UInt8} (h:Qc (.ok s) n m) (hb:s.is a=true):1<=m/\1<=n/\Qc (.ok s.next) (n-1) (m-1):=by have h1:=h s rfl;have h2:=Ve hb;exact ⟨by omega,by omega,h.Fh hb⟩
def Sq (B g:Nat) (L:List Tk) (M:Nat):Prop:= ∀w R d o,Qw B g L w R d o->(∀s,o= .ok s->d<=200)->Qc o L.length M->Calls prog 111 #[.pointer (some ⟨g,0,none⟩)] w (Jp B g L w R d o (λs n=>Qg n (.chain 0) d s))
theorem Quh {M:Nat} (hE: ∀m,m<M->Sq B g L m) (H:Qw B g L w R d o) (hd: ∀s,o= .ok s->d<=200) (hl:Qc o L.length M):Calls prog 163 #[.pointer (some ⟨g,0,none⟩)] w (Jp B g L w R d o (λs n=>Qg n (.inner lp rp) d s)):=by
 have HS:=Qa (QRun.start H);have HE:=Qa hE;have Wv:=Qa hd;have HL:=Qa hl;have Xp:=Xm;obtain ⟨tk,tn,ta,tx,Wp,hcall⟩:=Gu H;have Wj:=Qa Wp;have HC:=Qa hcall;clear H hE hd hl Wp hcall;go_enter func163,ntmps163;rw [Qz 9];go_wp2_with fail;refine HC.out.mono ?_;rintro en w1 ⟨rfl,hb⟩;replace HS:=Qa (HS.out.below hb);clear hb HC;go_wp2_with fail;refine (Kr lp HS.out.any).mono ?_;rintro en w2 ⟨⟨x2,rfl⟩,ha,hf⟩;replace HS:=Qa (HS.out.step ha hf (λ_ h=>h));clear ha hf;go_wp2_with fail;refine (Qfj ta HS.out.any (λs hs=>by cases o with |error f=>cases hs |ok s0=>have:=Wv.out s0 rfl;omega)).mono ?_;rintro en w3 ⟨⟨x3,rfl⟩,ha,hf⟩;replace HS:=Qa (HS.out.step ha hf (λ_ h=>h));clear ha hf;obtain ⟨o2,ho2⟩:=Qb (Gy d ta (Yv lp o));rw [<-ho2]at HS;have X4:=Qa ho2;clear ho2;cases o2 with
 |error f=>
  obtain ⟨e,c5,he⟩:=Gb HS.out.any;have hen:(e != 0)=true:=by simpa using he
  clear he;go_wp2_with fail;go_ret;exact ⟨.error f,_,Does.Qz7 (λs hs=>(Wj.out s hs).2.2.1) X4.out.symm,⟨⟨HS.out.any,HS.out.fr,HS.out.z⟩,rfl,Cc.err⟩⟩
 |ok s2=>
  have c5:=Hl HS.out.any;obtain ⟨hn,hd2⟩:=Qpe X4.out.symm;obtain ⟨s,rfl,ha,rfl⟩:=Qtk hn;obtain ⟨hM,hN,hl1⟩:=HL.out.next_lt ha;have HA:=Qa ha;have HD2:=Qa hd2;have Ym:=Qa hl1;have HM:=Qa hM;clear hn ha hd2 hl1 hM hN;go_wp2_with fail;refine (HE.out (M-1) (by have:=HM.out;omega) _ _ _ _ HS.out.any (λ_ _=>by have:=HD2.out;omega) (Ym.out.mono (by omega) (Qh _))).mono ?_;rintro en w4 ⟨v,R4,hdo,Qe⟩;obtain rfl:=Qe.en;replace HS:=Qa (HS.out.then_ Qe.run);have Wu:=Qa hdo;have HT:=Qa Qe.tell;obtain ⟨k,hk⟩:=Qb (Qt v);rw [<-hk];have HK:=Qa hk;clear hdo Qe hk c5;go_wp2_with fail;refine (Kr rp HS.out.any).mono ?_;rintro en w5 ⟨⟨x5,rfl⟩,ha,hf⟩;replace HS:=Qa (HS.out.step ha hf (λ_ h=>h));clear ha hf;obtain ⟨o5,ho5⟩:=Qb (Yv rp (toO v));rw [<-ho5]at HS;have Nw:=Qa ho5;clear ho5;obtain ⟨dd,V,c2,f2,hV,ha,hf⟩:=Qw.close HS.out.any (by have:=HD2.out;omega);obtain ⟨W,hW⟩:=Qb (w5.setCell ⟨g,2,none⟩ (.int .i64 V));rw [<-hW]at ha hf;replace HS:=Qa (HS.out.step ha hf (λ_ h=>h));clear ha hf;go_wp2_with fail;rw [<-hV,<-hW];clear hV hW c2 f2;refine Qn ?_;have HG:Hid (Grow (.ok s) o5):=by rw [Nw.out];exact (Grow.next.trans HT.out.grow).trans (Grow.need _)
  have N8:Hid (Js o5 (Qt v)):=by rw [Nw.out];exact HT.out.Xd.grow (Grow.need _)
  have F8:Hid (Does (.ok s) (λs n=>Qg n (.inner lp rp) d s) (E9 (Qt v) o5)):=by rw [Nw.out];exact Does.Qcu HA.out HD2.out Wu.out
  cases o5 with
  |error f=>
   obtain ⟨e,c5,he⟩:=Gb HS.out.any;have hen:(e != 0)=true:=(by simpa using he);clear he;go_wp2_with fail;go_ret;exact ⟨.error f,_,F8.out,⟨⟨HS.out.any,HS.out.fr,HS.out.z⟩,rfl,Cc.err⟩⟩
  |ok s5=>
   have c5:=Hl HS.out.any;go_wp2_with fail;go_ret;exact ⟨E9 (Qt v) (.ok s5),_,F8.out,⟨⟨HS.out.any,HS.out.fr,HS.out.z⟩,by rw [HK.out];rfl,Cc.end_ N8.out HG.out⟩⟩
theorem Qzh {M:Nat} (hE: ∀m,m<M->Sq B g L m) (H:Qw B g L w R d o) (hd: ∀s,o= .ok s->d<=200) (hl:Qc o L.length M):Calls prog 110 #[.pointer (some ⟨g,0,none⟩)] w (Jp B g L w R d o (λs n=>Qg n (.inner lb rb) d s)):=by
 have HS:=Qa (QRun.start H);have HE:=Qa hE;have Wv:=Qa hd;have HL:=Qa hl;have Xp:=Xm;obtain ⟨tk,tn,ta,tx,Wp,hcall⟩:=Gu H;have Wj:=Qa Wp;have HC:=Qa hcall;clear H hE hd hl Wp hcall;go_enter func110,ntmps110;rw [Qz 9];go_wp2_with fail;refine HC.out.mono ?_;rintro en w1 ⟨rfl,hb⟩;replace HS:=Qa (HS.out.below hb);clear hb HC;go_wp2_with fail;refine (Kr lb HS.out.any).mono ?_;rintro en w2 ⟨⟨x2,rfl⟩,ha,hf⟩;replace HS:=Qa (HS.out.step ha hf (λ_ h=>h));clear ha hf;go_wp2_with fail;refine (Qfj ta HS.out.any (λs hs=>by cases o with |error f=>cases hs |ok s0=>have:=Wv.out s0 rfl;omega)).mono ?_;rintro en w3 ⟨⟨x3,rfl⟩,ha,hf⟩;replace HS:=Qa (HS.out.step ha hf (λ_ h=>h));clear ha hf;obtain ⟨o2,ho2⟩:=Qb (Gy d ta (Yv lb o));rw [<-ho2]at HS;have X4:=Qa ho2;clear ho2;cases o2 with
 |error f=>
  obtain ⟨e,c5,he⟩:=Gb HS.out.any;have hen:(e != 0)=true:=by simpa using he
  clear he;go_wp2_with fail;go_ret;exact ⟨.error f,_,Does.Qz7 (λs hs=>(Wj.out s hs).2.2.1) X4.out.symm,⟨⟨HS.out.any,HS.out.fr,HS.out.z⟩,rfl,Cc.err⟩⟩
 |ok s2=>
  have c5:=Hl HS.out.any;obtain ⟨hn,hd2⟩:=Qpe X4.out.symm;obtain ⟨s,rfl,ha,rfl⟩:=Qtk hn;obtain ⟨hM,hN,hl1⟩:=HL.out.next_lt ha;have HA:=Qa ha;have HD2:=Qa hd2;have Ym:=Qa hl1;have HM:=Qa hM;clear hn ha hd2 hl1 hM hN;go_wp2_with fail;refine (HE.out (M-1) (by have:=HM.out;omega) _ _ _ _ HS.out.any (λ_ _=>by have:=HD2.out;omega) (Ym.out.mono (by omega) (Qh _))).mono ?_;rintro en w4 ⟨v,R4,hdo,Qe⟩;obtain rfl:=Qe.en;replace HS:=Qa (HS.out.then_ Qe.run);have Wu:=Qa hdo;have HT:=Qa Qe.tell;obtain ⟨k,hk⟩:=Qb (Qt v);rw [<-hk];have HK:=Qa hk;clear hdo Qe hk c5;go_wp2_with fail;refine (Kr rb HS.out.any).mono ?_;rintro en w5 ⟨⟨x5,rfl⟩,ha,hf⟩;replace HS:=Qa (HS.out.step ha hf (λ_ h=>h));clear ha hf;obtain ⟨o5,ho5⟩:=Qb (Yv rb (toO v));rw [<-ho5]at HS;have Nw:=Qa ho5;clear ho5;obtain ⟨dd,V,c2,f2,hV,ha,hf⟩:=Qw.close HS.out.any (by have:=HD2.out;omega);obtain ⟨W,hW⟩:=Qb (w5.setCell ⟨g,2,none⟩ (.int .i64 V));rw [<-hW]at ha hf;replace HS:=Qa (HS.out.step ha hf (λ_ h=>h));clear ha hf;go_wp2_with fail;rw [<-hV,<-hW];clear hV hW c2 f2;refine Qn ?_;have HG:Hid (Grow (.ok s) o5):=by rw [Nw.out];exact (Grow.next.trans HT.out.grow).trans (Grow.need _)
  have N8:Hid (Js o5 (Qt v)):=by rw [Nw.out];exact HT.out.Xd.grow (Grow.need _)
  have F8:Hid (Does (.ok s) (λs n=>Qg n (.inner lb rb) d s) (E9 (Qt v) o5)):=by rw [Nw.out];exact Does.Qcu HA.out HD2.out Wu.out
  cases o5 with
  |error f=>
   obtain ⟨e,c5,he⟩:=Gb HS.out.any;have hen:(e != 0)=true:=(by simpa using he);clear he;go_wp2_with fail;go_ret;exact ⟨.error f,_,F8.out,⟨⟨HS.out.any,HS.out.fr,HS.out.z⟩,rfl,Cc.err⟩⟩
  |ok s5=>
   have c5:=Hl HS.out.any;go_wp2_with fail;go_ret;exact ⟨E9 (Qt v) (.ok s5),_,F8.out,⟨⟨HS.out.any,HS.out.fr,HS.out.z⟩,by rw [HK.out];rfl,Cc.end_ N8.out HG.out⟩⟩
end
section
open Go.RowKit
variable {B g P T N:Nat}{L:List Tk}{w0 w w':World}{R0 R R':Bx}{d:Nat}{o:Except Qq PS}{v:Value}{acc:List Int}{K n:Int}{S:ByteArray}
theorem Mf {ops:Array Oper} {o:Oper} {a:Act} {K:Act->World->Prop} {Q:Exit->Act->World->Prop} {E:Prop} (hgd:o.guard=none) (s x:Operand)
  (ho:o.op= .call {callee:=.builtin .append,args:= #[s,x],argTypes:= #[35,35]})
  (B:Nat) (w:World) (v:Value) (xs:List Int) (z:Int) (hs:a.eval s=v) (hx:a.eval x= .slice (some ⟨w.heap.size,0,none⟩) 1 1) (hb:Now B w v xs) (hB:B<=w.heap.size) (hlen:xs.length<=10000000)
  (h: ∀v' w',Now B w' v' (xs++[z])->(w.alloc (.cells #[.int .i64 z] 3)).grownBy w' v.ownBlock->(∀k,v'.ownBlock=some k->v.ownBlock=some k\/k=(w.alloc (.cells #[.int .i64 z] 3)).heap.size)->K (a.put o.dst v') w'):
  if Region.wanted o (yielded ops a.tmps)=true then Oper.wp prog o a (w.alloc (.cells #[.int .i64 z] 3)) K Q else E:=by
 obtain ⟨i0,hi,hz0,hz1,hz2⟩:=info_parts Qlf;refine step_append_lies _ hgd s x 35 ho B 3 i0 (.int .i64 0) 1 8 underlying35 hi hz0 hz1 hz2 rfl (by decide) v xs.length (xs.map (Value.int .i64)) hs (World.ownsRow.alloc hb _) ⟨w.heap.size,0,none⟩ 1 1 [.int .i64 z] hx rfl ?_ ?_ (by decide) (by unfold maxLen;omega) (by omega) (by simp;omega) _ rfl ?_
 ·intro j u hj
  match j,hj with
  | 0,hj=>simp at hj;subst hj;simp [Addr.add]
 ·intro u hu;simp at hu;subst hu;rfl
 ·intro g cap w' hown hgrow hw hlt;refine h (.slice (some ⟨g,0,none⟩) (xs.length+1) cap) w' (by unfold Now;rw [Qf,Zp];exact hown) hgrow (λk hk=> ?_);simp [Value.ownBlock]at hk;subst hk;exact hw
theorem Qc.Ao {b:List UInt8} {n m:Nat} (h:Qc o n m):Qc (Yv b o) n m:=by
 cases o with
 |error f=>exact Qc.err
 |ok s=>
  cases hb:s.is b with
  |true=>
   have h1:=h s rfl;have h2:=Ve hb;exact ((Qc.need (b:=b) (n:=n-1) (m:=m-1) (h.mono (by omega) (by omega))).mono (by omega) (by omega))
  |false=>rw [Ov hb];exact Qc.err
theorem Qc.Sk {n m:Nat} (h:Qc o n m):Qc (Vg o) n m:=by
 cases o with
 |error f=>exact Qc.err
 |ok s=>
  by_cases hb:s.tok.kind=1
  ·have h1:=h s rfl;have h2:=Cr (s:=s) (by omega);exact ((Qc.name (n:=n-1) (m:=m-1) (h.mono (by omega) (by omega))).mono (by omega) (by omega))
  ·rw [Qcr hb];exact Qc.err
theorem Run.came {a:Int} (H:Run B g P T L w0 R0 d w R o N K v acc n S a) {u:Out} {en:Ending} (C:Came B g L w R d u en w' R'):Came B g L w0 R0 d u en w' {R' with Z:=R0.Z}:=
 ⟨(H.fr.trans C.fr).right _,rfl,C.en,C.any.less _ (λk hk=>by rw [C.z];exact H.z0 k hk)⟩
def Tx (B g P T:Nat) (L:List Tk) (w0:World) (R0:Bx) (d:Nat) (o:Except Qq PS) (F:PS->Nat->Option Out) (N:Nat) (K:Int) (acc:List Int) (n:Int) (S:ByteArray) (a:Int) (wx:World):Prop:=
 ∃u R3 v3,Does o F u/\(∀n m,Qc o n m->Qc (toO u) n m)/\Run B g P T L w0 R0 d wx R3 (toO u) N K v3 (acc++[Qt u]) n S a
theorem Run.n0 {a:Int} (H:Run B g P T L w0 R0 d w R o N K v acc n S a):w.cell? ⟨N,0,none⟩=some (.int .i64 K):=H.box.at_ rfl
theorem Run.n1 {a:Int} (H:Run B g P T L w0 R0 d w R o N K v acc n S a):w.cell? ⟨N,1,none⟩=some v:=H.box.at_ rfl
theorem Run.n2 {a:Int} (H:Run B g P T L w0 R0 d w R o N K v acc n S a):w.cell? ⟨N,2,none⟩=some (.int .i64 n):=H.box.at_ rfl
theorem Run.n3 {a:Int} (H:Run B g P T L w0 R0 d w R o N K v acc n S a):w.cell? ⟨N,3,none⟩=some (.string S):=H.box.at_ rfl
theorem Run.n4 {a:Int} (H:Run B g P T L w0 R0 d w R o N K v acc n S a):w.cell? ⟨N,4,none⟩=some (.int .i64 a):=H.box.at_ rfl
theorem Ql5 {a:Nat} (H:Pre B g P T L w0 R0 d w R o v acc) (hl:Qc o L.length L.length) (hn:acc.length<=100000):
  Calls prog 57 #[.pointer (some ⟨P,0,none⟩),.agg #[.int .i64 K,v,.int .i64 n,.string S,.int .i64 (a:Int)]] w λen w'=> ∃u R',Does o (λs _=>Qm semi s λs1=>some (lay (En K acc n S (a:Int)) s1)) u/\Came B g L w0 R0 d u en w' R'/\ ∀n m,Qc o (n+1) (m+1)->Qc (toO u) (n+1) m:=by
 obtain ⟨W,hW⟩:=Qb (w.alloc (.cells #[.int .i64 K,v,.int .i64 n,.string S,.int .i64 (a:Int)] 37));obtain ⟨N,hN⟩:=Qb w.heap.size;have HR:Hid (Run B g P T L w0 R0 d W R o N K v acc n S (a:Int)):=by rw [hW,hN];exact H.node K n S a
 have HL:=Qa hl;have HN:=Qa hn;have hp:=HR.out.par.c0;clear H hl hn;go_enter func57,ntmps57;rw [Qz 1];go_wp2_with fail;rw [<-hW,<-hN];clear hW hN;refine Qn ?_;go_wp2_with fail;refine (Qb0 semi HR.out.any).mono ?_;rintro en w1 ⟨⟨x,rfl⟩,ha,hf⟩;replace HR:=Qa (HR.out.step ha hf rfl);clear ha hf hp;have hp:=HR.out.par.c0;have b0:=HR.out.n0;have b1:=HR.out.n1;have b2:=HR.out.n2;have b3:=HR.out.n3;have b4:=HR.out.n4;go_wp2_with fail;go_still_tail 5,(by kernel_rfl);change wpList _ _ _ _ _ w1.drew;replace HR:=Qa (HR.out.below (Zk w1));go_wp2_with fail;refine (Ob K v acc n S a HR.out.any HR.out.now (Qc.Ao HL.out) HN.out).mono ?_;rintro en w2 ⟨u,R',hdo,hc,Wd⟩;obtain rfl:=hc.en;have HC:=Qa (HR.out.came hc);have HD:=Qa (Does.need (b:=semi) (G:=λs _=>some (lay (En K acc n S (a:Int)) s)) hdo);have Xo:=Qa Wd;clear hdo hc Wd;go_wp2_with fail;go_ret;exact ⟨u,_,HD.out,HC.out,λn m h=>Xo.out n m h.need⟩
theorem Qt6 {a:Nat} (H:Pre B g P T L w0 R0 d w R o v acc) (hd: ∀s,o= .ok s->d<=200) (hl:Qc o L.length L.length) (hn:acc.length<=1000):
  Calls prog 58 #[.pointer (some ⟨P,0,none⟩),.agg #[.int .i64 K,v,.int .i64 n,.string S,.int .i64 (a:Int)]] w λen w'=> ∃u R',Does o (λs m=>Wy m d s λk s1=>Qm semi s1 λs2=>some (lay (En K (acc++[k]) n S (a:Int)) s2)) u/\Came B g L w0 R0 d u en w' R'/\ ∀n m,Qc o (n+1) (m+1)->Qc (toO u) (n+1) m:=by
 obtain ⟨W,hW⟩:=Qb (w.alloc (.cells #[.int .i64 K,v,.int .i64 n,.string S,.int .i64 (a:Int)] 37));obtain ⟨N,hN⟩:=Qb w.heap.size;have HR:Hid (Run B g P T L w0 R0 d W R o N K v acc n S (a:Int)):=by rw [hW,hN];exact H.node K n S a
 have HL:=Qa hl;have HN:=Qa hn;have Wv:=Qa hd;clear H hl hn hd;go_enter func58,ntmps58;go_wp2_with fail;rw [<-hW,<-hN];clear hW hN;have Q0:=Qa (HR.out.below (Zk W));have b1:=HR.out.n1;have hp:=HR.out.par.c0;go_cut [] (λwx=>Hid (Tx B g P T L w0 R0 d o (λs n=>Qg n (.chain 0) d s) N K acc n S (a:Int) wx))
 case first=>
  go_region_law (first
   |(go_simp;go_at_call 94;refine (Qic Q0.out.any Wv.out).mono ?_;rintro en w2 ⟨u,R2,hdo,hc,Wd⟩;obtain rfl:=hc.en;have HR2:=Qa (Q0.out.step hc.any hc.fr hc.z);have Wu:=Qa hdo;have Xo:=Qa Wd;obtain ⟨k,hk⟩:=Qb (Qt u);rw [<-hk];have HK:=Qa hk;clear hdo hc Wd hk;have c1:=HR2.out.n1;have c2:=(HR2.out.below ((Below.refl _ _).alloc (Qh _) (.cells #[.int .i64 k] 3))).n1)
   |(refine Mf rfl (.tmp 6) (.tmp 12) rfl w0.heap.size w2 v acc k (by rfl) (by rfl) HR2.out.now HR2.out.fr.size (by have:=HN.out;omega) ?_;intro v3 w3 h3 hg3 hw3;obtain ⟨va,vc,hv3⟩:=Zq h3;obtain ⟨R3,hr3,hc3,hf3⟩:=HR2.out.push h3 hg3 hw3;have HR3:=Qa hr3;clear hr3 h3 hg3 hw3;rw [Qf,Yw]at hv3;subst hv3))
  all_goals
   go_wp2_with fail;go_meet;exact ⟨u,R3,_,Wu.out,Xo.out,by rw [<-HK.out];exact HR3.out⟩
 case rest=>
  obtain ⟨u1,R1,v1,hdo,Wd,hr⟩:=hcut.out;obtain ⟨W1,hwc⟩:=Qb wc;rw [<-hwc]at hr ⊢;have HX:=Qa hr;have HD1:=Qa hdo;have Ym:=Qa Wd;clear hcut hdo Wd hr hwc hp b1 Q0;have b0:=HX.out.n0;have b1:=HX.out.n1;have b2:=HX.out.n2;have b3:=HX.out.n3;have b4:=HX.out.n4;go_wp2_with fail;refine (Ql5 HX.out.toPre (Ym.out _ _ HL.out) (by rw [Qf];have:=HN.out;simp;omega)).mono ?_;rintro en w5 ⟨u2,R5,hd2,hc2,hl2⟩;obtain rfl:=hc2.en;have HD2:=Qa hd2;have Y1:=Qa hc2;have HL2:=Qa hl2;clear hd2 hc2 hl2;go_wp2_with fail;go_ret;exact ⟨u2,R5,Does.ex (G:=λk s1 m=>Qm semi s1 λs2=>some (lay (En K (acc++[k]) n S (a:Int)) s2)) HD1.out HD2.out,Y1.out,λn m h=>HL2.out n m (Ym.out _ _ h)⟩
theorem Qqx {a:Nat} (H:Pre B g P T L w0 R0 d w R o v acc) (hd: ∀s,o= .ok s->d<=200) (hl:Qc o L.length L.length) (hn:acc.length<=1000):
  Calls prog 92 #[.pointer (some ⟨P,0,none⟩),.agg #[.int .i64 K,v,.int .i64 n,.string S,.int .i64 (a:Int)]] w λen w'=> ∃u R',Does o (λs m=>Qm eqs s λs0=>Wy m d s0 λk s1=>Qm semi s1 λs2=>some (lay (En K (acc++[k]) n S (a:Int)) s2)) u/\Came B g L w0 R0 d u en w' R'/\ ∀n m,Qc o (n+1) (m+1)->Qc (toO u) (n+1) m:=by
 obtain ⟨W,hW⟩:=Qb (w.alloc (.cells #[.int .i64 K,v,.int .i64 n,.string S,.int .i64 (a:Int)] 37));obtain ⟨N,hN⟩:=Qb w.heap.size;have HR:Hid (Run B g P T L w0 R0 d W R o N K v acc n S (a:Int)):=by rw [hW,hN];exact H.node K n S a
 have hp:=HR.out.par.c0;have HL:=Qa hl;have HN:=Qa hn;have Wv:=Qa hd;clear H hl hn hd;go_enter func92,ntmps92;rw [Qz 1,Qz 2];go_wp2_with fail;rw [<-hW,<-hN];clear hW hN;refine Qn ?_;go_wp2_with fail;refine (Qb0 eqs HR.out.any).mono ?_;rintro en w1 ⟨⟨x,rfl⟩,ha,hf⟩;replace HR:=Qa (HR.out.step ha hf rfl);clear ha hf hp;have b0:=HR.out.n0;have b1:=HR.out.n1;have b2:=HR.out.n2;have b3:=HR.out.n3;have b4:=HR.out.n4;go_wp2_with fail;refine Qn ?_;go_wp2_with fail;refine (Qt6 HR.out.toPre (λs hs=>by cases o with |error f=>cases hs |ok s=>exact Wv.out s rfl) (Qc.Ao HL.out) HN.out).mono ?_;rintro en w5 ⟨u2,R5,hd2,hc2,hl2⟩;obtain rfl:=hc2.en;have HD2:=Qa (Does.need (b:=eqs) (G:=λs0 m=>Wy m d s0 λk s1=>Qm semi s1 λs2=>some (lay (En K (acc++[k]) n S (a:Int)) s2)) hd2);have Y1:=Qa hc2;have HL2:=Qa hl2;clear hd2 hc2 hl2;go_wp2_with fail;go_ret;exact ⟨u2,R5,HD2.out,Y1.out,λn m h=>HL2.out n m (Qc.Ao h)⟩
theorem Qjj (H:Any B g L w R d o) (hP:Ke w g P T) (K:Int):
  Calls prog 93 #[.pointer (some ⟨P,0,none⟩),.int .i64 K] w λen w'=> ∃a:Nat,en= .returned (.agg #[.int .i64 K,.slice none 0 0,.int .i64 0,.string (Cj o),.int .i64 (a:Int)])/\(∀s,o= .ok s->a=s.tok.place)/\Any B g L w' R d (Vg o)/\Fr g w w' R R:=by
 obtain ⟨W,hW⟩:=Qb (w.alloc (.cells #[.int .i64 0,.slice none 0 0,.int .i64 0,.string ⟨#[]⟩,.int .i64 0] 37));obtain ⟨N,hN⟩:=Qb w.heap.size;have HR:Hid (Run B g P T L w R d W R o N 0 (.slice none 0 0) [] 0 ⟨#[]⟩ 0):=by rw [hW,hN];exact (Pre.start H hP).node 0 0 ⟨#[]⟩ 0
 have Xp:=Xm;have hp:=HR.out.par.c0;clear H hP;go_enter func93,ntmps93;rw [Qz 1,Qz 2];go_wp2_with fail;rw [<-hW,<-hN];clear hW hN;refine Qn ?_;go_wp2_with fail;refine (Qdl HR.out.any).mono ?_;rintro en w1 ⟨tk,tn,ta,tx,rfl,Wp,hb⟩;have Wj:=Qa Wp;replace HR:=Qa (HR.out.below hb);clear hb Wp hp;have hp:=HR.out.par.c0;go_wp2_with fail;refine Qn ?_;go_wp2_with fail;refine (Wc8 HR.out.any).mono ?_;rintro en w2 ⟨rfl,ha,hf⟩;replace HR:=Qa (HR.out.step ha hf rfl);obtain ⟨X,hX⟩:=Qb (Cj o);rw [<-hX];have HX:=Qa hX;clear ha hf hp hX;have b0:=HR.out.n0;have b1:=HR.out.n1;have b2:=HR.out.n2;have b3:=HR.out.n3;have b4:=HR.out.n4;have g0:=HR.out.box.frozen 0;have g1:=HR.out.box.frozen 1;have g2:=HR.out.box.frozen 2;have g3:=HR.out.box.frozen 3;have g4:=HR.out.box.frozen 4;go_wp2_with fail;have HS:=Qa (HR.out.Qy9 K 0 X (ta:Int));obtain ⟨W5,hW5⟩:=Qb (((((w2.setCell ⟨N,0,none⟩ (.int .i64 K)).setCell ⟨N,1,none⟩ (.slice none 0 0)).setCell ⟨N,2,none⟩ (.int .i64 0)).setCell ⟨N,3,none⟩ (.string X)).setCell ⟨N,4,none⟩ (.int .i64 (ta:Int)));rw [<-hW5]at HS ⊢;clear hW5 b0 b1 b2 b3 b4 g0 g1 g2 g3 g4;have b0:=HS.out.n0;have b1:=HS.out.n1;have b2:=HS.out.n2;have b3:=HS.out.n3;have b4:=HS.out.n4;exact bodyPost_ret (v:=.agg #[.int .i64 K,.slice none 0 0,.int .i64 0,.string X,.int .i64 (ta:Int)]) (by simp [results,results93,go_sem,b0,b1,b2,b3,b4]) rfl ⟨ta,by rw [HX.out],λs hs=>(Wj.out s hs).2,HS.out.any,HS.out.fr⟩
end
section
open Go.RowKit
variable {B g:Nat}{L:List Tk}{w w':World}{R R':Bx}{d:Nat}{o o1:Except Qq PS}
def Wmi (d:Nat):PS->Nat->Option Out:=λs1 n=>if s1.is rp then some (.ok ([],s1))else Qg n (.args []) d s1
def Qz8 (B g:Nat) (L:List Tk) (M:Nat) (w0:World) (R0:Bx) (d:Nat) (s:PS) (t3:Value) (wr:World):Prop:=
 ∃(o1:Except Qq PS) (R1:Bx) (acc:List Int),Ar B g L w0 R0 (d+1) wr R1 o1 t3 acc/\acc.length<=9/\Qc o1 (L.length-1) (M-1)/\Grow (.ok s) o1/\(∀s1,o1= .ok s1->acc.length<=8)/\
  ∀u,Does o1 (Tc (d+1) acc) u->Does (.ok s.next) (Wmi (d+1)) u
def Qch (acc:List Int):Except Qq PS->Out
 | .ok s=>.ok (acc,s)
 | .error f=>.error f
theorem Ur (acc:List Int) (o:Except Qq PS):toO (Qch acc o)=o:=by cases o<;>rfl
theorem Qlq {acc:List Int} {o:Except Qq PS}: ∀p s,Qch acc o= .ok (p,s)->acc=p:=λp s e=>by
 cases o with
 |ok s'=>injection e with e;injection e
 |error f=>cases e
theorem Does.Qqi {acc:List Int}:Does o (λs2 _=>Qm rp s2 λs3=>some (.ok (acc,s3))) (Qch acc (Yv rp o)):=by
 refine Does.need (b:=rp) (G:=λs3 _=>some (.ok (acc,s3))) ?_;cases Yv rp o with
 |ok s=>exact Ev.const
 |error f=>rfl
theorem Does.Wfv {v:Out} (h:Does o (Qbv d) v) (n m:Nat) (hl:Qc o n m):Qc (toO v) n m:=by
 cases o with
 |error f=>rw [show v=_ from h];exact Qc.err
 |ok s=>
  obtain ⟨n0,hn⟩:=h;have h1:=hn n0 (Qh _);have h0:=hl s rfl;unfold Qbv Qm at h1;split at h1
  ·rename_i hlp;have hp:=Ve hlp;have e0:s.next.l=s.l:=rfl;split at h1
   ·injection h1 with h1;subst h1;exact Qc.err
   ·rcases go_ok h1 with ⟨e,_,rfl⟩ |⟨l,s2,h2,h3⟩
    ·exact Qc.err
    ·have hs2:s2.l.length+s2.r.length<=s.next.l.length+s.next.r.length/\s2.r.length<=s.next.r.length:=by
      split at h2
      ·injection h2 with h2;injection h2 with h2;injection h2 with _ h2;subst h2;exact ⟨Qh _,Qh _⟩
      ·have h5:=Reads.N7 ⟨n0,h2⟩;exact ⟨h5.1,h5.2.1⟩
     rw [e0]at hs2;split at h3
     ·rename_i Tf;have hq:=Ve Tf;have e2:s2.next.l=s2.l:=rfl;injection h3 with h3
      subst h3;intro s' e;injection e with e
      subst e;rw [e2];exact ⟨by omega,by omega⟩
     ·injection h3 with h3;subst h3;exact Qc.err
  ·injection h1 with h1;subst h1;exact Qc.err
def Wcb (B g:Nat) (L:List Tk) (w:World) (R:Bx) (d:Nat) (o:Except Qq PS) (en:Ending) (w':World):Prop:=
 ∃(v:Out) (R':Bx) (x:Value) (acc:List Int),en= .returned x/\Does o (Qbv d) v/\Ar B g L w R d w' R' (toO v) x acc/\acc.length<=9/\Grow o (toO v)/\ ∀p s,v= .ok (p,s)->acc=p
theorem Wjt {M:Nat} (hE: ∀m,m<M->Sq B g L m) (H:Qw B g L w R d o) (hd: ∀s,o= .ok s->d<=200) (hd9:d<=1000) (hl:Qc o L.length M):Calls prog 134 #[.pointer (some ⟨g,0,none⟩)] w (Wcb B g L w R d o):=by
 have HS:=Qa ((QRun.start H).pre H);have HE:=Qa hE;have Wv:=Qa hd;have HD9:=Qa hd9;have HL:=Qa hl;have Xp:=Xm;obtain ⟨tk,tn,ta,tx,Wp,hcall⟩:=Gu H;have Wj:=Qa Wp;have HC:=Qa hcall;clear H hE hd hl Wp hcall hd9;go_enter func134,ntmps134;rw [Qz 14];go_wp2_with fail;refine HC.out.mono ?_;rintro en w1 ⟨rfl,hb⟩;replace HS:=Qa (HS.out.below hb);clear hb HC;go_wp2_with fail;refine (Kr lp HS.out.any).mono ?_;rintro en w2 ⟨⟨x2,rfl⟩,ha,hf⟩;replace HS:=Qa (HS.out.step ha hf (λ_ h=>h) (Grow.need _));clear ha hf;go_wp2_with fail;refine (Qfj ta HS.out.any (λs hs=>HD9.out)).mono ?_;rintro en w3 ⟨⟨x3,rfl⟩,ha,hf⟩;replace HS:=Qa (HS.out.step ha hf (λ_ h=>h) (Grow.open_ _ _));clear ha hf;obtain ⟨o2,ho2⟩:=Qb (Gy d ta (Yv lp o));rw [<-ho2]at HS;have X4:=Qa ho2;clear ho2;cases o2 with
 |error f=>
  obtain ⟨e,c5,he⟩:=Gb HS.out.any;have hen:(e==0)=false:=by simpa using he
  clear he;go_wp2_with fail;refine (Kr rp HS.out.any).mono ?_;rintro en wa ⟨⟨xa,rfl⟩,ha,hf⟩;replace HS:=Qa (HS.out.step ha hf (λ_ h=>h) (Grow.need _));clear ha hf;obtain ⟨dd,V,c2,f2,hV,ha,hf⟩:=Qw.close HS.out.any (HD9.out);obtain ⟨W,hW⟩:=Qb (wa.setCell ⟨g,2,none⟩ (.int .i64 V));rw [<-hW]at ha hf;replace HS:=Qa (HS.out.step ha hf (λ_ h=>h) (Grow.refl _));clear ha hf;go_wp2_with fail;rw [<-hV,<-hW];clear hV hW c2 f2;refine Qn ?_;go_wp2_with fail;go_ret;exact ⟨.error f,_,_,[],rfl,Does.Wev (λs hs=>(Wj.out s hs).2.2.1) X4.out.symm,HS.out,by simp,Grow.err,λp s e=>by cases e⟩
 |ok s2=>
  have c5:=Hl HS.out.any;obtain ⟨hn,hd2⟩:=Qpe X4.out.symm;obtain ⟨s,rfl,ha,rfl⟩:=Qtk hn;obtain ⟨hM,hN,hl1⟩:=HL.out.next_lt ha;have HA:=Qa ha;have HD2:=Qa hd2;have Ym:=Qa hl1;have HM:=Qa hM;clear hn ha hd2 hl1 hM hN;go_wp2_with fail;refine (Pj rp HS.out.any).mono ?_;rintro en w4 ⟨c,rfl,hb,hc⟩;replace HS:=Qa (HS.out.below hb);clear hb c5;rcases hc with ⟨rfl,s',hs',hb⟩ |⟨rfl,hb⟩
  ·injection hs' with hs'
   subst hs';have HB:=Qa hb;clear hb;go_wp2_with fail;refine (Kr rp HS.out.any).mono ?_;rintro en wa ⟨⟨xa,rfl⟩,ha,hf⟩;replace HS:=Qa (HS.out.step ha hf (λ_ h=>h) (Grow.need _));clear ha hf;obtain ⟨dd,V,c2,f2,hV,ha,hf⟩:=Qw.close HS.out.any (HD9.out);obtain ⟨W,hW⟩:=Qb (wa.setCell ⟨g,2,none⟩ (.int .i64 V));rw [<-hW]at ha hf;replace HS:=Qa (HS.out.step ha hf (λ_ h=>h) (Grow.refl _));clear ha hf;go_wp2_with fail;rw [<-hV,<-hW];clear hV hW c2 f2;refine Qn ?_;go_wp2_with fail;go_ret;refine ⟨Qch [] (Yv rp (.ok s.next)),_,_,[],rfl,?_,by rw [Ur];exact HS.out,by simp,by rw [Ur];exact Grow.next.trans (Grow.need _),Qlq⟩;exact Does.Qzt HA.out HD2.out (v1:=.ok ([],s.next)) (Ev.Pb HB.out Ev.const) (λp s' e=>by injection e with e;injection e) Does.Qqi
  ·have HB:Hid (s.next.is rp=false):=hb _ rfl;clear hb;go_wp2_with fail;refine (HE.out (M-1) (by have:=HM.out;omega) _ _ _ _ HS.out.any (λ_ _=>by have:=HD2.out;omega) (Ym.out.mono (by omega) (Qh _))).mono ?_;rintro en w5 ⟨v,R5,hdo,Qe⟩;obtain rfl:=Qe.en;have HV:=Qa (HS.out.then_ Qe.run Qe.tell.grow);have Wu:=Qa hdo;have HT:=Qa Qe.tell;obtain ⟨k,hk⟩:=Qb (Qt v);rw [<-hk];have HK:=Qa hk;clear hdo Qe hk;go_wp2_with (at_builtin;refine Hf rfl (.tmp 24) (.tmp 27) rfl w.heap.size w5 (.slice none 0 0) [] k rfl rfl HV.out.now HV.out.fr.size (by simp) ?_;intro v3 w6 h3 hg3 hw3;obtain ⟨va,vc,hv3⟩:=Zq h3;obtain ⟨R3,hr3⟩:=HV.out.push (k:=k) (by rw [HK.out];exact HT.out.Xd) h3 hg3 hw3;have HR3:=Qa hr3;clear hr3 h3 hg3 hw3;rw [Xk,Yw]at hv3;subst hv3);have HQ0:Hid (Qz8 B g L M w R d s (.slice va 1 vc) w6):=by refine ⟨_,R3,[k],HR3.out,by simp,Does.Af Wu.out _ _ Ym.out,Grow.next.trans HT.out.grow,λ_ _=>by simp,λu hu=> ?_⟩;rw [HK.out]at hu;exact Does.Wa3 HB.out Wu.out hu
   clear HS HV HR3;go_loopw [3] (λt3 wr=>Hid (Qz8 B g L M w R d s t3 wr)) (λ_ wr=>Y7 g L.length wr)
   case atStart=>exact HQ0
   case round=>
    obtain ⟨o1,R1,acc,hpre,h9,hlim,hgr,h8,hcont⟩:=hrel.out;have HS:=Qa hpre;obtain ⟨la,lc,hv⟩:=Zq hpre.now;obtain ⟨A,hA⟩:=Qb acc.length;rw [<-hA]at hv;subst hv;have Rq:=Qa hA;have K5:=Qa hlim;have Jm:=Qa hgr;have H8:=Qa h8;have H9:=Qa h9;have Az:=Qa hcont;clear hrel hpre h9 hlim hgr h8 hcont hA HQ0;obtain ⟨wo,hwo⟩:=Qb wr;have Eo:=Qa hwo;clear hwo;go_wp2_with fail;refine (Ub comma HS.out.any).mono ?_;rintro en w7 ⟨c,o',rfl,ha,hf,hc⟩;rcases hc with ⟨rfl,s1,hs,hb,ho⟩ |⟨rfl,ho,hb⟩
    ·subst hs;subst ho;have J2:Hid (Y7 g L.length wo=s1.r.length):=(by rw [Eo.out];exact Zu.Y7 HS.out.any);replace HS:=Qa (HS.out.step ha hf (λ_ h=>h) Grow.next);have HB2:=Qa hb;have Yi:=Qa (Ve hb);clear ha hf hb;have Pn:A<=8:=(by have:=H8.out s1 rfl;have:=Rq.out;omega);by_cases Sd:A=8
     ·subst Sd;obtain ⟨tk2,tn2,ta2,tx2,Qh0,Qhy⟩:=Gu HS.out.any;have Wnm:=Qa Qh0;have Y1:=Qa Qhy;clear Qh0 Qhy;go_wp2_with fail;refine Y1.out.mono ?_;rintro en w8 ⟨rfl,hb⟩;replace HS:=Qa (HS.out.below hb);clear hb Y1;go_wp2_with fail;refine (Pz 3 ta2 (by decide) HS.out.any).mono ?_;rintro en w9 ⟨⟨x9,rfl⟩,ha,hf⟩;replace HS:=Qa (HS.out.step ha hf (λ_ h=>h) (Grow.fail _ _));clear ha hf;replace HS:Hid (Ar B g L w R (d+1) w9 R1 (.error (3,ta2)) (.slice la 8 lc) acc):=HS;obtain ⟨e,c5,he⟩:=Gb HS.out.any;have hen:(e==0)=false:=(by simpa using he);clear he;go_wp2_with fail;go_roundw
      case rel=>
       refine ⟨_,R1,acc,HS.out,H9.out,Qc.err,Grow.err,(λ_ e=>by cases e),λu hu=>Az.out u ?_⟩;rw [show u=_ from hu,(Wnm.out _ rfl).2.2.1];exact Does.Q93 HB2.out Rq.out.symm
      case measure=>
       have h1:Y7 g L.length w9=0:=Eu.Y7 HS.out.any;show Y7 g L.length w9<Y7 g L.length _;rw [h1,<-Eo.out,J2.out];have:=Yi.out;omega
     ·have h8i:((A:Int)==8)=false:=(by simp;omega);have c5:=Hl HS.out.any;go_wp2_with fail;have Q6m:=K5.out s1 rfl;have Q0k:=Qa Q6m;clear Q6m;refine (HE.out (M-1) (by have:=HM.out;omega) _ _ _ _ HS.out.any (λ_ _=>by have:=HD2.out;omega) (K5.out.Fh HB2.out |>.mono (by omega) (by omega))).mono ?_;rintro en w8 ⟨v2,R8,hdo,Qe⟩;obtain rfl:=Qe.en;have HV:=Qa (HS.out.then_ Qe.run Qe.tell.grow);have Qw5:=Qa hdo;have HT2:=Qa Qe.tell;obtain ⟨k2,hk⟩:=Qb (Qt v2);rw [<-hk];have Yq:=Qa hk;clear hdo Qe hk c5;have HA7:Hid (acc.length<=7):=(by show _<=_;have:=Rq.out;omega);go_wp2_with (at_builtin;refine Hf rfl (.tmp 45) (.tmp 48) rfl w.heap.size w8 (.slice la A lc) acc k2 rfl rfl HV.out.now HV.out.fr.size (by have:=HA7.out;omega) ?_;intro v3 w9 h3 hg3 hw3;obtain ⟨va,vc,hv3⟩:=Zq h3;obtain ⟨R3,hr3⟩:=HV.out.push (k:=k2) (by rw [Yq.out];exact HT2.out.Xd) h3 hg3 hw3;have HR3:=Qa hr3;clear hr3 h3 hg3 hw3;rw [Qf,Yw]at hv3;subst hv3);have Q2r:Hid (Qc (toO v2) (L.length-1) (s1.next.r.length)):=Does.Af Qw5.out _ _ (λs' e=>by injection e with e;subst e;have h1:=Q0k.out;have h2:=Yi.out;have h3:s1.next.l=s1.l:=rfl;rw [h3];exact ⟨by omega,by omega⟩);go_roundw
      case rel=>
       refine ⟨_,R3,acc++[k2],HR3.out,by rw [Qf,Yw];have:=HA7.out;omega,Q2r.out.mono (Qh _) (by have:=Q0k.out;have:=Yi.out;omega),(Jm.out.trans Grow.next).trans HT2.out.grow,λ_ _=>by rw [Qf,Yw];have:=HA7.out;omega,λu hu=>Az.out u ?_⟩;rw [Yq.out]at hu;exact Does.Wlp HB2.out (by have:=HA7.out;omega) Qw5.out hu
      case measure=>
       show Y7 g L.length w9<Y7 g L.length _;rw [<-Eo.out,J2.out];have h1:=Yi.out;have h2:=HR3.out.any;have h3:=Q2r.out;cases hv:toO v2 with
       |error f=>rw [hv]at h2;rw [Eu.Y7 h2];omega
       |ok s3=>rw [hv]at h2 h3;rw [Zu.Y7 h2];have:=(h3 s3 rfl).2;omega
    ·rw [ho]at ha;replace HS:=Qa (HS.out.step ha hf (λ_ h=>h) (Grow.refl _));obtain ⟨v,hv1,hv2,hv3⟩:=Does.Wda (d:=d+1) (acc:=acc) hb;have HV1:=Qa (Az.out v hv1);have Gj:=Qa hv2;have HV3:=Qa hv3;clear ha hf hb hv1 hv2 hv3 ho;go_wp2_with fail;refine (Kr rp HS.out.any).mono ?_;rintro en wa ⟨⟨xa,rfl⟩,ha,hf⟩;replace HS:=Qa (HS.out.step ha hf (λ_ h=>h) (Grow.need _));clear ha hf;obtain ⟨dd,V,c2,f2,hV,ha,hf⟩:=Qw.close HS.out.any (HD9.out);obtain ⟨W,hW⟩:=Qb (wa.setCell ⟨g,2,none⟩ (.int .i64 V));rw [<-hW]at ha hf;replace HS:=Qa (HS.out.step ha hf (λ_ h=>h) (Grow.refl _));clear ha hf;go_wp2_with fail;rw [<-hV,<-hW];clear hV hW c2 f2;refine Qn ?_;go_wp2_with fail;go_ret;refine ⟨Qch acc (Yv rp o1),_,_,acc,rfl,?_,by rw [Ur];exact HS.out,H9.out,by rw [Ur];exact Jm.out.trans (Grow.need _),Qlq⟩;refine Does.Qzt HA.out HD2.out (v1:=v) HV1.out HV3.out ?_;rw [Gj.out];exact Does.Qqi
theorem Q0t {M:Nat} (nm:ByteArray) (a:Nat) (hE: ∀m,m<M->Sq B g L m) (H:Qw B g L w R d o) (hd: ∀s,o= .ok s->d<=200) (hd9:d<=1000) (hl:Qc o L.length M) (hl2:Qc o L.length L.length):Calls prog 109 #[.pointer (some ⟨g,0,none⟩),.string nm,.int .i64 (a:Int)] w (Jp B g L w R d o (λs n=>Qg n (.call nm a) d s)):=by have HL:=Qa hl2;have HB:=Qa H.old;have Nn:=Qa (Wjt hE H hd hd9 hl);clear H hE hd hl hd9 hl2;go_enter func109,ntmps109;go_wp2_with fail;refine Nn.out.mono ?_;rintro en w1 ⟨v,R1,x,acc,rfl,hdo,hpre,h9,hgr,hq⟩;obtain ⟨la,lc,hv⟩:=Zq hpre.now;subst hv;have Wu:=Qa hdo;have HPR:=Qa hpre;have H9:=Qa h9;have Jm:=Qa hgr;have HQ:=Qa hq;clear hdo hpre h9 hgr hq Nn;have Dq:Hid (Qc (toO v) L.length L.length):=Wu.out.Wfv _ _ HL.out;go_wp2_with fail;refine (HPR.out.lay 11 0 nm a HB.out Dq.out (by have:=H9.out;omega)).mono ?_;rintro en w2 ⟨u,R2,Wi,Qe,_⟩;obtain rfl:=Qe.en;have Yl:=Qa Wi;have HG:=Qa Qe;clear Wi Qe;go_wp2_with fail;go_ret;exact ⟨u,R2,Does.call Wu.out HQ.out Yl.out,⟨HG.out.run,rfl,HG.out.tell.back Jm.out⟩⟩
end
end Go.Proofs.YtdncpkkhkbijfaaGreatDoor
