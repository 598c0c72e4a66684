import Derived.Test.YtdncpkkhkbijfaaGreatDoorAg7
set_option linter.all false
set_option maxHeartbeats 0
set_option maxRecDepth 100000
namespace Go.Proofs.YtdncpkkhkbijfaaGreatDoor
def lc:List UInt8:=[123]
def rc:List UInt8:=[125]
def semi:List UInt8:=[59]
def eqs:List UInt8:=[61]
def Ki:List UInt8:=[102,110]
def Jj:List UInt8:=[118,97,114]
def Ae:List UInt8:=[105,102]
def X7:List UInt8:=[101,108,115,101]
def Ck:List UInt8:=[119,104,105,108,101]
def Kc:List UInt8:=[102,111,114]
def Ju:List UInt8:=[98,114,101,97,107]
def Jy:List UInt8:=[99,111,110,116,105,110,117,101]
def Ap:List UInt8:=[114,101,116,117,114,110]
def Bp:List UInt8:=[112,114,105,110,116]
def Qb7:List UInt8:=[105,110,116]
def Qdz:List UInt8:=[98,111,111,108]
def Qfe:List UInt8:=[97,114,114]
def Qm (b:List UInt8) (s:PS) (f:PS->Option Out):Option Out:=if s.is b then f s.next else some (.error (8,s.tok.place))
def Xf (s:PS) (f:ByteArray->Nat->PS->Option Out):Option Out:=if s.tok.kind=1 then f ⟨s.tok.text.toArray⟩ s.tok.place s.next else some (.error (8,s.tok.place))
def Yt (t:Tk):Nat:=if sees t Qb7 then 1 else if sees t Qdz then 2 else if sees t Qfe then 3 else 0
def V3 (s:PS) (f:Nat->PS->Option Out):Option Out:=if Yt s.tok=0 then some (.error (8,s.tok.place))else f (Yt s.tok) s.next
def Wy (n d:Nat) (s:PS) (f:Int->PS->Option Out):Option Out:=Out.go (Qg n (.chain 0) d s) λp s1=>f (hd1 p) s1
def Xc (t:Tk):Nat:=
 if sees t Jj then 1 else if sees t Kc then 2 else if sees t Ju then 3 else if sees t Jy then 4 else if sees t Ap then 5 else if sees t Bp then 6 else if sees t Ck then 7 else if sees t Ae then 8 else 0
inductive Pm where
 |block
 |stmts (acc:List Int) (at_:Nat)
 |stmt
 |params (acc:List Int)
 |func
 |prog (acc:List Int)
def Qac:Nat->Pm->Nat->PS->Option Out
 | 0,_,_,_=>none
 |n+1,.block,d,s=>Qm lc s λs1=>if 200<=d then some (.error (4,s.tok.place))else Qac n (.stmts [] s.tok.place) (d+1) s1
 |n+1,.stmts acc at_,d,s=>if s.is rc then some (lay (En 23 acc 0 ⟨#[]⟩ at_) s.next)else Out.go (Qac n .stmt d s) λk s1=>Qac n (.stmts (acc++[hd1 k]) at_) d s1
 |n+1,.stmt,d,s=>match Xc s.tok with
  | 1=>Xf s.next λnm at_ s1=>Qm eqs s1 λs2=>Wy n d s2 λa s3=>Qm semi s3 λs4=>some (lay (En 12 [a] 0 nm at_) s4)
  | 2=>Xf s.next λnm at_ s1=>Qm eqs s1 λs2=>Wy n d s2 λa s3=>Qm comma s3 λs4=>Wy n d s4 λb s5=>Out.go (Qac n .block d s5) λc s6=>some (lay (En 17 [a,b,hd1 c] 0 nm at_) s6)
  | 3=>Qm semi s.next λs1=>some (lay (En 18 [] 0 ⟨#[]⟩ s.tok.place) s1)
  | 4=>Qm semi s.next λs1=>some (lay (En 19 [] 0 ⟨#[]⟩ s.tok.place) s1)
  | 5=>Wy n d s.next λa s1=>Qm semi s1 λs2=>some (lay (En 20 [a] 0 ⟨#[]⟩ s.tok.place) s2)
  | 6=>Wy n d s.next λa s1=>Qm semi s1 λs2=>some (lay (En 21 [a] 0 ⟨#[]⟩ s.tok.place) s2)
  | 7=>Wy n d s.next λa s1=>Out.go (Qac n .block d s1) λb s2=>some (lay (En 16 [a,hd1 b] 0 ⟨#[]⟩ s.tok.place) s2)
  | 8=>Wy n d s.next λa s1=>Out.go (Qac n .block d s1) λb s2=>
   if s2.is X7 then Out.go (Qac n .block d s2.next) λc s3=>some (lay (En 15 [a,hd1 b,hd1 c] 0 ⟨#[]⟩ s.tok.place) s3)
   else some (lay (En 15 [a,hd1 b] 0 ⟨#[]⟩ s.tok.place) s2)
  |_=>Xf s λnm at_ s1=>
   if s1.is lp then Out.go (Qg n (.call nm at_) d s1) λk s2=>Qm semi s2 λs3=>some (lay (En 22 [hd1 k] 0 ⟨#[]⟩ at_) s3)
   else if s1.is lb then Out.go (Qg n (.inner lb rb) d s1) λa s2=>Qm eqs s2 λs3=>Wy n d s3 λb s4=>Qm semi s4 λs5=>some (lay (En 14 [hd1 a,b] 0 nm s1.tok.place) s5)
   else Qm eqs s1 λs2=>Wy n d s2 λa s3=>Qm semi s3 λs4=>some (lay (En 13 [a] 0 nm at_) s4)
 |n+1,.params acc,d,s=>Xf s λnm at_ s1=>
  if 8<=acc.length then some (.error (3,at_))
  else V3 s1 λk s2=>Out.go (some (lay (En 24 [] k nm at_) s2)) λq s3=>if s3.is comma then Qac n (.params (acc++[hd1 q])) d s3.next else Qm rp s3 λs4=>some (.ok (acc++[hd1 q],s4))
 |n+1,.func,d,s=>Xf s λnm at_ s1=>Qm lp s1 λs2=>Out.go (if s2.is rp then some (.ok ([],s2.next))else Qac n (.params []) d s2) λps s3=>V3 s3 λk s4=>
  Out.go (Qac n .block d s4) λb s5=>some (lay (En 25 (ps++[hd1 b]) k nm at_) s5)
 |n+1,.prog acc,d,s=>
  if s.tok.kind=0 then some (lay (En 26 acc 0 ⟨#[]⟩ 0) s)
  else Qm Ki s λs1=>if 200<=acc.length then some (.error (3,s.tok.place))else Out.go (Qac n .func d s1) λq s2=>Qac n (.prog (acc++[hd1 q])) d s2
theorem Qbf {b:List UInt8} {s:PS} {f f':PS->Option Out} {v:Out} (h:Qm b s f=some v) (hf: ∀u w,f u=some w->f' u=some w):Qm b s f'=some v:=by
 unfold Qm at h ⊢;split at h
 ·rename_i g;rw [Qk g];exact hf _ _ h
 ·rename_i g;rw [Qd g];exact h
theorem Qkc {s:PS} {f f':ByteArray->Nat->PS->Option Out} {v:Out} (h:Xf s f=some v) (hf: ∀a b u w,f a b u=some w->f' a b u=some w):Xf s f'=some v:=by
 unfold Xf at h ⊢;split at h
 ·rename_i g;rw [Qk g];exact hf _ _ _ _ h
 ·rename_i g;rw [Qd g];exact h
theorem Q2i {s:PS} {f f':Nat->PS->Option Out} {v:Out} (h:V3 s f=some v) (hf: ∀a u w,f a u=some w->f' a u=some w):V3 s f'=some v:=by
 unfold V3 at h ⊢;split at h
 ·rename_i g;rw [Qk g];exact h
 ·rename_i g;rw [Qd g];exact hf _ _ _ h
theorem Qay {n m d:Nat} {s:PS} {f f':Int->PS->Option Out} {v:Out} (hm:n<=m) (h:Wy n d s f=some v) (hf: ∀a u w,f a u=some w->f' a u=some w):Wy m d s f'=some v:=
 Aw h (λu hu=>Hy hu hm) (λp s u=>hf _ _ _)
theorem Sv: ∀(n:Nat) (m:Pm) (d:Nat) (s:PS) (v:Out),Qac n m d s=some v->Qac (n+1) m d s=some v
 | 0,_,_,_,_,h=>by cases h
 |n+1,.block,d,s,v,h=>by
  rw [Qac]at h ⊢;refine Qbf h λu w hu=> ?_;split at hu
  ·rename_i g;rw [Qk g];exact hu
  ·rename_i g;rw [Qd g];exact Sv n _ _ _ _ hu
 |n+1,.stmts acc at_,d,s,v,h=>by
  rw [Qac]at h ⊢;split at h
  ·rename_i g;rw [Qk g];exact h
  ·rename_i g;rw [Qd g];exact Aw h (λu=>Sv n _ _ _ u) (λp s u=>Sv n _ _ _ u)
 |n+1,.stmt,d,s,v,h=>by
  have ih:=Sv n;have le:n<=n+1:=Nat.le_succ n;rw [Qac]at h ⊢;split at h
  ·exact Qkc h λa b u w hu=>Qbf hu λu w hu=>Qay le hu λa u w hu=>Qbf hu λu w hu=>hu
  ·exact Qkc h λa b u w hu=>Qbf hu λu w hu=>Qay le hu λa u w hu=>Qbf hu λu w hu=>Qay le hu λa u w hu=>Aw hu (λx=>ih _ _ _ x) (λ_ _ _ e=>e)
  ·exact h
  ·exact h
  ·exact Qay le h λa u w hu=>hu
  ·exact Qay le h λa u w hu=>hu
  ·exact Qay le h λa u w hu=>Aw hu (λx=>ih _ _ _ x) (λ_ _ _ e=>e)
  ·refine Qay le h λa u w hu=>Aw hu (λx=>ih _ _ _ x) (λp s u hu=> ?_);split at hu
   ·rename_i g;rw [Qk g];exact Aw hu (λx=>ih _ _ _ x) (λ_ _ _ e=>e)
   ·rename_i g;rw [Qd g];exact hu
  ·refine Qkc h λa b u w hu=> ?_;split at hu
   ·rename_i g;rw [Qk g];exact Aw hu (λx hx=>Hy hx le) (λ_ _ _ e=>e)
   ·rename_i g;rw [Qd g];split at hu
    ·rename_i g2;rw [Qk g2];exact Aw hu (λx hx=>Hy hx le) (λp s u hu=>Qbf hu λu w hu=>Qay le hu λa u w hu=>hu)
    ·rename_i g2;rw [Qd g2];exact Qbf hu λu w hu=>Qay le hu λa u w hu=>hu
 |n+1,.params acc,d,s,v,h=>by
  rw [Qac]at h ⊢;refine Qkc h λa b u w hu=> ?_;split at hu
  ·rename_i g;rw [Qk g];exact hu
  ·rename_i g;rw [Qd g];refine Q2i hu λa u w hu=>Aw hu (λ_ e=>e) (λp s u hu=> ?_);split at hu
   ·rename_i g2;rw [Qk g2];exact Sv n _ _ _ _ hu
   ·rename_i g2;rw [Qd g2];exact hu
 |n+1,.func,d,s,v,h=>by
  rw [Qac]at h ⊢;refine Qkc h λa b u w hu=>Qbf hu λu w hu=>Aw hu (λx hx=> ?_) (λp s u hu=>Q2i hu λa u w hu=>Aw hu (λx=>Sv n _ _ _ x) (λ_ _ _ e=>e));split at hx
  ·rename_i g;rw [Qk g];exact hx
  ·rename_i g;rw [Qd g];exact Sv n _ _ _ _ hx
 |n+1,.prog acc,d,s,v,h=>by
  rw [Qac]at h ⊢;split at h
  ·rename_i g;rw [Qk g];exact h
  ·rename_i g;rw [Qd g];refine Qbf h λu w hu=> ?_;split at hu
   ·rename_i g2;rw [Qk g2];exact hu
   ·rename_i g2;rw [Qd g2];exact Aw hu (λx=>Sv n _ _ _ x) (λp s u=>Sv n _ _ _ u)
theorem Qqj {n m:Nat} {k:Pm} {d:Nat} {s:PS} {v:Out} (h:Qac n k d s=some v) (hm:n<=m):Qac m k d s=some v:=by
 induction hm with
 |refl=>exact h
 |step _ ih=>exact Sv _ _ _ _ _ ih
def Qs (k:Pm) (d:Nat) (s:PS) (v:Out):Prop:= ∃n,Qac n k d s=some v
theorem Qs.one {k:Pm} {d:Nat} {s:PS} {v u:Out} (h:Qs k d s v) (g:Qs k d s u):v=u:=by obtain ⟨n,hn⟩:=h;obtain ⟨m,hm⟩:=g;have h1:=Qqj hn (Nat.le_max_left n m);have h2:=Qqj hm (Nat.le_max_right n m);rw [h1]at h2;exact Option.some.inj h2
def Q4j (v:Out):Except Qq (List Nd):=match v with
 | .error f=>.error f
 | .ok (_,s)=>.ok s.l
section
variable {St:Int→Prop}{L:List Tk}{s s1 s2:PS}{ps:List Int}
theorem Qfq {b:List UInt8} {s:PS} {f:PS->Option Out} {v:Out} (h:Qm b s f=some v):(s.is b=true/\f s.next=some v)\/(s.is b=false/\v= .error (8,s.tok.place)):=by
 unfold Qm at h;split at h
 ·rename_i g;exact .inl ⟨g,h⟩
 ·rename_i g;injection h with h;exact .inr ⟨by simpa using g,h.symm⟩
theorem Qkb {s:PS} {f:ByteArray->Nat->PS->Option Out} {v:Out} (h:Xf s f=some v):(s.tok.kind=1/\f ⟨s.tok.text.toArray⟩ s.tok.place s.next=some v)\/(s.tok.kind≠1/\v= .error (8,s.tok.place)):=by
 unfold Xf at h;split at h
 ·rename_i g;exact .inl ⟨g,h⟩
 ·rename_i g;injection h with h;exact .inr ⟨g,h.symm⟩
theorem Qut {s:PS} {f:Nat->PS->Option Out} {v:Out} (h:V3 s f=some v):(Yt s.tok≠0/\f (Yt s.tok) s.next=some v)\/(Yt s.tok=0/\v= .error (8,s.tok.place)):=by
 unfold V3 at h;split at h
 ·rename_i g;injection h with h;exact .inr ⟨g,h.symm⟩
 ·rename_i g;exact .inl ⟨g,h⟩
theorem Qyl {t:Tk} (h:Yt t≠0):t.kind≠0:=λe=>h (by unfold Yt sees;rw [e];rfl)
theorem Qzq (t:Tk):Yt t<=3:=by
 unfold Yt
 repeat' split
 all_goals omega
theorem Qt1 {t:Tk} (h:Xc t≠0):t.kind≠0:=λe=>h (by unfold Xc sees;rw [e];rfl)
structure Qk1 (St:Int->Prop) (L:List Tk) (P:Int->Prop) (s:PS) (ps:List Int) (l:List Int) (s':PS):Prop where
 inv:Wx St L s' (ps++l)
 kd: ∀p∈l,P (Ws s' p)
 ext:Ext s s'
def Ee (St:Int->Prop) (L:List Tk) (P:Int->Prop) (n:Option Nat) (s:PS) (ps:List Int) (v:Out):Prop:=match v with
 | .error f=>St (f.2:Int)
 | .ok (l,s')=>Qk1 St L P s ps l s'/\(∀k,n=some k->l.length=k)
theorem Qfy.gave {P:Int->Prop} {x:Nd} {v:Out} {s0:PS} (h:Qfy St L s ps x v) (hx:P x.kind) (hs:Ext s0 s):Ee St L P (some 1) s0 ps v:=by
 cases v with
 |error f=>exact h
 |ok y=>
  obtain ⟨l,s'⟩:=y;have h:Qgd St L s ps x l s':=h;obtain ⟨p,rfl,hk⟩:=h.root;exact ⟨⟨h.inv,(λq hq=>by rw [List.mem_singleton.1 hq,hk];exact hx),hs.trans h.ext⟩,λk e=>by cases e;rfl⟩
theorem Ee.from {P:Int->Prop} {n:Option Nat} {v:Out} {s0:PS} (h:Ee St L P n s ps v) (hs:Ext s0 s):Ee St L P n s0 ps v:=by
 cases v with
 |error f=>exact h
 |ok y=>
  obtain ⟨l,s'⟩:=y;have h:Qk1 St L P s ps l s'/\_:=h;exact ⟨⟨h.1.inv,h.1.kd,hs.trans h.1.ext⟩,h.2⟩
def pmP:Pm->Int->Prop
 | .block=>λk=>k=23
 | .stmts _ _=>λk=>k=23
 | .stmt=>λk=>Jv k=true
 | .params _=>λk=>k=24
 | .func=>λk=>k=25
 | .prog _=>λk=>k=26
def pmN:Pm->Option Nat
 | .params _=>none
 |_=>some 1
def Wlh (St:Int->Prop) (L:List Tk) (m:Pm) (ps:List Int) (s:PS):Prop:=match m with
 | .stmts acc a=>Wx St L s (ps++acc)/\(∀p∈acc,Jv (Ws s p)=true)/\St (a:Int)
 | .params acc=>Wx St L s (ps++acc)/\(∀p∈acc,Ws s p=24)/\acc.length<=8
 | .prog acc=>Wx St L s (ps++acc)/\(∀p∈acc,Ws s p=25)/\acc.length<=200
 |_=>Wx St L s ps
theorem Q11 {l:List Int} (h:l.length=1): ∃p,l=[p]:=by
 match l,h with
 | [p],_=>exact ⟨p,rfl⟩
theorem Qtu {P:Int->Prop} {l:List Int} (h: ∀p∈l,P (Ws s p)): ∀k∈l.map (Ws s),P k:=by intro k hk;obtain ⟨p,hp,rfl⟩:=List.mem_map.1 hk;exact h p hp
theorem Q4r {K:Int} {a:Nat} {q:Int} {nm:ByteArray} (ha:St (a:Int)) (hK:K=12\/K=13) (hn:Xa nm.data.toList=true) (hq:Q6 (Ws s q)=true):Em St s (En K [q] 0 nm a):=
 ⟨Qeh (by rcases hK with rfl |rfl<;>decide) hn (by rcases hK with rfl |rfl<;>rfl),Qux (K:=K) (by omega) rfl (λk hk=>by rw [List.mem_singleton.1 hk];exact hq),ha,Iu⟩
theorem Q3y {K:Int} {a:Nat} {q:Int} (ha:St (a:Int)) (hK:K=20\/K=21) (hq:Q6 (Ws s q)=true):Em St s (En K [q] 0 ⟨#[]⟩ a):=
 ⟨Si (by rcases hK with rfl |rfl<;>decide) (by rcases hK with rfl |rfl<;>rfl),Qux (K:=K) (by omega) rfl (λk hk=>by rw [List.mem_singleton.1 hk];exact hq),ha,Iu⟩
theorem Qz6 {K:Int} {a:Nat} (ha:St (a:Int)) (hK:K=18\/K=19):Em St s (En K [] 0 ⟨#[]⟩ a):=
 ⟨Si (by rcases hK with rfl |rfl<;>decide) (by rcases hK with rfl |rfl<;>rfl),by rcases hK with rfl |rfl<;>rfl,ha,Iu⟩
theorem Wlr {a:Nat} {p q:Int} {nm:ByteArray} (ha:St (a:Int)) (hn:Xa nm.data.toList=true) (hp:Q6 (Ws s p)=true) (hq:Q6 (Ws s q)=true):Em St s (En 14 [p,q] 0 nm a):=
 ⟨Qeh (by decide) hn rfl,by show (decide (2=2)&&(decide (2<=2)&&(Q6 (Ws s p)&&(Q6 (Ws s q)&&true))))=true;rw [hp,hq];rfl,ha,Iu⟩
theorem Wok {a:Nat} {p q:Int} (ha:St (a:Int)) (hp:Q6 (Ws s p)=true) (hq:Ws s q=23):Em St s (En 16 [p,q] 0 ⟨#[]⟩ a):=
 ⟨Si (by decide) rfl,by show (decide (1<=2)&&(Q6 (Ws s p)&&true)&&decide (2=2)&&((Ws s q==23)&&true&&decide (1<=1)))=true;rw [hp,hq];rfl,ha,Iu⟩
theorem Wqe {a:Nat} {p q:Int} (ha:St (a:Int)) (hp:Q6 (Ws s p)=true) (hq:Ws s q=23):Em St s (En 15 [p,q] 0 ⟨#[]⟩ a):=
 ⟨Si (by decide) rfl,by show (decide (1<=2)&&(Q6 (Ws s p)&&true)&&decide (2<=2)&&((Ws s q==23)&&true&&decide (1<=2)))=true;rw [hp,hq];rfl,ha,Iu⟩
theorem Wdr {a:Nat} {p q r:Int} (ha:St (a:Int)) (hp:Q6 (Ws s p)=true) (hq:Ws s q=23) (hr:Ws s r=23):Em St s (En 15 [p,q,r] 0 ⟨#[]⟩ a):=
 ⟨Si (by decide) rfl,by show (decide (1<=3)&&(Q6 (Ws s p)&&true)&&decide (2<=3)&&((Ws s q==23)&&((Ws s r==23)&&true)&&decide (2<=2)))=true;rw [hp,hq,hr];rfl,ha,Iu⟩
theorem Wj5 {a:Nat} {p q r:Int} {nm:ByteArray} (ha:St (a:Int)) (hn:Xa nm.data.toList=true) (hp:Q6 (Ws s p)=true) (hq:Q6 (Ws s q)=true) (hr:Ws s r=23):Em St s (En 17 [p,q,r] 0 nm a):=
 ⟨Qeh (by decide) hn rfl,by show (decide (2<=3)&&(Q6 (Ws s p)&&(Q6 (Ws s q)&&true))&&decide (3=3)&&((Ws s r==23)&&true&&decide (1<=1)))=true;rw [hp,hq,hr];rfl,ha,Iu⟩
theorem Wrs {a:Nat} {p:Int} (ha:St (a:Int)) (hp:Ws s p=11):Em St s (En 22 [p] 0 ⟨#[]⟩ a):=
 ⟨Si (by decide) rfl,by show (decide (1=1)&&decide (Ws s p=11))=true;rw [hp];rfl,ha,Iu⟩
theorem Wjb {a:Nat} {l:List Int} (ha:St (a:Int)) (hl: ∀p∈l,Jv (Ws s p)=true):Em St s (En 23 l 0 ⟨#[]⟩ a):=
 ⟨Si (by decide) rfl,by show (l.map (Ws s)).all Jv=true;exact List.all_eq_true.2 (Qtu (P:=λk=>Jv k=true) hl),ha,Iu⟩
theorem Qwe {t:Tk} (h:Yt t≠0) {K:Int} (hK:K=24\/K=25):Ej K (Yt t:Int)=true:=by have h1:=Qzq t;unfold Ej;rw [Qd (by omega),Qd (by omega),Qd (by omega),Qk hK,decide_eq_true (by omega),decide_eq_true (by omega)];rfl
theorem Q52 (t:Tk):0<=(Yt t:Int)/\(Yt t:Int)<=9223372036854775807:=by have:=Qzq t;omega
theorem Wot {a:Nat} {nm:ByteArray} {t:Tk} (ha:St (a:Int)) (hn:Xa nm.data.toList=true) (hk:Yt t≠0):Em St s (En 24 [] (Yt t) nm a):=
 ⟨Qeh (by decide) hn (Qwe hk (.inl rfl)),rfl,ha,Q52 t⟩
theorem Wgs {a:Nat} {nm:ByteArray} {t:Tk} {l:List Int} {b:Int} (ha:St (a:Int)) (hn:Xa nm.data.toList=true) (hk:Yt t≠0) (hl: ∀p∈l,Ws s p=24) (hl8:l.length<=8) (hb:Ws s b=23):Em St s (En 25 (l++[b]) (Yt t) nm a):=by
 refine ⟨Qeh (by decide) hn (Qwe hk (.inr rfl)),?_,ha,Q52 t⟩;show Y9 25 ((l++[b]).map (Ws s))=true;have hlen:((l++[b]).map (Ws s)).length=l.length+1:=by simp
 have e1:((l++[b]).map (Ws s)).take (((l++[b]).map (Ws s)).length-1)=l.map (Ws s):=by rw [hlen,Nat.add_sub_cancel,Zp,List.take_append_of_le_length (by simp),F6 (by simp)]
 have e2:((l++[b]).map (Ws s)).getD (((l++[b]).map (Ws s)).length-1) 0=Ws s b:=by rw [hlen,Nat.add_sub_cancel,Zp,Yc,Ht (by simp),Zr,Nat.sub_self];rfl
 unfold Y9;rw [Qd (by omega),Qd (by omega),Qd (by omega),Qd (by omega),Qd (by omega),Qd (by omega),Qd (by omega),Qd (by omega),Qk rfl,e1,e2,hb,hlen];unfold Jd;rw [List.all_eq_true.2 (λk hk=>by rw [Qtu (P:=λk=>k=24) hl k hk];rfl),Zr,decide_eq_true hl8,decide_eq_true (by omega:1<=l.length+1)];rfl
theorem Q8x {l:List Int} (h0:St 0) (hl: ∀p∈l,Ws s p=25) (hl2:l.length<=200):Em St s (En 26 l 0 ⟨#[]⟩ ((0:Nat):Int)):=by refine ⟨Si (by decide) rfl,?_,h0,Iu⟩;show Y9 26 (l.map (Ws s))=true;unfold Y9;rw [Qd (by omega),Qd (by omega),Qd (by omega),Qd (by omega),Qd (by omega),Qd (by omega),Qd (by omega),Qd (by omega),Qd (by omega),Qk rfl];unfold Jd;rw [List.all_eq_true.2 (λk hk=>by rw [Qtu (P:=λk=>k=25) hl k hk];rfl),Zr,decide_eq_true hl2];rfl
theorem Waa (hL:I8 L) (hSt: ∀t∈L,St (t.place:Int)) {n d:Nat} {nm:ByteArray} {a:Nat} {p:List Int} (h:Qg n (.call nm a) d s=some (.ok (p,s1))) (qs:List Int) (hm:Qpy St L (.call nm a) qs s): ∃x,p=[x]/\Ws s1 x=11/\Wx St L s1 (qs++[x])/\Ext s s1:=by
 have g:Got St L _ s qs p s1:=Na hL hSt n _ _ _ _ h qs hm;obtain ⟨x,rfl⟩:=g.one (λacc e=>by cases e);refine ⟨x,rfl,?_,g.inv,g.ext⟩;cases n with
 |zero=>cases h
 |succ n=>
  rw [Qg]at h;split at h
  ·split at h
   ·cases h
   ·rcases go_ok h with ⟨e,_,h2⟩ |⟨q,s2,_,h2⟩
    ·cases h2
    ·split at h2
     ·injection h2 with h2
      unfold lay at h2;split at h2
      ·cases h2
      ·injection h2 with h2
       injection h2 with h3 h4
       injection h3 with h3 _
       subst h3 h4;show (nd (s2.next.l++[_]) ((s2.next.l.length:Int)).toNat).kind=11;rw [Ja,Qk2];rfl
     ·cases h2
  ·cases h
theorem Q38: ∀(n:Nat) (acc:List Int) (d:Nat) (s:PS) (l:List Int) (s':PS),acc.length<=8->Qac n (.params acc) d s=some (.ok (l,s'))->l.length<=8
 | 0,_,_,_,_,_,_,h=>by cases h
 |n+1,acc,d,s,l,s',ha,h=>by
  rw [Qac]at h;rcases Qkb h with ⟨_,h⟩ |⟨_,h⟩
  ·split at h
   ·cases h
   ·rename_i g8;rcases Qut h with ⟨_,h⟩ |⟨_,h⟩
    ·rcases go_ok h with ⟨e,_,h2⟩ |⟨q,s2,_,h2⟩
     ·cases h2
     ·have hlen:(acc++[hd1 q]).length<=8:=(by rw [Qf];show acc.length+1<=8;omega);split at h2
      ·exact Q38 n _ _ _ _ _ hlen h2
      ·rcases Qfq h2 with ⟨_,h3⟩ |⟨_,h3⟩
       ·injection h3 with h3
        injection h3 with h3
        injection h3 with h3 _
        subst h3;exact hlen
       ·cases h3
    ·cases h
  ·cases h
theorem Gn (hL:I8 L) (hSt: ∀t∈L,St (t.place:Int)) {b:List UInt8} {f:PS->Option Out} {v:Out} {P:Int->Prop} {n:Option Nat} {s0:PS} {qs:List Int} (hI:Wx St L s (ps++qs)) (h:Qm b s f=some v)
  (k:Wx St L s.next (ps++qs)->s.is b=true->f s.next=some v->Ee St L P n s0 ps v):Ee St L P n s0 ps v:=by
 rcases Qfq h with ⟨h1,h2⟩ |⟨_,rfl⟩
 ·exact k (hI.Ml hL h1) h1 h2
 ·exact hSt _ hI.Jq
theorem Qg8 (hL:I8 L) (hSt: ∀t∈L,St (t.place:Int)) {f:ByteArray->Nat->PS->Option Out} {v:Out} {P:Int->Prop} {n:Option Nat} {s0:PS} {qs:List Int} (hI:Wx St L s (ps++qs)) (h:Xf s f=some v)
  (k: ∀nm a,Wx St L s.next (ps++qs)->Xa nm.data.toList=true->St ((a:Nat):Int)->f nm a s.next=some v->Ee St L P n s0 ps v):Ee St L P n s0 ps v:=by
 rcases Qkb h with ⟨h1,h2⟩ |⟨_,rfl⟩
 ·exact k _ _ (hI.next hL (by omega)) (hL.name _ hI.Jq h1) (hSt _ hI.Jq) h2
 ·exact hSt _ hI.Jq
theorem Qxg (hL:I8 L) (hSt: ∀t∈L,St (t.place:Int)) {f:Nat->PS->Option Out} {v:Out} {P:Int->Prop} {n:Option Nat} {s0:PS} {qs:List Int} (hI:Wx St L s (ps++qs)) (h:V3 s f=some v)
  (k:Wx St L s.next (ps++qs)->Yt s.tok≠0->f (Yt s.tok) s.next=some v->Ee St L P n s0 ps v):Ee St L P n s0 ps v:=by
 rcases Qut h with ⟨h1,h2⟩ |⟨_,rfl⟩
 ·exact k (hI.next hL (Qyl h1)) h1 h2
 ·exact hSt _ hI.Jq
theorem Q3z (hL:I8 L) (hSt: ∀t∈L,St (t.place:Int)) {m:Md} {N d:Nat} {f:List Int->PS->Option Out} {v:Out} {P:Int->Prop} {n:Option Nat} {s0:PS} {qs:List Int} (hm:Qpy St L m (ps++qs) s) (hn: ∀acc,m≠ .args acc) (h:Out.go (Qg N m d s) f=some v)
  (k: ∀a s1,Wx St L s1 (ps++(qs++[a]))->Q6 (Ws s1 a)=true->Ext s s1->f [a] s1=some v->Ee St L P n s0 ps v):Ee St L P n s0 ps v:=by
 rcases go_ok h with ⟨e,h1,rfl⟩ |⟨p,s1,h1,h2⟩
 ·exact Na hL hSt N _ _ _ _ h1 (ps++qs) hm
 ·have a:Got St L _ s (ps++qs) p s1:=Na hL hSt N _ _ _ _ h1 (ps++qs) hm;obtain ⟨x,rfl⟩:=a.one hn;exact k x s1 (by have:=a.inv;rw [Qy]at this;exact this) (a.ex x (List.mem_singleton.2 rfl)) a.ext h2
theorem Qbe (hL:I8 L) (hSt: ∀t∈L,St (t.place:Int)) {N d:Nat} {f:Int->PS->Option Out} {v:Out} {P:Int->Prop} {n:Option Nat} {s0:PS} {qs:List Int} (hI:Wx St L s (ps++qs)) (h:Wy N d s f=some v)
  (k: ∀a s1,Wx St L s1 (ps++(qs++[a]))->Q6 (Ws s1 a)=true->Ext s s1->f a s1=some v->Ee St L P n s0 ps v):Ee St L P n s0 ps v:=
 Q3z hL hSt (m:=.chain 0) ⟨by omega,hI⟩ (λacc e=>by cases e) h k
def Qvg (St:Int->Prop) (L:List Tk) (N:Nat) (m:Pm):Prop:= ∀d s v,Qac N m d s=some v-> ∀ps,Wx St L s ps->Ee St L (pmP m) (some 1) s ps v
theorem Qec {m:Pm} {N d:Nat} (ih:Qvg St L N m) {f:List Int->PS->Option Out} {v:Out} {P:Int->Prop} {n:Option Nat} {s0:PS} {qs:List Int} (hI:Wx St L s (ps++qs)) (h:Out.go (Qac N m d s) f=some v)
  (k: ∀a s1,Wx St L s1 (ps++(qs++[a]))->pmP m (Ws s1 a)->Ext s s1->f [a] s1=some v->Ee St L P n s0 ps v):Ee St L P n s0 ps v:=by
 rcases go_ok h with ⟨e,h1,rfl⟩ |⟨p,s1,h1,h2⟩
 ·exact ih _ _ _ h1 (ps++qs) hI
 ·have a:Qk1 St L (pmP m) s (ps++qs) p s1/\_:=ih _ _ _ h1 (ps++qs) hI;obtain ⟨x,rfl⟩:=Q11 (a.2 1 rfl);exact k x s1 (by have:=a.1.inv;rw [Qy]at this;exact this) (a.1.kd x (List.mem_singleton.2 rfl)) a.1.ext h2
theorem Ut (hL:I8 L) (hSt: ∀t∈L,St (t.place:Int)) (h00:St 0): ∀(n:Nat) (m:Pm) (d:Nat) (s:PS) (v:Out),Qac n m d s=some v-> ∀ps,Wlh St L m ps s->Ee St L (pmP m) (pmN m) s ps v
 | 0,_,_,_,_,h=>by cases h
 |n+1,.block,d,s,v,h=>by
  intro ps hp;have hp:Wx St L s ps:=hp;rw [Qac]at h;refine Gn hL hSt (Uu hp) h λhI hb h=> ?_;split at h
  ·injection h with h;subst h;exact hSt _ hp.Jq
  ·exact (Ut hL hSt h00 n (.stmts [] s.tok.place) _ _ _ h ps ⟨hI,(λp hp=>by cases hp),hSt _ hp.Jq⟩).from .of_next
 |n+1,.stmts acc a,d,s,v,h=>by
  intro ps hp;obtain ⟨hp,hac,ha⟩:=hp;rw [Qac]at h;split at h
  ·rename_i g;injection h with h
   subst h;exact (Wx.lay (hp.Ml hL g) rfl (Wjb ha hac) (Cg _)).gave rfl .of_next
  ·refine Qec (m:=.stmt) (λd s v h ps hI=>Ut hL hSt h00 n .stmt d s v h ps hI) hp h λx s1 hI hx hE h=> ?_;refine (Ut hL hSt h00 n (.stmts (acc++[x]) a) _ _ _ h ps ⟨hI,?_,ha⟩).from hE;intro p hpm;rcases List.mem_append.1 hpm with hm |hm
   ·rw [hE.I6 hp (List.mem_append_right _ hm)];exact hac p hm
   ·rw [List.mem_singleton.1 hm];exact hx
 |n+1,.stmt,d,s,v,h=>by
  intro ps hp;have hp:Wx St L s ps:=hp;have hat:=hSt _ hp.Jq;have hB:Qvg St L n .block:=λd s v h ps hI=>Ut hL hSt h00 n .block d s v h ps hI;have hnx:Xc s.tok≠0->Wx St L s.next (ps++[]):=λh0=>Uu (hp.next hL (Qt1 h0));rw [Qac]at h;split at h
  ·rename_i hg;refine Qg8 hL hSt (hnx (by rw [hg];decide)) h λnm a hI hnm ha h=> ?_;refine Gn hL hSt hI h λhI _ h=> ?_;refine Qbe hL hSt hI h λx s1 hI hx hE h=> ?_;refine Gn hL hSt hI h λhI _ h=> ?_;injection h with h;subst h
   exact (Wx.lay hI rfl (Q4r ha (.inl rfl) hnm hx) (Cg _)).gave rfl ((Ext.of_next.trans (Ext.of_next.trans Ext.of_next)).trans hE).Hr
  ·rename_i hg;refine Qg8 hL hSt (hnx (by rw [hg];decide)) h λnm a hI hnm ha h=> ?_;refine Gn hL hSt hI h λhI _ h=> ?_;refine Qbe hL hSt hI h λx s1 hI hx hE h=> ?_;refine Gn hL hSt hI h λhI1 _ h=> ?_;refine Qbe hL hSt hI1 h λy s2 hI2 hy hE2 h=> ?_;refine Qec hB hI2 h λz s3 Ny hz hE3 h=> ?_;injection h with h;subst h
   have hx2:Q6 (Ws s2 x)=true:=(by rw [hE2.I6 hI1 (by simp)];exact hx);have hx3:Q6 (Ws s3 x)=true:=(by rw [hE3.I6 hI2 (by simp)];exact hx2);have hy3:Q6 (Ws s3 y)=true:=(by rw [hE3.I6 hI2 (by simp)];exact hy);exact (Wx.lay Ny rfl (Wj5 ha hnm hx3 hy3 hz) (Cg _)).gave rfl ((((Ext.of_next.trans (Ext.of_next.trans Ext.of_next)).trans hE).Hr.trans hE2).trans hE3)
  ·rename_i hg;refine Gn hL hSt (hnx (by rw [hg];decide)) h λhI _ h=> ?_;injection h with h;subst h
   exact (Wx.lay hI rfl (Qz6 hat (.inl rfl)) (Cg _)).gave rfl (Ext.of_next.trans Ext.of_next)
  ·rename_i hg;refine Gn hL hSt (hnx (by rw [hg];decide)) h λhI _ h=> ?_;injection h with h;subst h
   exact (Wx.lay hI rfl (Qz6 hat (.inr rfl)) (Cg _)).gave rfl (Ext.of_next.trans Ext.of_next)
  ·rename_i hg;refine Qbe hL hSt (hnx (by rw [hg];decide)) h λx s1 hI hx hE h=> ?_;refine Gn hL hSt hI h λhI _ h=> ?_;injection h with h;subst h
   exact (Wx.lay hI rfl (Q3y hat (.inl rfl) hx) (Cg _)).gave rfl (Ext.of_next.trans hE).Hr
  ·rename_i hg;refine Qbe hL hSt (hnx (by rw [hg];decide)) h λx s1 hI hx hE h=> ?_;refine Gn hL hSt hI h λhI _ h=> ?_;injection h with h;subst h
   exact (Wx.lay hI rfl (Q3y hat (.inr rfl) hx) (Cg _)).gave rfl (Ext.of_next.trans hE).Hr
  ·rename_i hg;refine Qbe hL hSt (hnx (by rw [hg];decide)) h λx s1 hI hx hE h=> ?_;refine Qec hB hI h λz s2 hI2 hz hE2 h=> ?_;injection h with h;subst h
   have hx2:Q6 (Ws s2 x)=true:=(by rw [hE2.I6 hI (by simp)];exact hx);exact (Wx.lay hI2 rfl (Wok hat hx2 hz) (Cg _)).gave rfl ((Ext.of_next.trans hE).trans hE2)
  ·rename_i hg;refine Qbe hL hSt (hnx (by rw [hg];decide)) h λx s1 hI hx hE h=> ?_;refine Qec hB hI h λz s2 hI2 hz hE2 h=> ?_;have hx2:Q6 (Ws s2 x)=true:=(by rw [hE2.I6 hI (by simp)];exact hx);split at h
   ·rename_i g2;refine Qec hB (hI2.Ml hL g2) h λy s3 Ny hy hE3 h=> ?_;injection h with h;subst h
    have hx3:Q6 (Ws s3 x)=true:=(by rw [hE3.I6 (hI2.Ml hL g2) (by simp)];exact hx2);have hz3:Ws s3 z=23:=(by rw [hE3.I6 (hI2.Ml hL g2) (by simp)];exact hz);exact (Wx.lay Ny rfl (Wdr hat hx3 hz3 hy) (Cg _)).gave rfl (((Ext.of_next.trans hE).trans hE2).Hr.trans hE3)
   ·injection h with h;subst h
    exact (Wx.lay hI2 rfl (Wqe hat hx2 hz) (Cg _)).gave rfl ((Ext.of_next.trans hE).trans hE2)
  ·refine Qg8 hL hSt (Uu hp) h λnm a hI hnm ha h=> ?_;split at h
   ·rename_i g;rcases go_ok h with ⟨e,h1,rfl⟩ |⟨p,s1,h1,h2⟩
    ·exact Na hL hSt n _ _ _ _ h1 (ps++[]) ⟨hI,hnm,ha⟩
    ·have g1:=Waa hL hSt h1 (ps++[]) ⟨hI,hnm,ha⟩;obtain ⟨x,rfl,hx,hI1,hE⟩:=g1;have Qse:Wx St L s1 (ps++[x]):=(by rw [Xe]at hI1;exact hI1);refine Gn hL hSt Qse h2 λhI2 _ h=> ?_;injection h with h;subst h
     exact (Wx.lay hI2 rfl (Wrs ha hx) (Cg _)).gave rfl (Ext.of_next.trans hE).Hr
   ·split at h
    ·rename_i g2;have Wm7:=hSt _ hI.Jq;refine Q3z hL hSt (m:=.inner lb rb) hI (λacc e=>by cases e) h λx s1 hI1 hx hE h=> ?_;refine Gn hL hSt hI1 h λhI2 _ h=> ?_;refine Qbe hL hSt hI2 h λy s2 Ny hy hE2 h=> ?_;refine Gn hL hSt Ny h λhI4 _ h=> ?_;injection h with h;subst h
     have hx2:Q6 (Ws s2 x)=true:=(by rw [hE2.I6 hI2 (by simp)];exact hx);exact (Wx.lay hI4 rfl (Wlr Wm7 hnm hx2 hy) (Cg _)).gave rfl (((Ext.of_next.trans hE).Hr).trans hE2).Hr
    ·refine Gn hL hSt hI h λhI1 _ h=> ?_;refine Qbe hL hSt hI1 h λx s1 hI2 hx hE h=> ?_;refine Gn hL hSt hI2 h λNy _ h=> ?_;injection h with h;subst h
     exact (Wx.lay Ny rfl (Q4r ha (.inr rfl) hnm hx) (Cg _)).gave rfl ((Ext.of_next.trans Ext.of_next).trans hE).Hr
 |n+1,.params acc,d,s,v,h=>by
  intro ps hp;obtain ⟨hp,hac,hl8⟩:=hp;rw [Qac]at h;refine Qg8 hL hSt hp h λnm a hI hnm ha h=> ?_;split at h
  ·injection h with h;subst h;exact ha
  ·rename_i g8;refine Qxg hL hSt hI h λhI1 hk h=> ?_;have Qse:Wx St L s.next.next ((ps++acc)++[]):=Uu hI1;have hl:=Wx.lay Qse (x:=En 24 [] (Yt s.next.tok) nm a) rfl (Wot ha hnm hk) (Cg _);rcases go_ok h with ⟨e,h3,rfl⟩ |⟨q,s2,h3,h4⟩
   ·injection h3 with h3
    rw [h3]at hl;exact hl
   ·injection h3 with h3
    rw [h3]at hl;have hl:Qgd St L _ (ps++acc) _ q s2:=hl;obtain ⟨x,rfl,hx⟩:=hl.root;have hI2:Wx St L s2 (ps++(acc++[x])):=(by have:=hl.inv;rw [Qy]at this;exact this);have hE:Ext s s2:=(Ext.of_next.trans Ext.of_next).trans hl.ext;have hall: ∀p∈acc++[x],Ws s2 p=24:=by
     intro p hpm;rcases List.mem_append.1 hpm with hm |hm
     ·rw [hE.I6 hp (List.mem_append_right _ hm)];exact hac p hm
     ·rw [List.mem_singleton.1 hm];exact hx
    split at h4
    ·rename_i g;exact (Ut hL hSt h00 n (.params (acc++[x])) _ _ _ h4 ps ⟨hI2.Ml hL g,hall,by rw [Qf];show acc.length+1<=8;omega⟩).from hE.Hr
    ·refine Gn hL hSt hI2 h4 λNy _ h=> ?_;injection h with h;subst h
     exact ⟨⟨Ny,hall,hE.Hr⟩,λk e=>by cases e⟩
 |n+1,.func,d,s,v,h=>by
  intro ps hp;have hp:Wx St L s ps:=hp;have hB:Qvg St L n .block:=λd s v h ps hI=>Ut hL hSt h00 n .block d s v h ps hI;rw [Qac]at h;refine Qg8 hL hSt (Uu hp) h λnm a hI hnm ha h=> ?_;refine Gn hL hSt hI h λhI1 _ h=> ?_;have hmid: ∀o,(if s.next.next.is rp then some (.ok ([],s.next.next.next))else Qac n (.params []) d s.next.next)=some o->Ee St L (λk=>k=24) none s ps o/\ ∀l s3,o= .ok (l,s3)->l.length<=8:=by
   intro o ho;split at ho
   ·rename_i g;injection ho with ho
    subst ho;exact ⟨⟨⟨hI1.Ml hL g,(λp hp=>by cases hp),(Ext.of_next.trans Ext.of_next).Hr⟩,λk e=>by cases e⟩,λl s3 e=>by injection e with e;injection e with e1 _;subst e1;exact Vh _⟩
   ·refine ⟨(Ut hL hSt h00 n (.params []) _ _ _ ho ps ⟨hI1,(λp hp=>by cases hp),Vh _⟩).from (Ext.of_next.trans Ext.of_next),λl s3 e=> ?_⟩;subst e;exact Q38 n [] d _ l s3 (Vh _) ho
  rcases go_ok h with ⟨e,h1,rfl⟩ |⟨l,s3,h1,h2⟩
  ·exact (hmid _ h1).1
  ·obtain ⟨hg,hlen⟩:=hmid _ h1;have hg:Qk1 St L (λk=>k=24) s ps l s3/\_:=hg;refine Qxg hL hSt hg.1.inv h2 λNy hk h=> ?_;refine Qec hB Ny h λb s4 hI4 hb hE4 h=> ?_;injection h with h;subst h
   have hall: ∀p∈l,Ws s4 p=24:=λp hpm=>by rw [hE4.I6 Ny (List.mem_append_right _ hpm)];exact hg.1.kd p hpm
   exact (Wx.lay hI4 rfl (Wgs ha hnm hk hall (hlen l s3 rfl) hb) (Cg _)).gave rfl (hg.1.ext.Hr.trans hE4)
 |n+1,.prog acc,d,s,v,h=>by
  intro ps hp;obtain ⟨hp,hac,hl2⟩:=hp;rw [Qac]at h;split at h
  ·injection h with h
   subst h;exact (Wx.lay hp rfl (Q8x h00 hac hl2) (Cg 0)).gave rfl (.refl s)
  ·refine Gn hL hSt hp h λhI _ h=> ?_;split at h
   ·injection h with h;subst h;exact hSt _ hp.Jq
   ·rename_i g2;refine Qec (m:=.func) (λd s v h ps hI=>Ut hL hSt h00 n .func d s v h ps hI) hI h λx s1 hI1 hx hE h=> ?_;refine (Ut hL hSt h00 n (.prog (acc++[x])) _ _ _ h ps ⟨hI1,?_,by rw [Qf];show acc.length+1<=200;omega⟩).from (Ext.of_next.trans hE);intro p hpm;rcases List.mem_append.1 hpm with hm |hm
    ·rw [hE.I6 hI (List.mem_append_right _ hm)];exact hac p hm
    ·rw [List.mem_singleton.1 hm];exact hx
theorem Qfa (hL:I8 L) (h0:0<L.length) {v:Out} (h:Qs (.prog []) 0 ⟨L,[],[]⟩ v):match v with
  | .error f=>(∃t∈L,f.2=t.place)\/f.2=0
  | .ok (_,s')=>Rt s'.l/\(nd s'.l (s'.l.length-1)).kind=26/\(∀x∈s'.l,(∃t∈L,x.at_=(t.place:Int))\/x.at_=0)/\(∀x∈s'.l,x.kids.length<=s'.l.length)/\ ∀x∈s'.l,0<=x.n/\x.n<=9223372036854775807:=by
 obtain ⟨n,hn⟩:=h;have hp:=Ut (St:=λz=>(∃t∈L,z=(t.place:Int))\/z=0) hL (λt ht=>.inl ⟨t,ht,rfl⟩) (.inr rfl) n _ _ _ _ hn [] ⟨Wie h0,(λp hp=>by cases hp),Vh _⟩;cases v with
 |error f=>
  rcases hp with ⟨t,ht,e⟩ |e
  ·exact .inl ⟨t,ht,Int.ofNat.inj e⟩
  ·exact .inr (by omega)
 |ok x=>
  obtain ⟨l,s'⟩:=x;have hp:Qk1 _ L _ _ [] l s'/\_:=hp;obtain ⟨p,rfl⟩:=Q11 (hp.2 1 rfl);have hv:=hp.1.inv;rw [Xk]at hv;obtain ⟨hR,hpe⟩:=hv.right;have hx:Ws s' p=26:=hp.1.kd p (List.mem_singleton.2 rfl);unfold Ws at hx;rw [hpe,show ((s'.l.length:Int)-1).toNat=s'.l.length-1 by omega]at hx;exact ⟨hR,hx,hv.stand,Wao hv.fo,hv.nums⟩
end
section
def Ev (F:Nat->Option Out) (v:Out):Prop:= ∃n0,∀n,n0<=n->F n=some v
variable {d:Nat}{s s1:PS}{v:Out}{a:Int}{e:Qq}{b:List UInt8}
theorem Ev.const:Ev (λ_=>some v) v:=⟨0,λ_ _=>rfl⟩
theorem Reads.ev {m:Md} (h:Reads m d s v):Ev (λn=>Qg n m d s) v:=by obtain ⟨n,hn⟩:=h;exact ⟨n,λk hk=>Hy hn hk⟩
theorem Qs.ev {m:Pm} (h:Qs m d s v):Ev (λn=>Qac n m d s) v:=by obtain ⟨n,hn⟩:=h;exact ⟨n,λk hk=>Qqj hn hk⟩
theorem Qs.D5 {m:Pm} (h:Ev (λn=>Qac (n+1) m d s) v):Qs m d s v:=by obtain ⟨n,hn⟩:=h;exact ⟨n+1,hn n (Qh _)⟩
theorem Ev.need {f:Nat->PS->Option Out} (h:s.is b=true) (g:Ev (λn=>f n s.next) v):Ev (λn=>Qm b s (f n)) v:=by obtain ⟨n,hn⟩:=g;refine ⟨n,λk hk=> ?_⟩;exact (Qk h).trans (hn k hk)
theorem Ev.Q3h {f:Nat->PS->Option Out} (h:s.is b=false):Ev (λn=>Qm b s (f n)) (.error (8,s.tok.place)):=by refine ⟨0,λk _=> ?_⟩;exact Qd (by rw [h];decide)
theorem Ev.name {f:Nat->ByteArray->Nat->PS->Option Out} (h:s.tok.kind=1) (g:Ev (λn=>f n ⟨s.tok.text.toArray⟩ s.tok.place s.next) v):Ev (λn=>Xf s (f n)) v:=by obtain ⟨n,hn⟩:=g;refine ⟨n,λk hk=> ?_⟩;exact (Qk h).trans (hn k hk)
theorem Ev.Qvz {f:Nat->ByteArray->Nat->PS->Option Out} (h:s.tok.kind≠1):Ev (λn=>Xf s (f n)) (.error (8,s.tok.place)):=by refine ⟨0,λk _=> ?_⟩;exact Qd h
theorem Ev.kind {f:Nat->Nat->PS->Option Out} (h:Yt s.tok≠0) (g:Ev (λn=>f n (Yt s.tok) s.next) v):Ev (λn=>V3 s (f n)) v:=by obtain ⟨n,hn⟩:=g;refine ⟨n,λk hk=> ?_⟩;exact (Qd h).trans (hn k hk)
theorem Ev.Wd8 {f:Nat->Nat->PS->Option Out} (h:Yt s.tok=0):Ev (λn=>V3 s (f n)) (.error (8,s.tok.place)):=by refine ⟨0,λk _=> ?_⟩;exact Qk h
theorem Ev.go {F:Nat->Option Out} {f:Nat->List Int->PS->Option Out} {p:List Int} (h:Ev F (.ok (p,s1))) (g:Ev (λn=>f n p s1) v):Ev (λn=>Out.go (F n) (f n)) v:=by obtain ⟨n,hn⟩:=h;obtain ⟨m,hm⟩:=g;refine ⟨max n m,λk hk=> ?_⟩;show Out.go (F k) (f k)=_;rw [hn k (by omega)];exact hm k (by omega)
theorem Ev.Qis {F:Nat->Option Out} {f:Nat->List Int->PS->Option Out} (h:Ev F (.error e)):Ev (λn=>Out.go (F n) (f n)) (.error e):=by obtain ⟨n,hn⟩:=h;refine ⟨n,λk hk=> ?_⟩;show Out.go (F k) (f k)=_;rw [hn k hk];rfl
theorem Ev.ex {f:Nat->Int->PS->Option Out} (h:Reads (.chain 0) d s (.ok ([a],s1))) (g:Ev (λn=>f n a s1) v):Ev (λn=>Wy n d s (f n)) v:=Ev.go h.ev g
theorem Ev.Pb {c:Prop} [Decidable c] {F G:Nat->Option Out} (h:c) (g:Ev F v):Ev (λn=>if c then F n else G n) v:=by obtain ⟨n,hn⟩:=g;exact ⟨n,λk hk=>by show (if c then F k else G k)=_;rw [Qk h];exact hn k hk⟩
theorem Ev.Gi {c:Prop} [Decidable c] {F G:Nat->Option Out} (h: ¬c) (g:Ev G v):Ev (λn=>if c then F n else G n) v:=by obtain ⟨n,hn⟩:=g;exact ⟨n,λk hk=>by show (if c then F k else G k)=_;rw [Qd h];exact hn k hk⟩
theorem Ev.congr {F G:Nat->Option Out} (h: ∀n,G n=F n) (g:Ev F v):Ev G v:=by obtain ⟨n,hn⟩:=g;exact ⟨n,λk hk=>by rw [h];exact hn k hk⟩
theorem Qs.block (g:Ev (λn=>Qm lc s λs1=>if 200<=d then some (.error (4,s.tok.place))else Qac n (.stmts [] s.tok.place) (d+1) s1) v):Qs .block d s v:=.D5 (g.congr λn=>by rw [Qac])
theorem Qs.Qhe {acc:List Int} {at_:Nat} (h:s.is rc=true):Qs (.stmts acc at_) d s (lay (En 23 acc 0 ⟨#[]⟩ at_) s.next):=.D5 (Ev.const.congr λn=>by rw [Qac,Qk h])
theorem Qs.Qpo {acc:List Int} {at_:Nat} (h:s.is rc=false) (g:Qs .stmt d s (.error e)):Qs (.stmts acc at_) d s (.error e):=
 .D5 ((Ev.Qis (f:=λn k s1=>Qac n (.stmts (acc++[hd1 k]) at_) d s1) g.ev).congr λn=>by rw [Qac,h];rfl)
theorem Qs.Qlm {acc:List Int} {at_:Nat} (h:s.is rc=false) (g:Qs .stmt d s (.ok ([a],s1))) (r:Qs (.stmts (acc++[a]) at_) d s1 v):Qs (.stmts acc at_) d s v:=
 .D5 ((Ev.go (f:=λn k s1=>Qac n (.stmts (acc++[hd1 k]) at_) d s1) g.ev r.ev).congr λn=>by rw [Qac,h];rfl)
theorem Qs.let_ (h:Xc s.tok=1) (g:Ev (λn=>Xf s.next λnm at_ s1=>Qm eqs s1 λs2=>Wy n d s2 λa s3=>Qm semi s3 λs4=>some (lay (En 12 [a] 0 nm at_) s4)) v):Qs .stmt d s v:=.D5 (g.congr λn=>by rw [Qac,h];rfl)
theorem Qs.for_ (h:Xc s.tok=2) (g:Ev (λn=>Xf s.next λnm at_ s1=>Qm eqs s1 λs2=>Wy n d s2 λa s3=>Qm comma s3 λs4=>Wy n d s4 λb s5=>Out.go (Qac n .block d s5) λc s6=>some (lay (En 17 [a,b,hd1 c] 0 nm at_) s6)) v):Qs .stmt d s v:=.D5 (g.congr λn=>by rw [Qac,h];rfl)
theorem Qs.Qrv (h:Xc s.tok=3) (g:Ev (λn=>Qm semi s.next λs1=>some (lay (En 18 [] 0 ⟨#[]⟩ s.tok.place) s1)) v):Qs .stmt d s v:=.D5 (g.congr λn=>by rw [Qac,h];rfl)
theorem Qs.cont (h:Xc s.tok=4) (g:Ev (λn=>Qm semi s.next λs1=>some (lay (En 19 [] 0 ⟨#[]⟩ s.tok.place) s1)) v):Qs .stmt d s v:=.D5 (g.congr λn=>by rw [Qac,h];rfl)
theorem Qs.ret (h:Xc s.tok=5) (g:Ev (λn=>Wy n d s.next λa s1=>Qm semi s1 λs2=>some (lay (En 20 [a] 0 ⟨#[]⟩ s.tok.place) s2)) v):Qs .stmt d s v:=.D5 (g.congr λn=>by rw [Qac,h];rfl)
theorem Qs.print (h:Xc s.tok=6) (g:Ev (λn=>Wy n d s.next λa s1=>Qm semi s1 λs2=>some (lay (En 21 [a] 0 ⟨#[]⟩ s.tok.place) s2)) v):Qs .stmt d s v:=.D5 (g.congr λn=>by rw [Qac,h];rfl)
theorem Qs.Kl (h:Xc s.tok=7) (g:Ev (λn=>Wy n d s.next λa s1=>Out.go (Qac n .block d s1) λb s2=>some (lay (En 16 [a,hd1 b] 0 ⟨#[]⟩ s.tok.place) s2)) v):Qs .stmt d s v:=.D5 (g.congr λn=>by rw [Qac,h];rfl)
theorem Qs.if_ (h:Xc s.tok=8) (g:Ev (λn=>Wy n d s.next λa s1=>Out.go (Qac n .block d s1) λb s2=>
   if s2.is X7 then Out.go (Qac n .block d s2.next) λc s3=>some (lay (En 15 [a,hd1 b,hd1 c] 0 ⟨#[]⟩ s.tok.place) s3)
   else some (lay (En 15 [a,hd1 b] 0 ⟨#[]⟩ s.tok.place) s2)) v):Qs .stmt d s v:=.D5 (g.congr λn=>by rw [Qac,h];rfl)
theorem Qs.named (h:Xc s.tok=0) (g:Ev (λn=>Xf s λnm at_ s1=>
   if s1.is lp then Out.go (Qg n (.call nm at_) d s1) λk s2=>Qm semi s2 λs3=>some (lay (En 22 [hd1 k] 0 ⟨#[]⟩ at_) s3)
   else if s1.is lb then Out.go (Qg n (.inner lb rb) d s1) λa s2=>Qm eqs s2 λs3=>Wy n d s3 λb s4=>Qm semi s4 λs5=>some (lay (En 14 [hd1 a,b] 0 nm s1.tok.place) s5)
   else Qm eqs s1 λs2=>Wy n d s2 λa s3=>Qm semi s3 λs4=>some (lay (En 13 [a] 0 nm at_) s4)) v):Qs .stmt d s v:=.D5 (g.congr λn=>by rw [Qac,h];rfl)
theorem Qs.params {acc:List Int} (g:Ev (λn=>Xf s λnm at_ s1=>
  if 8<=acc.length then some (.error (3,at_))
  else V3 s1 λk s2=>Out.go (some (lay (En 24 [] k nm at_) s2)) λq s3=>if s3.is comma then Qac n (.params (acc++[hd1 q])) d s3.next else Qm rp s3 λs4=>some (.ok (acc++[hd1 q],s4))) v):Qs (.params acc) d s v:=.D5 (g.congr λn=>by rw [Qac])
theorem Qs.func (g:Ev (λn=>Xf s λnm at_ s1=>Qm lp s1 λs2=>Out.go (if s2.is rp then some (.ok ([],s2.next))else Qac n (.params []) d s2) λps s3=>V3 s3 λk s4=>
  Out.go (Qac n .block d s4) λb s5=>some (lay (En 25 (ps++[hd1 b]) k nm at_) s5)) v):Qs .func d s v:=.D5 (g.congr λn=>by rw [Qac])
theorem Qs.Qiy {acc:List Int} (h:s.tok.kind=0):Qs (.prog acc) d s (lay (En 26 acc 0 ⟨#[]⟩ 0) s):=.D5 (Ev.const.congr λn=>by rw [Qac,Qk h])
theorem Qs.Qw9 {acc:List Int} (h:s.tok.kind≠0) (g:s.is Ki=false):Qs (.prog acc) d s (.error (8,s.tok.place)):=
 .D5 ((Ev.Q3h (f:=λn s1=>if 200<=acc.length then some (.error (3,s.tok.place))else Out.go (Qac n .func d s1) λq s2=>Qac n (.prog (acc++[hd1 q])) d s2) g).congr λn=>by rw [Qac,Qd h])
theorem Dc {t:Tk} (h:sees t b=true):t.kind≠0:=λe=>by unfold sees at h;rw [e]at h;cases h
theorem Qs.Qlj {acc:List Int} (g:s.is Ki=true) (hl:200<=acc.length):Qs (.prog acc) d s (.error (3,s.tok.place)):=
 .D5 ((Ev.need (f:=λn s1=>if 200<=acc.length then some (.error (3,s.tok.place))else Out.go (Qac n .func d s1) λq s2=>Qac n (.prog (acc++[hd1 q])) d s2) g (Ev.Pb hl Ev.const)).congr λn=>by rw [Qac,Qd (Dc g)])
theorem Qs.Wqm {acc:List Int} (g:s.is Ki=true) (hl:acc.length<200) (h:Qs .func d s.next (.error e)):Qs (.prog acc) d s (.error e):=
 .D5 ((Ev.need (f:=λn s1=>if 200<=acc.length then some (.error (3,s.tok.place))else Out.go (Qac n .func d s1) λq s2=>Qac n (.prog (acc++[hd1 q])) d s2) g (Ev.Gi (by omega) (Ev.Qis h.ev))).congr λn=>by rw [Qac,Qd (Dc g)])
theorem Qs.Q2y {acc:List Int} (g:s.is Ki=true) (hl:acc.length<200) (h:Qs .func d s.next (.ok ([a],s1))) (r:Qs (.prog (acc++[a])) d s1 v):Qs (.prog acc) d s v:=
 .D5 ((Ev.need (f:=λn s1=>if 200<=acc.length then some (.error (3,s.tok.place))else Out.go (Qac n .func d s1) λq s2=>Qac n (.prog (acc++[hd1 q])) d s2) g (Ev.Gi (by omega) (Ev.go h.ev r.ev))).congr λn=>by rw [Qac,Qd (Dc g)])
end
section
def tk1 (c:UInt8) (p:Nat):Tk:=if c=120 then ⟨1,[120],0,p⟩else ⟨4,[c],0,p⟩
def toks:List UInt8->Nat->List Tk
 | [],p=>[⟨0,[],0,p⟩]
 |c::r,p=>tk1 c p::toks r (p+1)
def st (R:List UInt8) (p:Nat) (l:List Nd) (h:List Nat):PS:=⟨toks R p,l,h⟩
variable {d p:Nat}{s s1:PS}{k:Int}{f:Qq}{l:List Nd}{h:List Nat}
theorem Wns {x:Nd} {s:PS} {t:Nat} (ht:high s.h x.kids=t) (h2:t<=200):lay x s= .ok ([(s.l.length:Int)],⟨s.r,s.l++[x],s.h++[t]⟩):=by unfold lay;rw [ht,Qd (by omega)]
theorem leaf (r:List UInt8) (hn:(st r (p+1) l h).is lp=false):Reads .single d (st (120::r) p l h) (.ok ([(l.length:Int)],st r (p+1) (l++[En 4 [] 0 ⟨#[120]⟩ p]) (h++[1]))):=by have g:=Reads.Qmz (d:=d) (s:=st (120::r) p l h) rfl hn;have e:lay (En 4 [] 0 ⟨(st (120::r) p l h).tok.text.toArray⟩ (st (120::r) p l h).tok.place) (st (120::r) p l h).next= .ok ([(l.length:Int)],st r (p+1) (l++[En 4 [] 0 ⟨#[120]⟩ p]) (h++[1])):=Wns rfl (by omega);rw [e]at g;exact g
end
section
def Dv (t:Tk):Tk:={t with place:=0}
def Od (x:Nd):Nd:={x with at_:=0}
theorem Qj4 {a b:Tk} (h:Dv a=Dv b) (t:List UInt8):sees a t=sees b t:=by
 have h1:a.kind=b.kind:=by have:=congrArg Tk.kind h;exact this
 have h2:a.text=b.text:=by have:=congrArg Tk.text h;exact this
 unfold sees;rw [h1,h2]
theorem Wn2 {a b:Tk} (h:Dv a=Dv b):sg a=sg b:=by
 have h1:a.kind=b.kind:=by have:=congrArg Tk.kind h;exact this
 unfold sg;simp only [Qj4 h,h1]
theorem Wm9 (a:Nat):Xu.getD a []≠rp:=by
 have h: ∀x∈Xu,x≠rp:=by decide
 rw [Yc];cases hx:Xu[a]? with
 |none=>show ([]:List UInt8)≠rp;decide
 |some x=>exact h x (List.mem_of_getElem? hx)
theorem Q64 {a b:Tk} (h: ∀t,t≠rp->sees a t=sees b t): ∀(n k:Nat),Lr a k n=Lr b k n
 | 0,_=>rfl
 |n+1,k=>by unfold Lr;rw [h _ (Wm9 k),Q64 h n (k+1)]
variable {e z:Tk}{rest A B:List Tk}{s t:PS}
def Wpb (m m':Md):Prop:=m=m'\/ ∃nm a a',m= .call nm a/\m'= .call nm a'
end
section
structure Vn (s t:PS):Prop where
 r:s.r.map Dv=t.r.map Dv
 h:s.h=t.h
 l:s.l.map Od=t.l.map Od
def VAl:Out->Out->Prop
 | .ok (l,s),.ok (l',t)=>l=l'/\Vn s t
 | .error f,.error g=>f.1=g.1
 |_,_=>False
variable {s t:PS}
theorem Vn.tok (h:Vn s t):Dv s.tok=Dv t.tok:=by
 have hr:=h.r;unfold PS.tok;cases hs:s.r with
 |nil=>
  rw [hs]at hr;cases ht:t.r with
  |nil=>rfl
  |cons b r=>rw [ht]at hr;cases hr
 |cons a q=>
  rw [hs]at hr;cases ht:t.r with
  |nil=>rw [ht]at hr;cases hr
  |cons b r=>
   rw [ht,Y6,Y6]at hr;injection hr with h1 _
theorem Vn.next (h:Vn s t):Vn s.next t.next:=by refine ⟨?_,h.h,h.l⟩;show s.r.tail.map Dv=t.r.tail.map Dv;rw [List.map_tail,List.map_tail,h.r]
theorem Vn.is (h:Vn s t) (b:List UInt8):s.is b=t.is b:=Qj4 h.tok b
theorem Vn.kind (h:Vn s t):s.tok.kind=t.tok.kind:=by have:=congrArg Tk.kind h.tok;exact this
theorem Vn.text (h:Vn s t):s.tok.text=t.tok.text:=by have:=congrArg Tk.text h.tok;exact this
theorem Vn.n (h:Vn s t):s.tok.n=t.tok.n:=by have:=congrArg Tk.n h.tok;exact this
theorem Vn.op (h:Vn s t) (lv:Nat):opAt lv s.tok=opAt lv t.tok:=Q64 (λx _=>Qj4 h.tok x) _ _
theorem Wgr {a b:Tk} (h:Dv a=Dv b):Yt a=Yt b:=by unfold Yt;simp only [Qj4 h]
theorem Wk0 {a b:Tk} (h:Dv a=Dv b):Xc a=Xc b:=by unfold Xc;simp only [Qj4 h]
theorem Q84 {x y:Nd} (h:Vn s t) (hx:Od x=Od y):VAl (lay x s) (lay y t):=by
 have hk:x.kids=y.kids:=by have:=congrArg Nd.kids hx;exact this
 have hlen:s.l.length=t.l.length:=by have:=congrArg List.length h.l;rw [Zr,Zr]at this;exact this
 unfold lay;rw [h.h,hk];split
 ·rfl
 ·refine ⟨by rw [hlen],h.r,rfl,?_⟩;show (s.l++[x]).map Od=(t.l++[y]).map Od;rw [Zp,Zp,h.l];show _++[Od x]=_++[Od y];rw [hx]
def El (o:Option Out) (v:Out):Prop:= ∃v',o=some v'/\VAl v v'
theorem Dl {o o':Option Out} {f f':List Int->PS->Option Out} {v:Out} (h:Out.go o f=some v) (ho: ∀u,o=some u->El o' u) (hf: ∀p s t w,Vn s t->f p s=some w->El (f' p t) w):El (Out.go o' f') v:=by
 rcases go_ok h with ⟨e,h1,rfl⟩ |⟨p,s1,h1,h2⟩
 ·obtain ⟨v',e',hv⟩:=ho _ h1;rw [e'];cases v' with
  |ok y=>exact hv.elim
  |error g=>exact ⟨.error g,rfl,hv⟩
 ·obtain ⟨v',e',hv⟩:=ho _ h1;rw [e'];cases v' with
  |error g=>exact hv.elim
  |ok y=>
   obtain ⟨p',t1⟩:=y;obtain ⟨rfl,hA⟩:=hv;exact hf _ _ _ _ hA h2
theorem Gg {b:List UInt8} {f f':PS->Option Out} {v:Out} (hA:Vn s t) (h:Qm b s f=some v) (hf:Vn s.next t.next->f s.next=some v->El (f' t.next) v):El (Qm b t f') v:=by
 unfold Qm at h ⊢;rw [<-hA.is b];split at h
 ·rename_i g;rw [Qk g];exact hf hA.next h
 ·rename_i g;rw [Qd g];injection h with h;subst h;exact ⟨_,rfl,rfl⟩
theorem Qjo {f f':ByteArray->Nat->PS->Option Out} {v:Out} (hA:Vn s t) (h:Xf s f=some v) (hf: ∀nm a a',Vn s.next t.next->f nm a s.next=some v->El (f' nm a' t.next) v):El (Xf t f') v:=by
 unfold Xf at h ⊢;rw [<-hA.kind];split at h
 ·rename_i g;rw [Qk g,<-hA.text];exact hf _ _ _ hA.next h
 ·rename_i g;rw [Qd g];injection h with h;subst h;exact ⟨_,rfl,rfl⟩
theorem Q57 {f f':Nat->PS->Option Out} {v:Out} (hA:Vn s t) (h:V3 s f=some v) (hf: ∀k,Vn s.next t.next->f k s.next=some v->El (f' k t.next) v):El (V3 t f') v:=by
 unfold V3 at h ⊢;rw [<-Wgr hA.tok];split at h
 ·rename_i g;rw [Qk g];injection h with h;subst h;exact ⟨_,rfl,rfl⟩
 ·rename_i g;rw [Qd g];exact hf _ hA.next h
theorem J3 {x y:Nd} {v:Out} (hA:Vn s t) (h:some (lay x s)=some v) (hx:Od x=Od y):El (some (lay y t)) v:=by
 injection h with h
 subst h;exact ⟨_,rfl,Q84 hA hx⟩
theorem Oi {x a a':Nat} {v:Out} (h:some (Except.error (x,a))=some v):El (some (Except.error (x,a'))) v:=by
 injection h with h
 subst h;exact ⟨_,rfl,rfl⟩
theorem Qcc {l:List Int} {v:Out} (hA:Vn s t) (h:some (Except.ok (l,s))=some v):El (some (Except.ok (l,t))) v:=by
 injection h with h
 subst h;exact ⟨_,rfl,rfl,hA⟩
theorem Cn: ∀(n:Nat) (m m':Md) (d:Nat) (s t:PS) (v:Out),Wpb m m'->Vn s t->Qg n m d s=some v->El (Qg n m' d t) v
 | 0,_,_,_,_,_,_,_,_,h=>by cases h
 |n+1,.chain lv,m',d,s,t,v,hm,hA,h=>by
  obtain rfl:_=m':=by
   rcases hm with h |⟨_,_,_,h,_⟩
   ·exact h
   ·cases h
  rw [Qg]at h ⊢;split at h
  ·rename_i g;rw [Qk g];exact Cn n _ _ _ _ _ _ (.inl rfl) hA h
  ·rename_i g;rw [Qd g];exact Dl h (λu=>Cn n _ _ _ _ _ u (.inl rfl) hA) (λp s t w hA=>Cn n _ _ _ _ _ w (.inl rfl) hA)
 |n+1,.loop lv p,m',d,s,t,v,hm,hA,h=>by
  obtain rfl:_=m':=by
   rcases hm with h |⟨_,_,_,h,_⟩
   ·exact h
   ·cases h
  rw [Qg]at h ⊢;rw [<-hA.op lv];cases ho:opAt lv s.tok with
  |none=>rw [ho]at h;exact Qcc hA h
  |some op=>
   rw [ho]at h;refine Dl h (λu=>Cn n _ _ _ _ _ u (.inl rfl) hA.next) (λq s1 t1 w hA1 h1=>Dl h1 (λu hu=>J3 hA1 hu rfl) (λk s2 t2 w hA2 h2=> ?_));split at h2
   ·rename_i g;rw [Qk g];exact Qcc hA2 h2
   ·rename_i g;rw [Qd g];exact Cn n _ _ _ _ _ _ (.inl rfl) hA2 h2
 |n+1,.front,m',d,s,t,v,hm,hA,h=>by
  obtain rfl:_=m':=by
   rcases hm with h |⟨_,_,_,h,_⟩
   ·exact h
   ·cases h
  rw [Qg]at h ⊢;rw [<-hA.is minus,<-hA.is bang];split at h
  ·rename_i g;rw [Qk g];split at h
   ·rename_i g2;rw [Qk g2];exact Oi h
   ·rename_i g2;rw [Qd g2];exact Dl h (λu=>Cn n _ _ _ _ _ u (.inl rfl) hA.next) (λq s1 t1 w hA1 h1=>J3 hA1 h1 rfl)
  ·rename_i g;rw [Qd g];exact Cn n _ _ _ _ _ _ (.inl rfl) hA h
 |n+1,.idx,m',d,s,t,v,hm,hA,h=>by
  obtain rfl:_=m':=by
   rcases hm with h |⟨_,_,_,h,_⟩
   ·exact h
   ·cases h
  rw [Qg]at h ⊢;exact Dl h (λu=>Cn n _ _ _ _ _ u (.inl rfl) hA) (λp s t w hA=>Cn n _ _ _ _ _ w (.inl rfl) hA)
 |n+1,.more p,m',d,s,t,v,hm,hA,h=>by
  obtain rfl:_=m':=by
   rcases hm with h |⟨_,_,_,h,_⟩
   ·exact h
   ·cases h
  rw [Qg]at h ⊢;rw [<-hA.is lb];split at h
  ·rename_i g;rw [Qk g];exact Dl h (λu=>Cn n _ _ _ _ _ u (.inl rfl) hA) (λq s1 t1 w hA1 h1=>Dl h1 (λu hu=>J3 hA1 hu rfl) (λk s2 t2 w hA2 h2=>Cn n _ _ _ _ _ _ (.inl rfl) hA2 h2))
  ·rename_i g;rw [Qd g];exact Qcc hA h
 |n+1,.inner a b,m',d,s,t,v,hm,hA,h=>by
  obtain rfl:_=m':=by
   rcases hm with h |⟨_,_,_,h,_⟩
   ·exact h
   ·cases h
  rw [Qg]at h ⊢;rw [<-hA.is a];split at h
  ·rename_i g;rw [Qk g];split at h
   ·rename_i g2;rw [Qk g2];exact Oi h
   ·rename_i g2;rw [Qd g2];refine Dl h (λu=>Cn n _ _ _ _ _ u (.inl rfl) hA.next) (λq s1 t1 w hA1 h1=> ?_);rw [<-hA1.is b];split at h1
    ·rename_i g3;rw [Qk g3];exact Qcc hA1.next h1
    ·rename_i g3;rw [Qd g3];exact Oi h1
  ·rename_i g;rw [Qd g];exact Oi h
 |n+1,.call nm at_,m',d,s,t,v,hm,hA,h=>by
  obtain ⟨at',rfl⟩: ∃at',m'= .call nm at':=by
   rcases hm with h |⟨nm2,a1,a2,h1,h2⟩
   ·exact ⟨at_,h.symm⟩
   ·injection h1 with h3 h4
    subst h3;exact ⟨a2,h2⟩
  rw [Qg]at h ⊢;rw [<-hA.is lp];split at h
  ·rename_i g;rw [Qk g];split at h
   ·rename_i g2;rw [Qk g2];exact Oi h
   ·rename_i g2;rw [Qd g2];refine Dl h (λu hu=> ?_) (λq s1 t1 w hA1 h1=> ?_)
    ·rw [<-hA.next.is rp];split at hu
     ·rename_i g3;rw [Qk g3];exact Qcc hA.next hu
     ·rename_i g3;rw [Qd g3];exact Cn n _ _ _ _ _ u (.inl rfl) hA.next hu
    ·rw [<-hA1.is rp];split at h1
     ·rename_i g3;rw [Qk g3];exact J3 hA1.next h1 rfl
     ·rename_i g3;rw [Qd g3];exact Oi h1
  ·rename_i g;rw [Qd g];exact Oi h
 |n+1,.args acc,m',d,s,t,v,hm,hA,h=>by
  obtain rfl:_=m':=by
   rcases hm with h |⟨_,_,_,h,_⟩
   ·exact h
   ·cases h
  rw [Qg]at h ⊢;split at h
  ·rename_i g;rw [Qk g];exact Oi h
  ·rename_i g;rw [Qd g];refine Dl h (λu=>Cn n _ _ _ _ _ u (.inl rfl) hA) (λq s1 t1 w hA1 h1=> ?_);rw [<-hA1.is comma];split at h1
   ·rename_i g3;rw [Qk g3];exact Cn n _ _ _ _ _ _ (.inl rfl) hA1.next h1
   ·rename_i g3;rw [Qd g3];exact Qcc hA1 h1
 |n+1,.single,m',d,s,t,v,hm,hA,h=>by
  obtain rfl:_=m':=by
   rcases hm with h |⟨_,_,_,h,_⟩
   ·exact h
   ·cases h
  rw [Eh]at h ⊢;rw [<-Wn2 hA.tok];split at h
  ·exact Cn n _ _ _ _ _ _ (.inl rfl) hA h
  ·exact J3 hA.next h (by rfl)
  ·exact J3 hA.next h (by rfl)
  ·exact J3 hA.next h (by rfl)
  ·exact Dl h (λu=>Cn n _ _ _ _ _ u (.inl rfl) hA.next) (λq s1 t1 w hA1 h1=>J3 hA1 h1 (by rfl))
  ·exact Dl h (λu=>Cn n _ _ _ _ _ u (.inl rfl) hA.next) (λq s1 t1 w hA1 h1=>J3 hA1 h1 (by rfl))
  ·exact J3 hA.next h (by rw [hA.n];rfl)
  ·show El (if t.next.is lp then _ else _) v;rw [<-hA.next.is lp];split at h
   ·rename_i g2;rw [Qk g2];exact Cn n _ _ _ _ _ _ (.inr ⟨_,s.tok.place,t.tok.place,rfl,by rw [hA.text]⟩) hA.next h
   ·rename_i g2;rw [Qd g2];exact J3 hA.next h (by rw [hA.text];rfl)
  ·exact Oi h
theorem Qam {n d:Nat} {f f':Int->PS->Option Out} {v:Out} (hA:Vn s t) (h:Wy n d s f=some v) (hf: ∀a s t w,Vn s t->f a s=some w->El (f' a t) w):El (Wy n d t f') v:=
 Dl h (λu=>Cn n _ _ _ _ _ u (.inl rfl) hA) (λp s t w hA h=>hf _ _ _ _ hA h)
def We9 (m m':Pm):Prop:=m=m'\/ ∃acc a a',m= .stmts acc a/\m'= .stmts acc a'
theorem Sw: ∀(n:Nat) (m m':Pm) (d:Nat) (s t:PS) (v:Out),We9 m m'->Vn s t->Qac n m d s=some v->El (Qac n m' d t) v
 | 0,_,_,_,_,_,_,_,_,h=>by cases h
 |n+1,.block,m',d,s,t,v,hm,hA,h=>by
  obtain rfl:_=m':=by
   rcases hm with h |⟨_,_,_,h,_⟩
   ·exact h
   ·cases h
  rw [Qac]at h ⊢;refine Gg hA h λhA1 h=> ?_;split at h
  ·rename_i g;rw [Qk g];exact Oi h
  ·rename_i g;rw [Qd g];exact Sw n _ _ _ _ _ _ (.inr ⟨_,s.tok.place,t.tok.place,rfl,rfl⟩) hA1 h
 |n+1,.stmts acc a,m',d,s,t,v,hm,hA,h=>by
  obtain ⟨a',rfl⟩: ∃a',m'= .stmts acc a':=by
   rcases hm with h |⟨Wsr,a1,a2,h1,h2⟩
   ·exact ⟨a,h.symm⟩
   ·injection h1 with h3 h4
    subst h3;exact ⟨a2,h2⟩
  rw [Qac]at h ⊢;rw [<-hA.is rc];split at h
  ·rename_i g;rw [Qk g];exact J3 hA.next h rfl
  ·rename_i g;rw [Qd g];exact Dl h (λu=>Sw n _ _ _ _ _ u (.inl rfl) hA) (λp s t w hA h=>Sw n _ _ _ _ _ _ (.inr ⟨_,a,a',rfl,rfl⟩) hA h)
 |n+1,.stmt,m',d,s,t,v,hm,hA,h=>by
  obtain rfl:_=m':=by
   rcases hm with h |⟨_,_,_,h,_⟩
   ·exact h
   ·cases h
  have blk: ∀{f f':List Int->PS->Option Out} {s t:PS} {v:Out},Vn s t->Out.go (Qac n .block d s) f=some v->(∀p s t w,Vn s t->f p s=some w->El (f' p t) w)->El (Out.go (Qac n .block d t) f') v:=λhA h hf=>Dl h (λu=>Sw n _ _ _ _ _ u (.inl rfl) hA) hf;rw [Qac]at h ⊢;rw [<-Wk0 hA.tok];split at h
  ·exact Qjo hA.next h λnm a a' hA h=>Gg hA h λhA h=>Qam hA h λx s t w hA h=>Gg hA h λhA h=>J3 hA h rfl
  ·exact Qjo hA.next h λnm a a' hA h=>Gg hA h λhA h=>Qam hA h λx s t w hA h=>Gg hA h λhA h=>Qam hA h λy s t w hA h=>blk hA h λp s t w hA h=>J3 hA h rfl
  ·exact Gg hA.next h λhA h=>J3 hA h (by rfl)
  ·exact Gg hA.next h λhA h=>J3 hA h (by rfl)
  ·exact Qam hA.next h λx s t w hA h=>Gg hA h λhA h=>J3 hA h (by rfl)
  ·exact Qam hA.next h λx s t w hA h=>Gg hA h λhA h=>J3 hA h (by rfl)
  ·exact Qam hA.next h λx s t w hA h=>blk hA h λp s t w hA h=>J3 hA h (by rfl)
  ·refine Qam hA.next h λx s1 t1 w hA1 h=>blk hA1 h λp s2 t2 w hA2 h=> ?_;rw [<-hA2.is X7];split at h
   ·rename_i g;rw [Qk g];exact blk hA2.next h λp s t w hA h=>J3 hA h (by rfl)
   ·rename_i g;rw [Qd g];exact J3 hA2 h (by rfl)
  ·refine Qjo hA h λnm a a' hA1 h=> ?_;rw [<-hA1.is lp,<-hA1.is lb];split at h
   ·rename_i g;rw [Qk g];exact Dl h (λu=>Cn n _ _ _ _ _ u (.inr ⟨_,a,a',rfl,rfl⟩) hA1) (λp s t w hA h=>Gg hA h λhA h=>J3 hA h rfl)
   ·rename_i g;rw [Qd g];split at h
    ·rename_i g2;rw [Qk g2];exact Dl h (λu=>Cn n _ _ _ _ _ u (.inl rfl) hA1) (λp s t w hA h=>Gg hA h λhA h=>Qam hA h λx s t w hA h=>Gg hA h λhA h=>J3 hA h (by rfl))
    ·rename_i g2;rw [Qd g2];exact Gg hA1 h λhA h=>Qam hA h λx s t w hA h=>Gg hA h λhA h=>J3 hA h rfl
 |n+1,.params acc,m',d,s,t,v,hm,hA,h=>by
  obtain rfl:_=m':=by
   rcases hm with h |⟨_,_,_,h,_⟩
   ·exact h
   ·cases h
  rw [Qac]at h ⊢;refine Qjo hA h λnm a a' hA1 h=> ?_;split at h
  ·rename_i g;rw [Qk g];exact Oi h
  ·rename_i g;rw [Qd g];refine Q57 hA1 h λk hA2 h=>Dl h (λu hu=>J3 hA2 hu rfl) (λp s t w hA h=> ?_);rw [<-hA.is comma];split at h
   ·rename_i g3;rw [Qk g3];exact Sw n _ _ _ _ _ _ (.inl rfl) hA.next h
   ·rename_i g3;rw [Qd g3];exact Gg hA h λhA h=>Qcc hA h
 |n+1,.func,m',d,s,t,v,hm,hA,h=>by
  obtain rfl:_=m':=by
   rcases hm with h |⟨_,_,_,h,_⟩
   ·exact h
   ·cases h
  rw [Qac]at h ⊢;refine Qjo hA h λnm a a' hA1 h=>Gg hA1 h λhA2 h=>Dl h (λu hu=> ?_) (λp s t w hA h=>Q57 hA h λk hA h=>Dl h (λu=>Sw n _ _ _ _ _ u (.inl rfl) hA) (λp s t w hA h=>J3 hA h rfl));rw [<-hA2.is rp];split at hu
  ·rename_i g;rw [Qk g];exact Qcc hA2.next hu
  ·rename_i g;rw [Qd g];exact Sw n _ _ _ _ _ _ (.inl rfl) hA2 hu
 |n+1,.prog acc,m',d,s,t,v,hm,hA,h=>by
  obtain rfl:_=m':=by
   rcases hm with h |⟨_,_,_,h,_⟩
   ·exact h
   ·cases h
  rw [Qac]at h ⊢;rw [<-hA.kind];split at h
  ·rename_i g;rw [Qk g];exact J3 hA h rfl
  ·rename_i g;rw [Qd g];refine Gg hA h λhA1 h=> ?_;split at h
   ·rename_i g2;rw [Qk g2];exact Oi h
   ·rename_i g2;rw [Qd g2];exact Dl h (λu=>Sw n _ _ _ _ _ u (.inl rfl) hA1) (λp s t w hA h=>Sw n _ _ _ _ _ _ (.inl rfl) hA h)
theorem Wrd {L L':List Tk} (hL:L.map Dv=L'.map Dv) {v:Out} (h:Qs (.prog []) 0 ⟨L,[],[]⟩ v): ∃v',Qs (.prog []) 0 ⟨L',[],[]⟩ v'/\VAl v v':=by obtain ⟨n,hn⟩:=h;obtain ⟨v',h1,h2⟩:=Sw n (.prog []) (.prog []) 0 ⟨L,[],[]⟩ ⟨L',[],[]⟩ v (.inl rfl) ⟨hL,rfl,rfl⟩ hn;exact ⟨v',⟨n,h1⟩,h2⟩
end
end Go.Proofs.YtdncpkkhkbijfaaGreatDoor
