import Derived.Test.YtdncpkkhkbijfaaGreatDoorBa27
set_option linter.all false
set_option maxHeartbeats 0
set_option maxRecDepth 100000
namespace Go.Proofs.YtdncpkkhkbijfaaGreatDoor
def K6 (c:Bool) (t:List UInt8):List UInt8:=if c then 40::(t++[41])else t
mutual
def Ex.txt:Ex->List UInt8
 | .num n=>Lib.itoa (n:Int)
 | .bool b=>if b then Bz else Cv
 | .nil=>Di
 | .var s=>s
 | .bin op a b=>K6 (decide (a.st<=Ld op)) a.txt++32::(Xu.getD op []++32::K6 (decide (b.st<=stOp op)) b.txt)
 | .neg a=>45::K6 (decide (a.st<=5)) a.txt
 | .not a=>33::K6 (decide (a.st<=5)) a.txt
 | .index a b=>K6 (decide (a.st<=6)) a.txt++91::(b.txt++[93])
 | .len a=>Ky++40::(a.txt++[41])
 | .new a=>Ah++40::(a.txt++[41])
 | .call s xs=>s++40::(Zo true xs++[41])
def Zo:Bool->List Ex->List UInt8
 |_,[]=>[]
 |f,a::xs=>(if f then []else [44,32])++(a.txt++Zo false xs)
end
def Lx (l:List UInt8) (L:List Tk):Prop:= ∀p,∃M,T l p= .ok M/\M.map (λt=>{t with place:=0})=L
def Mj (r:List UInt8):Prop:= ∀c cs,r=c::cs->Vt c.toNat=false
theorem Wpl {b r:List UInt8} (hb:0<b.length) (hln:ln (b++r)=b.length) (her:Kw (k0 b) b.length b=0) (p:Nat):T (b++r) p=(T r (p+b.length)).map (λL=>(⟨Bl (k0 b) b,b,Kv (k0 b) b,p⟩:Tk)::L):=by
 obtain ⟨R,hR⟩:=Qb (b++r);have hk:k0 R=k0 b:=by
  rw [hR];cases b with
  |nil=>simp at hb
  |cons c cs=>rfl
 rw [<-hR]at hln ⊢;have htake:R.take (ln R)=b:=by rw [hln,hR,List.take_left'];rfl
 have hdrop:R.drop (ln R)=r:=by rw [hln,hR,List.drop_left'];rfl
 have hE:er R=0:=by unfold er;rw [htake,hk,hln];exact her
 have hne:R≠[]:=by intro e;rw [e]at hln;have:ln ([]:List UInt8)=0:=rfl;omega
 have hz:=Wkm (Qhd hE);have ho:off R=b.length+Yh false r:=by unfold off;rw [hdrop,hln]
 have hN:Iw R=r.drop (Yh false r):=by unfold Iw;rw [ho,<-hdrop,List.drop_drop,hln]
 have hS:S (Iw R) (p+off R)=T r (p+b.length):=by unfold T;rw [hN,ho,La]
 have htk:tk R p=⟨Bl (k0 b) b,b,Kv (k0 b) b,p⟩:=by unfold tk;rw [hk,htake]
 show S (R.drop (Yh false R)) (p+Yh false R)=_;rw [hz,List.drop_zero,Nat.add_zero,Qnz p hne hE,hS,htk]
theorem Lx.tok {b r:List UInt8} {L:List Tk} (hb:0<b.length) (hln:ln (b++r)=b.length) (her:Kw (k0 b) b.length b=0) (h:Lx r L):Lx (b++r) (mkT b::L):=by intro p;obtain ⟨M,h1,h2⟩:=h (p+b.length);refine ⟨⟨Bl (k0 b) b,b,Kv (k0 b) b,p⟩::M,by rw [Wpl hb hln her,h1];rfl,?_⟩;rw [Y6,h2];rfl
theorem Lx.blank {c:UInt8} {r:List UInt8} {L:List Tk} (hc:Ib c.toNat=true) (h:Lx r L):Lx (c::r) L:=by
 intro p;have Fx: ¬c.toNat=35:=by intro e;rw [e]at hc;exact absurd hc (by decide)
 obtain ⟨M,h1,h2⟩:=h (p+1);refine ⟨M,?_,h2⟩;rw [<-h1];unfold T;have e:Yh false (c::r)=Yh false r+1:=by simp only [Yh,Qd Fx,Qk hc];omega
 rw [e,List.drop_succ_cons,show p+(Yh false r+1)=p+1+Yh false r by omega]
theorem Lx.nil:Lx [] [⟨0,[],0,0⟩]:=λp=>⟨[⟨0,[],0,p⟩],rfl,rfl⟩
theorem Qvb: ∀(p:Nat->Bool) (b r:List UInt8),(∀c∈b,p c.toNat=true)->(∀c cs,r=c::cs->p c.toNat=false)->rn p (b++r)=b.length
 |p,[],r,_,hr=>by
  cases r with
  |nil=>rfl
  |cons c cs=>show (if p c.toNat then 1+rn p cs else 0)=0;rw [hr c cs rfl];rfl
 |p,c::b,r,hb,hr=>by show (if p c.toNat then 1+rn p (b++r)else 0)=b.length+1;rw [hb c (by simp),Qk rfl,Qvb p b r (λx hx=>hb x (Iy _ hx)) hr];omega
structure U9 (b:List UInt8):Prop where
 first: ∃c cs,b=c::cs/\isLt c.toNat=true
 all: ∀c∈b,Vt c.toNat=true
theorem U9.ln {b r:List UInt8} (h:U9 b) (hr:Mj r):ln (b++r)=b.length:=by obtain ⟨c,cs,rfl,hc⟩:=h.first;show (if isLt c.toNat then rn Vt (c::(cs++r))else _)=_;rw [Qk hc];exact Qvb Vt (c::cs) r h.all hr
theorem U9.k0 {b:List UInt8} (h:U9 b):k0 b=1:=by obtain ⟨c,cs,rfl,hc⟩:=h.first;show (if isLt c.toNat then 1 else _)=1;rw [Qk hc]
theorem Lx.word {b r:List UInt8} {L:List Tk} (h:U9 b) (hk:isKey b=true\/b.length<=32) (hr:Mj r) (hL:Lx r L):Lx (b++r) (mkT b::L):=by
 have hpos:0<b.length:=by obtain ⟨c,cs,rfl,_⟩:=h.first;simp
 refine Lx.tok hpos (h.ln hr) ?_ hL;unfold Kw;rw [h.k0,Qd (by omega),Qd (by decide)];rcases hk with hk |hk
 ·rw [Qk ⟨rfl,hk⟩]
 ·split
  ·rfl
  ·rw [Qd (by omega)]
theorem Td {c:UInt8} {r:List UInt8} (h1:isLt c.toNat=false) (h2:Yn c.toNat=false):ln (c::r)=Y4 c.toNat (bt r 0):=by show (if isLt c.toNat then rn Vt (c::r)else if Yn c.toNat then rn Yn (c::r)else Y4 c.toNat (bt r 0))=_;rw [h1,h2];rfl
theorem Lx.one {c:UInt8} {r:List UInt8} {L:List Tk} (hc:c=40\/c=41\/c=91\/c=93\/c=44\/c=59\/c=123\/c=125) (hL:Lx r L):Lx (c::r) (mkT [c]::L):=by
 refine Lx.tok (b:=[c]) Nat.zero_lt_one ?_ ?_ hL
 ·show ln (c::r)=1;rcases hc with rfl |rfl |rfl |rfl |rfl |rfl |rfl |rfl
  ·rw [Td rfl rfl];show Y4 40 _=1;simp [Y4]
  ·rw [Td rfl rfl];show Y4 41 _=1;simp [Y4]
  ·rw [Td rfl rfl];show Y4 91 _=1;simp [Y4]
  ·rw [Td rfl rfl];show Y4 93 _=1;simp [Y4]
  ·rw [Td rfl rfl];show Y4 44 _=1;simp [Y4]
  ·rw [Td rfl rfl];show Y4 59 _=1;simp [Y4]
  ·rw [Td rfl rfl];show Y4 123 _=1;simp [Y4]
  ·rw [Td rfl rfl];show Y4 125 _=1;simp [Y4]
 ·rcases hc with rfl |rfl |rfl |rfl |rfl |rfl |rfl |rfl<;>rfl
theorem Lx.sign {b r:List UInt8} {L:List Tk} (hb:b=eqs\/ ∃op,1<=op/\op<=16/\b=Xu.getD op []) (hL:Lx r L):Lx (b++32::r) (mkT b::L):=by
 have hL':Lx (32::r) L:=Lx.blank rfl hL;rcases hb with rfl |⟨op,h1,h16,rfl⟩
 ·exact Lx.tok (b:=eqs) (by decide) rfl rfl hL'
 ·match op,h1,h16 with
  | 1,_,_ | 2,_,_ | 3,_,_ | 4,_,_ | 5,_,_ | 6,_,_ | 7,_,_ | 8,_,_ | 9,_,_ | 10,_,_ | 11,_,_ | 12,_,_ | 13,_,_ | 14,_,_ | 15,_,_ | 16,_,_=>exact Lx.tok (by decide) rfl rfl hL'
  |n+17,_,h=>omega
theorem Lx.front {c:UInt8} {r:List UInt8} {L:List Tk} (hc:(c=45/\bt r 0≠37)\/(c=33/\bt r 0≠61)) (hL:Lx r L):Lx (c::r) (mkT [c]::L):=by
 refine Lx.tok (b:=[c]) Nat.zero_lt_one ?_ ?_ hL
 ·show ln (c::r)=1;rcases hc with ⟨rfl,h⟩ |⟨rfl,h⟩
  ·rw [Td rfl rfl];show Y4 45 (bt r 0)=1;unfold Y4;rw [Qd (by decide),Qk (by decide),Qd h]
  ·rw [Td rfl rfl];show Y4 33 (bt r 0)=1;unfold Y4;rw [Qd (by decide),Qd (by decide),Qk (by decide),Qd h]
 ·rcases hc with ⟨rfl,h⟩ |⟨rfl,h⟩<;>rfl
theorem Qm2 (u:Nat): ∀c∈Lib.decDigits u,Yn c.toNat=true:=by
 induction u using Nat.strongRecOn with
 |ind u ih=>
  intro c hc;rw [Lib.decDigits]at hc;have hd: ∀k,k<10->Yn (UInt8.ofNat (48+k)).toNat=true:=by decide
  split at hc
  ·rename_i h;rw [List.mem_singleton.1 hc];exact hd u h
  ·rename_i h;rcases List.mem_append.1 hc with hc |hc
   ·exact ih (u/10) (by omega) c hc
   ·rw [List.mem_singleton.1 hc];exact hd (u%10) (by omega)
theorem Q2x (k:Nat) (h:k<10):Ug (UInt8.ofNat (48+k))=k:=(by decide: ∀k,k<10->Ug (UInt8.ofNat (48+k))=k) k h
theorem Qwp (u:Nat) (hu:u<=9223372036854775807):num (Lib.decDigits u)=some u:=by
 induction u using Nat.strongRecOn with
 |ind u ih=>
  rw [Lib.decDigits];split
  ·rename_i h;show M9 (some 0) (UInt8.ofNat (48+u))=some u;unfold M9;simp only [];rw [Q2x u h,Qk (by omega)];congr 1;omega
  ·rename_i h;unfold num;rw [List.foldl_append];have h1:=ih (u/10) (by omega) (by omega);unfold num at h1;rw [h1];show M9 (some (u/10)) (UInt8.ofNat (48+u%10))=some u;unfold M9;simp only [];rw [Q2x (u%10) (by omega),Qk (by omega)];congr 1;omega
theorem Qov (u:Nat): ∃c cs,Lib.decDigits u=c::cs:=by
 rw [Lib.decDigits];split
 ·exact ⟨_,_,rfl⟩
 ·cases h:Lib.decDigits (u/10)with
  |nil=>exact ⟨_,_,rfl⟩
  |cons c cs=>exact ⟨_,_,rfl⟩
theorem Qm0 (n:Nat):Lib.itoa (n:Int)=Lib.decDigits n:=by unfold Lib.itoa;rw [Qd (by omega)];simp
theorem Q5g {n:Nat} (h:Yn n=true):isLt n=false:=by unfold Yn at h;simp at h;unfold isLt;simp;omega
theorem Qzw (n:Nat) (hn:n<=9223372036854775807):k0 (Lib.itoa (n:Int))=2/\(mkT (Lib.itoa (n:Int))).kind=2/\(mkT (Lib.itoa (n:Int))).n=n:=by
 rw [Qm0];obtain ⟨c,cs,hc⟩:=Qov n;have hdg:=Qm2 n c (by rw [hc];simp);have hk:k0 (Lib.decDigits n)=2:=by rw [hc];show (if isLt c.toNat then 1 else if Yn c.toNat then 2 else 4)=2;rw [Q5g hdg,hdg];rfl
 refine ⟨hk,?_,?_⟩
 ·show Bl (k0 (Lib.decDigits n)) _=2;rw [hk];rfl
 ·show Kv (k0 (Lib.decDigits n)) (Lib.decDigits n)=n;rw [hk];unfold Kv;rw [Qk rfl,Qwp n hn];rfl
theorem Lx.num {n:Nat} (hn:n<=9223372036854775807) {r:List UInt8} {L:List Tk} (hr:Mj r) (hL:Lx r L):Lx (Lib.itoa (n:Int)++r) (mkT (Lib.itoa (n:Int))::L):=by
 obtain ⟨hk,_,_⟩:=Qzw n hn;rw [Qm0]at hk ⊢;obtain ⟨c,cs,hc⟩:=Qov n;have hdg:=Qm2 n c (by rw [hc];simp);have hpos:0<(Lib.decDigits n).length:=by rw [hc];simp
 refine Lx.tok hpos ?_ ?_ hL
 ·have h1:ln (Lib.decDigits n++r)=rn Yn (Lib.decDigits n++r):=by rw [hc];show (if isLt c.toNat then rn Vt (c::(cs++r))else if Yn c.toNat then rn Yn (c::(cs++r))else Y4 c.toNat (bt (cs++r) 0))=_;rw [Q5g hdg,hdg];rfl
  rw [h1];refine Qvb Yn _ r (Qm2 n) (λc cs e=> ?_);have:=hr c cs e;unfold Vt at this;simp at this;exact this.2
 ·unfold Kw;rw [hk,Qd (by omega),Qk rfl,Qwp n hn];rfl
structure X0 (s:List UInt8):Prop where
 word:U9 s
 short:s.length<=32
 key:isKey s=false
theorem X0.kind {s:List UInt8} (h:X0 s):(mkT s).kind=1:=by show Bl (k0 s) s=1;rw [h.word.k0];unfold Bl;rw [Qd (by rw [h.key];intro e;exact absurd e.2 (by decide))]
mutual
def Ex.fin:Ex->Prop
 | .num n=>n<=9223372036854775807
 | .bool _=>True
 | .nil=>True
 | .var s=>X0 s
 | .bin op a b=>1<=op/\op<=16/\a.fin/\b.fin
 | .neg a=>a.fin
 | .not a=>a.fin
 | .index a b=>a.fin/\b.fin
 | .len a=>a.fin
 | .new a=>a.fin
 | .call s xs=>X0 s/\xs.length<=8/\Pq xs
def Pq:List Ex->Prop
 | []=>True
 |a::xs=>a.fin/\Pq xs
end
mutual
theorem Dt: ∀e:Ex,e.fin->e.ok
 | .num n,h=>by simp only [Ex.fin]at h;simp only [Ex.ok];exact (Qzw n h).2
 | .bool _,_=>by simp only [Ex.ok]
 | .nil,_=>by simp only [Ex.ok]
 | .var s,h=>by simp only [Ex.fin]at h;simp only [Ex.ok];exact h.kind
 | .bin op a b,h=>by simp only [Ex.fin]at h;simp only [Ex.ok];exact ⟨h.1,h.2.1,Dt a h.2.2.1,Dt b h.2.2.2⟩
 | .neg a,h=>by simp only [Ex.fin]at h;simp only [Ex.ok];exact Dt a h
 | .not a,h=>by simp only [Ex.fin]at h;simp only [Ex.ok];exact Dt a h
 | .index a b,h=>by simp only [Ex.fin]at h;simp only [Ex.ok];exact ⟨Dt a h.1,Dt b h.2⟩
 | .len a,h=>by simp only [Ex.fin]at h;simp only [Ex.ok];exact Dt a h
 | .new a,h=>by simp only [Ex.fin]at h;simp only [Ex.ok];exact Dt a h
 | .call s xs,h=>by simp only [Ex.fin]at h;simp only [Ex.ok];exact ⟨h.1.kind,h.2.1,Q6f xs h.2.2⟩
theorem Q6f: ∀xs:List Ex,Pq xs->oks xs
 | [],_=>by simp only [oks]
 |a::xs,h=>by simp only [Pq]at h;simp only [oks];exact ⟨Dt a h.1,Q6f xs h.2⟩
end
def FB (t:List UInt8):Prop:= ∃c cs,t=c::cs/\c.toNat≠37/\c.toNat≠61
theorem FB.K6 {t:List UInt8} (h:FB t) (c:Bool):FB (K6 c t):=by
 cases c with
 |true=>exact ⟨40,t++[41],rfl,by decide,by decide⟩
 |false=>exact h
theorem FB.app {t:List UInt8} (h:FB t) (r:List UInt8):FB (t++r):=by obtain ⟨c,cs,rfl,h1,h2⟩:=h;exact ⟨c,cs++r,rfl,h1,h2⟩
theorem FB.at_ {t:List UInt8} (h:FB t):bt t 0≠37/\bt t 0≠61:=by obtain ⟨c,cs,rfl,h1,h2⟩:=h;exact ⟨h1,h2⟩
theorem Q35 {c:Nat} (h:isLt c=true):c≠37/\c≠61:=by unfold isLt at h;simp at h;omega
theorem Q3d {c:Nat} (h:Yn c=true):c≠37/\c≠61:=by unfold Yn at h;simp at h;omega
theorem U9.fb {s:List UInt8} (h:U9 s):FB s:=by obtain ⟨c,cs,rfl,hc⟩:=h.first;exact ⟨c,cs,rfl,(Q35 hc).1,(Q35 hc).2⟩
theorem Wc0 {s:List UInt8} (h:(s.all (λc=>Vt c.toNat)&&(match s with | []=>false |c::_=>isLt c.toNat))=true):U9 s:=by
 simp only [Yo,Ou]at h;refine ⟨?_,h.1⟩;cases s with
 |nil=>exact absurd h.2 (by decide)
 |cons c cs=>exact ⟨c,cs,rfl,h.2⟩
theorem Qlv: ∀e:Ex,e.fin->FB e.txt
 | .num n,_=>by rw [Ex.txt,Qm0];obtain ⟨c,cs,hc⟩:=Qov n;have hdg:=Qm2 n c (by rw [hc];simp);exact ⟨c,cs,hc,(Q3d hdg).1,(Q3d hdg).2⟩
 | .bool b,_=>by rw [Ex.txt];cases b<;>exact ⟨_,_,rfl,by decide,by decide⟩
 | .nil,_=>by rw [Ex.txt];exact ⟨_,_,rfl,by decide,by decide⟩
 | .var s,h=>by rw [Ex.fin]at h;rw [Ex.txt];exact h.word.fb
 | .bin op a b,h=>by rw [Ex.fin]at h;rw [Ex.txt];exact ((Qlv a h.2.2.1).K6 _).app _
 | .neg a,h=>by rw [Ex.txt];exact ⟨45,_,rfl,by decide,by decide⟩
 | .not a,h=>by rw [Ex.txt];exact ⟨33,_,rfl,by decide,by decide⟩
 | .index a b,h=>by rw [Ex.fin]at h;rw [Ex.txt];exact ((Qlv a h.1).K6 _).app _
 | .len a,h=>by rw [Ex.txt];exact ⟨108,_,rfl,by decide,by decide⟩
 | .new a,h=>by rw [Ex.txt];exact ⟨110,_,rfl,by decide,by decide⟩
 | .call s xs,h=>by rw [Ex.fin]at h;rw [Ex.txt];exact h.1.word.fb.app _
theorem Ca {c:UInt8} {r:List UInt8} (h:Vt c.toNat=false):Mj (c::r):=λc' cs e=>by injection e with e _;rw [<-e];exact h
def Q7c (e:Ex):Prop:= ∀(r:List UInt8) (L:List Tk),Mj r->Lx r L->Lx (e.txt++r) (Qr e.toks++L)
theorem Q72 (t:List UInt8):K6 true t=40::(t++[41]):=rfl
theorem Q6j (t:List UInt8):K6 false t=t:=rfl
theorem Wgu {α:Type} (x y:α) (t:List α):brk true x y t=x::t++[y]:=rfl
theorem Wgm {α:Type} (x y:α) (t:List α):brk false x y t=t:=rfl
theorem Qlw (s:List UInt8) (L:List Tk):Qr [s]++L=mkT s::L:=rfl
theorem Qjd {e:Ex} (h:Q7c e) (c:Bool) {r:List UInt8} {L:List Tk} (hr:Mj r) (hL:Lx r L):Lx (K6 c e.txt++r) (Qr (brk c lp rp e.toks)++L):=by
 cases c with
 |true=>
  rw [Q72,Wgu,V6,V6,Qy,Wn,Zd,Qlw];exact Lx.one (c:=40) (by decide) (h _ _ (Ca rfl) (Lx.one (c:=41) (by decide) hL))
 |false=>
  rw [Q6j,Wgm];exact h r L hr hL
theorem Qae {b r:List UInt8} {L:List Tk} (hw:(b.all (λc=>Vt c.toNat)&&(match b with | []=>false |c::_=>isLt c.toNat))=true) (hk:isKey b=true) (hr:Mj r) (hL:Lx r L):Lx (b++r) (mkT b::L):=Lx.word (Wc0 hw) (.inl hk) hr hL
theorem Qg4 {s r:List UInt8} {L:List Tk} (h:X0 s) (hr:Mj r) (hL:Lx r L):Lx (s++r) (mkT s::L):=Lx.word h.word (.inr h.short) hr hL
theorem Wft (xs:List Ex) {r:List UInt8} (hr:Mj r):Mj (Zo false xs++r):=by
 cases xs with
 |nil=>rw [Zo];exact hr
 |cons a xs=>rw [Zo];exact Ca rfl
mutual
theorem Nj: ∀e:Ex,e.fin->Q7c e
 | .num n,h=>λr L hr hL=>by rw [Ex.fin]at h;rw [Ex.txt,Ex.toks];exact Lx.num h hr hL
 | .bool c,_=>λr L hr hL=>by
  rw [Ex.txt,Ex.toks,Qlw];cases c with
  |true=>exact Qae (b:=Bz) rfl rfl hr hL
  |false=>exact Qae (b:=Cv) rfl rfl hr hL
 | .nil,_=>λr L hr hL=>by rw [Ex.txt,Ex.toks,Qlw];exact Qae (b:=Di) rfl rfl hr hL
 | .var s,h=>λr L hr hL=>by rw [Ex.fin]at h;rw [Ex.txt,Ex.toks];exact Qg4 h hr hL
 | .bin op a b,h=>λr L hr hL=>by rw [Ex.fin]at h;rw [Ex.txt,Ex.toks,Zd,Wn,Qy];refine Qjd (Nj a h.2.2.1) _ (Ca rfl) ?_;rw [V6,Qy,V6];refine Lx.blank rfl (Lx.sign (.inr ⟨op,h.1,h.2.1,rfl⟩) ?_);exact Qjd (Nj b h.2.2.2) _ hr hL
 | .neg a,h=>λr L hr hL=>by rw [Ex.fin]at h;rw [Ex.txt,Ex.toks,Wn];exact Lx.front (.inl ⟨rfl,((((Qlv a h).K6 _).app r).at_).1⟩) (Qjd (Nj a h) _ hr hL)
 | .not a,h=>λr L hr hL=>by rw [Ex.fin]at h;rw [Ex.txt,Ex.toks,Wn];exact Lx.front (.inr ⟨rfl,((((Qlv a h).K6 _).app r).at_).2⟩) (Qjd (Nj a h) _ hr hL)
 | .index a b,h=>λr L hr hL=>by rw [Ex.fin]at h;rw [Ex.txt,Ex.toks,show brk (decide (a.st<=6)) lp rp a.toks++lb::b.toks++[rb]=brk (decide (a.st<=6)) lp rp a.toks++lb::(b.toks++[rb]) by simp,Zd,Wn,Zd,Qy];refine Qjd (Nj a h.1) _ (Ca rfl) ?_;rw [V6,Qy];refine Lx.one (by decide) (Nj b h.2 _ _ (Ca rfl) ?_);exact Lx.one (by decide) hL
 | .len a,h=>λr L hr hL=>by rw [Ex.fin]at h;rw [Ex.txt,Ex.toks,show Ky::lp::a.toks++[rp]=Ky::lp::(a.toks++[rp])from rfl,Wn,Wn,Zd,Qy,V6,Qy];refine Qae (b:=Ky) rfl rfl (Ca rfl) ?_;refine Lx.one (by decide) (Nj a h _ _ (Ca rfl) ?_);exact Lx.one (by decide) hL
 | .new a,h=>λr L hr hL=>by rw [Ex.fin]at h;rw [Ex.txt,Ex.toks,show Ah::lp::a.toks++[rp]=Ah::lp::(a.toks++[rp])from rfl,Wn,Wn,Zd,Qy,V6,Qy];refine Qae (b:=Ah) rfl rfl (Ca rfl) ?_;refine Lx.one (by decide) (Nj a h _ _ (Ca rfl) ?_);exact Lx.one (by decide) hL
 | .call s xs,h=>λr L hr hL=>by rw [Ex.fin]at h;rw [Ex.txt,Ex.toks,show s::lp::Vo true xs++[rp]=s::lp::(Vo true xs++[rp])from rfl,Wn,Wn,Zd,Qy,V6,Qy];refine Qg4 h.1 (Ca rfl) ?_;refine Lx.one (by decide) (Qy5 xs h.2.2 true _ _ (Ca rfl) ?_);exact Lx.one (by decide) hL
theorem Qy5: ∀xs:List Ex,Pq xs-> ∀(f:Bool) (r:List UInt8) (L:List Tk),Mj r->Lx r L->Lx (Zo f xs++r) (Qr (Vo f xs)++L)
 | [],_=>λf r L hr hL=>by rw [Zo,Vo];exact hL
 |a::xs,h=>λf r L hr hL=>by
  rw [Pq]at h;have h1:Lx (a.txt++(Zo false xs++r)) (Qr a.toks++(Qr (Vo false xs)++L)):=Nj a h.1 _ _ (Wft xs hr) (Qy5 xs h.2 false r L hr hL);rw [Zo,Vo];cases f with
  |true=>
   rw [Qk rfl,Qk rfl,Xk,Xk,Zd,Qy];exact h1
  |false=>
   rw [Qd (by decide),Qd (by decide),show [comma]++a.toks++Vo false xs=comma::(a.toks++Vo false xs) by simp,Wn,Zd,Qy,Qy];exact Lx.one (by decide) (Lx.blank rfl h1)
end
def tabs (n:Nat):List UInt8:=List.replicate n 9
mutual
def St.txt:St->Nat->List UInt8
 | .let_ s e,_=>Jj++32::(s++32::(eqs++32::(e.txt++[59])))
 | .set s e,_=>s++32::(eqs++32::(e.txt++[59]))
 | .put s i e,_=>s++91::(i.txt++93::32::(eqs++32::(e.txt++[59])))
 | .if_ e b,d=>Ae++32::(e.txt++32::123::10::(Vk b (d+1)++(tabs d++[125])))
 | .Cz e b c,d=>Ae++32::(e.txt++32::123::10::(Vk b (d+1)++(tabs d++125::32::(X7++32::123::10::(Vk c (d+1)++(tabs d++[125]))))))
 | .Kl e b,d=>Ck++32::(e.txt++32::123::10::(Vk b (d+1)++(tabs d++[125])))
 | .for_ s a b c,d=>Kc++32::(s++32::(eqs++32::(a.txt++44::32::(b.txt++32::123::10::(Vk c (d+1)++(tabs d++[125]))))))
 | .brk,_=>Ju++[59]
 | .cont,_=>Jy++[59]
 | .ret e,_=>Ap++32::(e.txt++[59])
 | .print e,_=>Bp++32::(e.txt++[59])
 | .do_ s xs,_=>(Ex.call s xs).txt++[59]
def Vk:List St->Nat->List UInt8
 | [],_=>[]
 |a::xs,d=>tabs d++(a.txt d++10::Vk xs d)
end
def Bf (b:List St) (d:Nat):List UInt8:=123::10::(Vk b (d+1)++(tabs d++[125]))
def Fj:Bool->List (List UInt8×Nat)->List UInt8
 |_,[]=>[]
 |f,p::ps=>(if f then []else [44,32])++(p.1++32::(Xh p.2++Fj false ps))
def Wm.txt (f:Wm):List UInt8:=Ki++32::(f.name++40::(Fj true f.ps++41::32::(Xh f.k++32::(Bf f.body 0++[10]))))
def Xv:List Wm->List UInt8
 | []=>[]
 |f::fs=>f.txt++Xv fs
mutual
def St.fin:St->Prop
 | .let_ s e=>X0 s/\e.fin
 | .set s e=>X0 s/\e.fin
 | .put s i e=>X0 s/\i.fin/\e.fin
 | .if_ e b=>e.fin/\Fy b
 | .Cz e b c=>e.fin/\Fy b/\Fy c
 | .Kl e b=>e.fin/\Fy b
 | .for_ s a b c=>X0 s/\a.fin/\b.fin/\Fy c
 | .brk=>True
 | .cont=>True
 | .ret e=>e.fin
 | .print e=>e.fin
 | .do_ s xs=>(Ex.call s xs).fin
def Fy:List St->Prop
 | []=>True
 |a::xs=>a.fin/\Fy xs
end
mutual
theorem Wqu: ∀a:St,a.fin->a.ok
 | .let_ s e,h=>by rw [St.fin]at h;rw [St.ok];exact ⟨h.1.kind,Dt e h.2⟩
 | .set s e,h=>by rw [St.fin]at h;rw [St.ok];exact ⟨h.1.kind,Dt e h.2⟩
 | .put s i e,h=>by rw [St.fin]at h;rw [St.ok];exact ⟨h.1.kind,Dt i h.2.1,Dt e h.2.2⟩
 | .if_ e b,h=>by rw [St.fin]at h;rw [St.ok];exact ⟨Dt e h.1,Qfc b h.2⟩
 | .Cz e b c,h=>by rw [St.fin]at h;rw [St.ok];exact ⟨Dt e h.1,Qfc b h.2.1,Qfc c h.2.2⟩
 | .Kl e b,h=>by rw [St.fin]at h;rw [St.ok];exact ⟨Dt e h.1,Qfc b h.2⟩
 | .for_ s a b c,h=>by rw [St.fin]at h;rw [St.ok];exact ⟨h.1.kind,Dt a h.2.1,Dt b h.2.2.1,Qfc c h.2.2.2⟩
 | .brk,h=>by rw [St.ok];trivial
 | .cont,h=>by rw [St.ok];trivial
 | .ret e,h=>by rw [St.fin]at h;rw [St.ok];exact Dt e h
 | .print e,h=>by rw [St.fin]at h;rw [St.ok];exact Dt e h
 | .do_ s xs,h=>by rw [St.fin]at h;rw [St.ok];exact Dt _ h
theorem Qfc: ∀b:List St,Fy b->Oe b
 | [],h=>by rw [Oe];trivial
 |a::xs,h=>by rw [Fy]at h;rw [Oe];exact ⟨Wqu a h.1,Qfc xs h.2⟩
end
theorem Sy (b:List UInt8) {r:List UInt8} {L:List Tk} (hw:(b.all (λc=>Vt c.toNat)&&(match b with | []=>false |c::_=>isLt c.toNat))=true) (hk:isKey b=true) (hL:Lx r L):Lx (b++32::r) (mkT b::L):=Qae hw hk (Ca rfl) (Lx.blank rfl hL)
theorem Qn3 {s r:List UInt8} {L:List Tk} (h:X0 s) (hL:Lx r L):Lx (s++32::r) (mkT s::L):=Qg4 h (Ca rfl) (Lx.blank rfl hL)
theorem Qlx {r:List UInt8} {L:List Tk} (hL:Lx r L):Lx (eqs++32::r) (mkT eqs::L):=Lx.sign (.inl rfl) hL
theorem Qqm {r:List UInt8} {L:List Tk} (hL:Lx r L):Lx (59::r) (mkT semi::L):=Lx.one (c:=59) (by decide) hL
theorem Woh {r:List UInt8} {L:List Tk} (hL:Lx r L):Lx (40::r) (mkT lp::L):=Lx.one (c:=40) (by decide) hL
theorem Q8y {r:List UInt8} {L:List Tk} (hL:Lx r L):Lx (41::r) (mkT rp::L):=Lx.one (c:=41) (by decide) hL
theorem Wpn {r:List UInt8} {L:List Tk} (hL:Lx r L):Lx (91::r) (mkT lb::L):=Lx.one (c:=91) (by decide) hL
theorem Wji {r:List UInt8} {L:List Tk} (hL:Lx r L):Lx (93::r) (mkT rb::L):=Lx.one (c:=93) (by decide) hL
theorem Q1m {r:List UInt8} {L:List Tk} (hL:Lx r L):Lx (44::r) (mkT comma::L):=Lx.one (c:=44) (by decide) hL
theorem Whi {r:List UInt8} {L:List Tk} (hL:Lx r L):Lx (123::r) (mkT lc::L):=Lx.one (c:=123) (by decide) hL
theorem Wi2 {r:List UInt8} {L:List Tk} (hL:Lx r L):Lx (125::r) (mkT rc::L):=Lx.one (c:=125) (by decide) hL
theorem Qf5 {r:List UInt8} {L:List Tk} (hL:Lx r L):Lx (32::r) L:=Lx.blank rfl hL
theorem Qqn {r:List UInt8} {L:List Tk} (hL:Lx r L):Lx (10::r) L:=Lx.blank rfl hL
theorem Qvu: ∀(n:Nat) {r:List UInt8} {L:List Tk},Lx r L->Lx (tabs n++r) L
 | 0,r,L,hL=>hL
 |n+1,r,L,hL=>by rw [show tabs (n+1)++r=9::(tabs n++r)from rfl];exact Lx.blank rfl (Qvu n hL)
theorem Nv (L:List Tk):Qr []++L=L:=rfl
def Q9o (a:St):Prop:= ∀(d:Nat) (r:List UInt8) (L:List Tk),Lx r L->Lx (a.txt d++r) (Qr a.toks++L)
def Q3g (b:List St):Prop:= ∀(d:Nat) (r:List UInt8) (L:List Tk),Lx r L->Lx (Vk b d++r) (Qr (K7 b)++L)
theorem Qff {e:Ex} (h:e.fin) {r:List UInt8} {L:List Tk} (hL:Lx r L):Lx (e.txt++59::r) (Qr e.toks++mkT semi::L):=Nj e h _ _ (Ca rfl) (Qqm hL)
theorem Qof {e:Ex} (h:e.fin) {r:List UInt8} {L:List Tk} (hL:Lx r L):Lx (e.txt++32::r) (Qr e.toks++L):=Nj e h _ _ (Ca rfl) (Qf5 hL)
theorem Qf6 {b:List St} (h:Q3g b) {d:Nat} {r:List UInt8} {L:List Tk} (hL:Lx r L):Lx (123::10::(Vk b (d+1)++(tabs d++125::r))) (mkT lc::(Qr (K7 b)++mkT rc::L)):=Whi (Qqn (h _ _ _ (Qvu d (Wi2 hL))))
mutual
theorem Q82: ∀a:St,a.fin->Q9o a
 | .let_ s e,h=>λd r L hL=>by rw [St.fin]at h;rw [St.txt,St.toks];simp only [Qy,V6,Xk,Wn,Zd,Nv];exact Sy Jj rfl rfl (Qn3 h.1 (Qlx (Qff h.2 hL)))
 | .set s e,h=>λd r L hL=>by rw [St.fin]at h;rw [St.txt,St.toks];simp only [Qy,V6,Xk,Wn,Zd,Nv];exact Qn3 h.1 (Qlx (Qff h.2 hL))
 | .put s i e,h=>λd r L hL=>by rw [St.fin]at h;rw [St.txt,St.toks];simp only [Qy,V6,Xk,Wn,Zd,Nv];exact Qg4 h.1 (Ca rfl) (Wpn (Nj i h.2.1 _ _ (Ca rfl) (Wji (Qf5 (Qlx (Qff h.2.2 hL))))))
 | .if_ e b,h=>λd r L hL=>by rw [St.fin]at h;rw [St.txt,St.toks];simp only [Qy,V6,Xk,Wn,Zd,Nv];exact Sy Ae rfl rfl (Qof h.1 (Qf6 (Qe9 b h.2) hL))
 | .Cz e b c,h=>λd r L hL=>by rw [St.fin]at h;rw [St.txt,St.toks];simp only [Qy,V6,Xk,Wn,Zd,Nv];exact Sy Ae rfl rfl (Qof h.1 (Qf6 (Qe9 b h.2.1) (Qf5 (Sy X7 rfl rfl (Qf6 (Qe9 c h.2.2) hL)))))
 | .Kl e b,h=>λd r L hL=>by rw [St.fin]at h;rw [St.txt,St.toks];simp only [Qy,V6,Xk,Wn,Zd,Nv];exact Sy Ck rfl rfl (Qof h.1 (Qf6 (Qe9 b h.2) hL))
 | .for_ s a b c,h=>λd r L hL=>by rw [St.fin]at h;rw [St.txt,St.toks];simp only [Qy,V6,Xk,Wn,Zd,Nv];exact Sy Kc rfl rfl (Qn3 h.1 (Qlx (Nj a h.2.1 _ _ (Ca rfl) (Q1m (Qf5 (Qof h.2.2.1 (Qf6 (Qe9 c h.2.2.2) hL)))))))
 | .brk,h=>λd r L hL=>by rw [St.txt,St.toks];simp only [Qy,V6,Xk,Wn,Nv];exact Qae (b:=Ju) rfl rfl (Ca rfl) (Qqm hL)
 | .cont,h=>λd r L hL=>by rw [St.txt,St.toks];simp only [Qy,V6,Xk,Wn,Nv];exact Qae (b:=Jy) rfl rfl (Ca rfl) (Qqm hL)
 | .ret e,h=>λd r L hL=>by rw [St.fin]at h;rw [St.txt,St.toks];simp only [Qy,V6,Xk,Wn,Zd,Nv];exact Sy Ap rfl rfl (Qff h hL)
 | .print e,h=>λd r L hL=>by rw [St.fin]at h;rw [St.txt,St.toks];simp only [Qy,V6,Xk,Wn,Zd,Nv];exact Sy Bp rfl rfl (Qff h hL)
 | .do_ s xs,h=>λd r L hL=>by rw [St.fin]at h;rw [St.txt,St.toks,Zd,Qlw,Qy];exact Qff h hL
theorem Qe9: ∀b:List St,Fy b->Q3g b
 | [],h=>λd r L hL=>by rw [Vk,K7];exact hL
 |a::xs,h=>λd r L hL=>by rw [Fy]at h;rw [Vk,K7,Zd,Qy,Qy,V6];exact Qvu d (Q82 a h.1 d _ _ (Qqn (Qe9 xs h.2 d r L hL)))
end
theorem Q7e {k:Nat} (h1:1<=k) (h3:k<=3):((Xh k).all (λc=>Vt c.toNat)&&(match Xh k with | []=>false |c::_=>isLt c.toNat))=true/\isKey (Xh k)=true:=by
 match k,h1,h3 with
 | 1,_,_ | 2,_,_ | 3,_,_=>exact ⟨rfl,rfl⟩
def Qd0 (p:List UInt8×Nat):Prop:=X0 p.1/\1<=p.2/\p.2<=3
structure Wm.Fin (f:Wm):Prop where
 name:X0 f.name
 Qnb: ∀p∈f.ps,Qd0 p
 few:f.ps.length<=8
 k1:1<=f.k
 k3:f.k<=3
 body:Fy f.body
theorem Wm.Fin.ok {f:Wm} (h:f.Fin):f.ok:=⟨h.name.kind,λp hp=>⟨(h.Qnb p hp).1.kind,(h.Qnb p hp).2⟩,h.few,h.k1,h.k3,Qfc _ h.body⟩
theorem Wfs (ps:List (List UInt8×Nat)) {r:List UInt8} (hr:Mj r):Mj (Fj false ps++r):=by
 cases ps with
 |nil=>exact hr
 |cons p ps=>exact Ca rfl
theorem Q8k: ∀(ps:List (List UInt8×Nat)),(∀p∈ps,Qd0 p)-> ∀(f:Bool) (r:List UInt8) (L:List Tk),Mj r->Lx r L->Lx (Fj f ps++r) (Qr (Im f ps)++L)
 | [],_,f,r,L,hr,hL=>hL
 |p::ps,h,f,r,L,hr,hL=>by
  obtain ⟨hn,h1,h3⟩:=h p (by simp);have hk:=Q7e h1 h3;have h0:Lx (p.1++32::(Xh p.2++(Fj false ps++r))) (mkT p.1::mkT (Xh p.2)::(Qr (Im false ps)++L)):=Qn3 hn (Qae hk.1 hk.2 (Wfs ps hr) (Q8k ps (λq hq=>h q (Iy _ hq)) false r L hr hL));rw [Fj,Im];cases f with
  |true=>
   simp only [Qy,V6,Xk,Wn,if_true];exact h0
  |false=>
   simp only [Qy,V6,Xk,Wn,if_false,Bool.false_eq_true];exact Q1m (Qf5 h0)
theorem Q96 {f:Wm} (h:f.Fin) {r:List UInt8} {L:List Tk} (hL:Lx r L):Lx (f.txt++r) (Qr f.toks++L):=by have hk:=Q7e h.k1 h.k3;unfold Wm.txt Wm.toks Bf Fp;simp only [Qy,V6,Xk,Wn,Zd,Nv];exact Sy Ki rfl rfl (Qg4 h.name (Ca rfl) (Woh (Q8k f.ps h.Qnb true _ _ (Ca rfl) (Q8y (Qf5 (Sy (Xh f.k) hk.1 hk.2 (Qf6 (Qe9 f.body h.body) (Qqn hL))))))))
theorem Qsg: ∀fs:List Wm,(∀f∈fs,f.Fin)->Lx (Xv fs) (Qr (Uk fs)++[⟨0,[],0,0⟩])
 | [],_=>Lx.nil
 |f::fs,h=>by rw [Xv,Uk,Zd];exact Q96 (h f (by simp)) (Qsg fs (λq hq=>h q (Iy _ hq)))
section
inductive Yf where
 |no
 |ex (e:Ex)
 |st (a:St)
 |blk (b:List St)
 |par (p:List UInt8×Nat)
 |fn (f:Wm)
 |pr (fs:List Wm)
def Yf.e:Yf->Ex
 | .ex e=>e
 |_=>.nil
def Yf.s:Yf->St
 | .st a=>a
 |_=>.brk
def Yf.b:Yf->List St
 | .blk b=>b
 |_=>[]
def Yf.p:Yf->List UInt8×Nat
 | .par p=>p
 |_=>([],0)
def Yf.f:Yf->Wm
 | .fn f=>f
 |_=>⟨[],[],0,[]⟩
def Wcu:Ex->St
 | .call s xs=>.do_ s xs
 |_=>.brk
def Vr (ks:List Yf) (i:Nat):Yf:=ks.getD i .no
def Qia (K n:Int) (s:List UInt8) (ks:List Yf):Yf:=
 if K=1 then .ex (.num n.toNat)
 else if K=2 then .ex (.bool (decide (n=1)))
 else if K=3 then .ex .nil
 else if K=4 then .ex (.var s)
 else if K=5 then .ex (.bin n.toNat (Vr ks 0).e (Vr ks 1).e)
 else if K=6 then .ex (.neg (Vr ks 0).e)
 else if K=7 then .ex (.not (Vr ks 0).e)
 else if K=8 then .ex (.index (Vr ks 0).e (Vr ks 1).e)
 else if K=9 then .ex (.len (Vr ks 0).e)
 else if K=10 then .ex (.new (Vr ks 0).e)
 else if K=11 then .ex (.call s (ks.map Yf.e))
 else if K=12 then .st (.let_ s (Vr ks 0).e)
 else if K=13 then .st (.set s (Vr ks 0).e)
 else if K=14 then .st (.put s (Vr ks 0).e (Vr ks 1).e)
 else if K=15 then .st (if ks.length=3 then .Cz (Vr ks 0).e (Vr ks 1).b (Vr ks 2).b else .if_ (Vr ks 0).e (Vr ks 1).b)
 else if K=16 then .st (.Kl (Vr ks 0).e (Vr ks 1).b)
 else if K=17 then .st (.for_ s (Vr ks 0).e (Vr ks 1).e (Vr ks 2).b)
 else if K=18 then .st .brk
 else if K=19 then .st .cont
 else if K=20 then .st (.ret (Vr ks 0).e)
 else if K=21 then .st (.print (Vr ks 0).e)
 else if K=22 then .st (Wcu (Vr ks 0).e)
 else if K=23 then .blk (ks.map Yf.s)
 else if K=24 then .par (s,n.toNat)
 else if K=25 then .fn ⟨s,ks.dropLast.map Yf.p,n.toNat,(Vr ks (ks.length-1)).b⟩
 else if K=26 then .pr (ks.map Yf.f)
 else .no
def Qsc (x:Nd) (ks:List Yf):Yf:=Qia x.kind x.n x.t ks
def Yb (l:List Nd) (i:Nat):Yf:=val Qsc l i
def Z8 (K n:Int) (s:List UInt8) (ts:List (List UInt8)):List UInt8:=txf (En K [] n ⟨s.toArray⟩ 0) ts
theorem Wcp (x:Nd) (ts:List (List UInt8)):txf x ts=Z8 x.kind x.n x.t ts:=rfl
mutual
def Ex.told:Ex->List UInt8
 | .num n=>Z8 1 (n:Int) [] []
 | .bool b=>Z8 2 (if b then 1 else 0) [] []
 | .nil=>Z8 3 0 [] []
 | .var s=>Z8 4 0 s []
 | .bin op a b=>Z8 5 (op:Int) [] [a.told,b.told]
 | .neg a=>Z8 6 0 [] [a.told]
 | .not a=>Z8 7 0 [] [a.told]
 | .index a b=>Z8 8 0 [] [a.told,b.told]
 | .len a=>Z8 9 0 [] [a.told]
 | .new a=>Z8 10 0 [] [a.told]
 | .call s xs=>Z8 11 0 s (tolds xs)
def tolds:List Ex->List (List UInt8)
 | []=>[]
 |a::xs=>a.told::tolds xs
end
mutual
def St.told:St->List UInt8
 | .let_ s e=>Z8 12 0 s [e.told]
 | .set s e=>Z8 13 0 s [e.told]
 | .put s i e=>Z8 14 0 s [i.told,e.told]
 | .if_ e b=>Z8 15 0 [] [e.told,Z8 23 0 [] (Lp b)]
 | .Cz e b c=>Z8 15 0 [] [e.told,Z8 23 0 [] (Lp b),Z8 23 0 [] (Lp c)]
 | .Kl e b=>Z8 16 0 [] [e.told,Z8 23 0 [] (Lp b)]
 | .for_ s a b c=>Z8 17 0 s [a.told,b.told,Z8 23 0 [] (Lp c)]
 | .brk=>Z8 18 0 [] []
 | .cont=>Z8 19 0 [] []
 | .ret e=>Z8 20 0 [] [e.told]
 | .print e=>Z8 21 0 [] [e.told]
 | .do_ s xs=>Z8 22 0 [] [(Ex.call s xs).told]
def Lp:List St->List (List UInt8)
 | []=>[]
 |a::xs=>a.told::Lp xs
end
def Qca (b:List St):List UInt8:=Z8 23 0 [] (Lp b)
def Qzr (p:List UInt8×Nat):List UInt8:=Z8 24 (p.2:Int) p.1 []
def Wm.told (f:Wm):List UInt8:=Z8 25 (f.k:Int) f.name (f.ps.map Qzr++[Qca f.body])
def Qo4 (fs:List Wm):List UInt8:=Z8 26 0 [] (fs.map Wm.told)
structure Qnn (fs:List Wm):Prop where
 fns: ∀f∈fs,f.Fin
 few:fs.length<=200
theorem Qzo: ∀xs:List Ex,tolds xs=xs.map Ex.told
 | []=>rfl
 |a::xs=>by rw [tolds,Qzo xs];rfl
theorem Q8j: ∀xs:List St,Lp xs=xs.map St.told
 | []=>rfl
 |a::xs=>by rw [Lp,Q8j xs];rfl
theorem Qv9: ∀xs:List Ex,sizes xs=(xs.map Ex.size).sum
 | []=>rfl
 |a::xs=>by rw [sizes,Qv9 xs];rfl
theorem We4: ∀xs:List Ex,Bh xs+1=(xs.map Ex.ht).foldl (λh x=>max h (1+x)) 1:=by
 have H: ∀(xs:List Ex) (a:Nat),1<=a->max a (Bh xs+1)=(xs.map Ex.ht).foldl (λh x=>max h (1+x)) a:=by
  intro xs
  induction xs with
  |nil=>intro a ha;show max a (Bh []+1)=a;rw [Bh];omega
  |cons x xs ih=>
   intro a ha;rw [Y6,List.foldl_cons,<-ih _ (by omega),Bh];omega
 intro xs;rw [<-H xs 1 (Qh 1)];omega
theorem Qld: ∀ps:List Part,Zg ps=(ps.map Part.size).sum
 | []=>rfl
 |a::xs=>by rw [Zg,Qld xs];rfl
theorem Wa2: ∀ps:List Part,Vb ps+1=(ps.map Part.ht).foldl (λh x=>max h (1+x)) 1:=by
 have H: ∀(xs:List Part) (a:Nat),1<=a->max a (Vb xs+1)=(xs.map Part.ht).foldl (λh x=>max h (1+x)) a:=by
  intro xs
  induction xs with
  |nil=>intro a ha;show max a (Vb []+1)=a;rw [Vb];omega
  |cons x xs ih=>
   intro a ha;rw [Y6,List.foldl_cons,<-ih _ (by omega),Vb];omega
 intro xs;rw [<-H xs 1 (Qh 1)];omega
theorem Qhk: ∀xs:List St,Zl xs=xs.map St.part
 | []=>rfl
 |a::xs=>by rw [Zl,Qhk xs];rfl
theorem Q24: ∀xs:List Ex,Pq xs↔ ∀e∈xs,e.fin
 | []=>by rw [Pq];simp
 |a::xs=>by rw [Pq,Q24 xs];simp
theorem Q3v: ∀xs:List St,Fy xs↔ ∀a∈xs,a.fin
 | []=>by rw [Fy];simp
 |a::xs=>by rw [Fy,Q3v xs];simp
theorem Wrp {t:List UInt8} (h:Xa t=true):X0 t:=by
 unfold Xa at h;simp only [Yo,Wt,Bool.not_eq_true',Ou]at h;obtain ⟨⟨⟨⟨h0,h32⟩,hd⟩,hall⟩,hk⟩:=h;refine ⟨⟨?_,λc hc=>hall c hc⟩,h32,hk⟩;cases t with
 |nil=>simp at h0
 |cons c cs=>
  refine ⟨c,cs,rfl,?_⟩;have h1:=hall c (by simp);have h2:Cm c.toNat=false:=hd;rw [h2,Bool.or_false]at h1;exact h1
variable {l:List Nd}{i:Nat}{k:Int}
structure XE (l:List Nd) (k:Int) (e:Ex):Prop where
 r:Yb l k.toNat= .ex e
 fin:e.fin
 t:e.told=tx l k.toNat
 z:e.size=sz l k.toNat
 h:e.ht=hgt l k.toNat
structure XS (l:List Nd) (k:Int) (a:St):Prop where
 r:Yb l k.toNat= .st a
 fin:a.fin
 t:a.told=tx l k.toNat
 z:a.part.size=sz l k.toNat
 h:a.part.ht=hgt l k.toNat
structure XB (l:List Nd) (k:Int) (b:List St):Prop where
 r:Yb l k.toNat= .blk b
 fin:Fy b
 t:Qca b=tx l k.toNat
 z:(X6 b).size=sz l k.toNat
 h:(X6 b).ht=hgt l k.toNat
structure XP (l:List Nd) (k:Int) (p:List UInt8×Nat):Prop where
 r:Yb l k.toNat= .par p
 fin:Qd0 p
 t:Qzr p=tx l k.toNat
 z:(Zb p).size=sz l k.toNat
 h:(Zb p).ht=hgt l k.toNat
structure XF (l:List Nd) (k:Int) (f:Wm):Prop where
 r:Yb l k.toNat= .fn f
 fin:f.Fin
 t:f.told=tx l k.toNat
 z:f.part.size=sz l k.toNat
 h:f.part.ht=hgt l k.toNat
structure XR (l:List Nd) (k:Int) (fs:List Wm):Prop where
 r:Yb l k.toNat= .pr fs
 fin:Qnn fs
 t:Qo4 fs=tx l k.toNat
 z:(Ko fs).size=sz l k.toNat
 h:(Ko fs).ht=hgt l k.toNat
structure Il (l:List Nd) (i:Nat):Prop where
 ex:Q6 (nd l i).kind=true-> ∃e,XE l i e/\((nd l i).kind=11-> ∃s xs,e= .call s xs)
 st:Jv (nd l i).kind=true-> ∃a,XS l i a
 blk:(nd l i).kind=23-> ∃b,XB l i b
 par:(nd l i).kind=24-> ∃p,XP l i p
 fn:(nd l i).kind=25-> ∃f,XF l i f
 pr:(nd l i).kind=26-> ∃fs,XR l i fs
inductive Gc {α:Type} (P:Int->α->Prop):List Int->List α->Prop where
 |nil:Gc P [] []
 |cons {k:Int} {a:α} {ks:List Int} {ys:List α}:P k a->Gc P ks ys->Gc P (k::ks) (a::ys)
theorem Qab {α:Type} {P:Int->α->Prop}: ∀ks:List Int,(∀k∈ks,∃a,P k a)-> ∃ys:List α,Gc P ks ys
 | [],_=>⟨[],.nil⟩
 |k::ks,h=>by obtain ⟨a,ha⟩:=h k (by simp);obtain ⟨ys,has⟩:=Qab ks λq hq=>h q (Iy _ hq);exact ⟨a::ys,.cons ha has⟩
theorem Gx {α β:Type} {P:Int->α->Prop} {f:Int->β} {g:α->β} {ks:List Int} {ys:List α} (h:Gc P ks ys) (hf: ∀k a,P k a->f k=g a):ks.map f=ys.map g:=by
 induction h with
 |nil=>rfl
 |cons h1 _ ih=>rw [Y6,Y6,ih,hf _ _ h1]
theorem Qig {α:Type} {P:Int->α->Prop} {ks:List Int} {ys:List α} (h:Gc P ks ys): ∀a∈ys,∃k,P k a:=by
 induction h with
 |nil=>intro a ha;cases ha
 |cons h1 _ ih=>
  intro a ha;rcases List.mem_cons.1 ha with rfl |ha
  ·exact ⟨_,h1⟩
  ·exact ih a ha
theorem Qc6 {α:Type} {P:Int->α->Prop} {ks:List Int} {ys:List α} (h:Gc P ks ys):ks.length=ys.length:=by
 induction h with
 |nil=>rfl
 |cons _ _ ih=>rw [Qp,Qp,ih]
end
section
variable {l:List Nd}{i:Nat}{x:Nd}
theorem Ox (l:List Nd) (x:Nd):(kk l x).length=x.kids.length:=by unfold kk;rw [Zr]
theorem Qjn {α:Type} {ks:List α} (h:ks.length=1): ∃a,ks=[a]:=by
 match ks,h with
 | [a],_=>exact ⟨a,rfl⟩
theorem Qu8 {α:Type} {ks:List α} (h:ks.length=2): ∃a b,ks=[a,b]:=by
 match ks,h with
 | [a,b],_=>exact ⟨a,b,rfl⟩
theorem Q1h {α:Type} {ks:List α} (h:ks.length=3): ∃a b c,ks=[a,b,c]:=by
 match ks,h with
 | [a,b,c],_=>exact ⟨a,b,c,rfl⟩
def Yp (l:List Nd) (k:Int):Int:=(nd l k.toNat).kind
theorem Qcf (l:List Nd) (x:Nd):kk l x=x.kids.map (Yp l):=rfl
theorem Qf8 {K:Int} (hK:K=5\/K=8\/K=14) (h:Y9 K (kk l x)=true): ∃a b,x.kids=[a,b]/\Q6 (Yp l a)=true/\Q6 (Yp l b)=true:=by unfold Y9 at h;rw [Qk hK,Yo,Wt,Ox]at h;obtain ⟨a,b,e⟩:=Qu8 h.1;refine ⟨a,b,e,?_⟩;have h2:=h.2;rw [Qcf,e]at h2;simp [exprs]at h2;exact h2
theorem Gs {K:Int} (hK:K=6\/K=7\/K=9\/K=10\/K=12\/K=13\/K=20\/K=21) (h:Y9 K (kk l x)=true): ∃a,x.kids=[a]/\Q6 (Yp l a)=true:=by unfold Y9 at h;rw [Qd (by omega),Qk hK,Yo,Wt,Ox]at h;obtain ⟨a,e⟩:=Qjn h.1;refine ⟨a,e,?_⟩;have h2:=h.2;rw [Qcf,e]at h2;simp [exprs]at h2;exact h2
theorem Q5m (h:Y9 11 (kk l x)=true):x.kids.length<=8/\ ∀a∈x.kids,Q6 (Yp l a)=true:=by have h:(decide ((kk l x).length<=8)&&exprs (kk l x) (kk l x).length)=true:=h;rw [Yo,Wt,Ox]at h;refine ⟨h.1,λa ha=> ?_⟩;have h2:=h.2;unfold exprs at h2;rw [Yo,<-Ox l x,List.take_length,Ou]at h2;exact h2.2 _ (List.mem_map_of_mem ha)
theorem Q6v (h:Y9 15 (kk l x)=true):(∃a b,x.kids=[a,b]/\Q6 (Yp l a)=true/\Yp l b=23)\/ ∃a b c,x.kids=[a,b,c]/\Q6 (Yp l a)=true/\Yp l b=23/\Yp l c=23:=by
 have h:(exprs (kk l x) 1&&decide (2<=(kk l x).length)&&Jd ((kk l x).drop 1) 23 2)=true:=h;rw [Yo,Yo,Wt,Ox]at h;obtain ⟨⟨h1,h2⟩,h3⟩:=h;have hlen:x.kids.length<=3:=by unfold Jd at h3;rw [Yo,Wt,Vf,Ox]at h3;omega
 rcases V7 x.kids.length 3 with hl |hl
 ·obtain ⟨a,b,e⟩:=Qu8 (show x.kids.length=2 by omega);rw [Qcf,e]at h1 h3;simp [exprs]at h1;simp [Jd]at h3;exact .inl ⟨a,b,e,h1,h3⟩
 ·obtain ⟨a,b,c,e⟩:=Q1h (show x.kids.length=3 by omega);rw [Qcf,e]at h1 h3;simp [exprs]at h1;simp [Jd]at h3;exact .inr ⟨a,b,c,e,h1,h3⟩
theorem Q4m (h:Y9 16 (kk l x)=true): ∃a b,x.kids=[a,b]/\Q6 (Yp l a)=true/\Yp l b=23:=by have h:(exprs (kk l x) 1&&decide ((kk l x).length=2)&&Jd ((kk l x).drop 1) 23 1)=true:=h;rw [Yo,Yo,Wt,Ox]at h;obtain ⟨⟨h1,h2⟩,h3⟩:=h;obtain ⟨a,b,e⟩:=Qu8 h2;rw [Qcf,e]at h1 h3;simp [exprs]at h1;simp [Jd]at h3;exact ⟨a,b,e,h1,h3⟩
theorem Q04 (h:Y9 17 (kk l x)=true): ∃a b c,x.kids=[a,b,c]/\Q6 (Yp l a)=true/\Q6 (Yp l b)=true/\Yp l c=23:=by have h:(exprs (kk l x) 2&&decide ((kk l x).length=3)&&Jd ((kk l x).drop 2) 23 1)=true:=h;rw [Yo,Yo,Wt,Ox]at h;obtain ⟨⟨h1,h2⟩,h3⟩:=h;obtain ⟨a,b,c,e⟩:=Q1h h2;rw [Qcf,e]at h1 h3;simp [exprs]at h1;simp [Jd]at h3;exact ⟨a,b,c,e,h1.1,h1.2,h3⟩
theorem Q0x (h:Y9 22 (kk l x)=true): ∃a,x.kids=[a]/\Yp l a=11:=by have h:(decide ((kk l x).length=1)&&decide ((kk l x).getD 0 0=11))=true:=h;rw [Yo,Wt,Wt,Ox]at h;obtain ⟨a,e⟩:=Qjn h.1;have h2:=h.2;rw [Qcf,e]at h2;exact ⟨a,e,h2⟩
theorem Qyj (h:Y9 23 (kk l x)=true): ∀a∈x.kids,Jv (Yp l a)=true:=by have h:(kk l x).all Jv=true:=h;rw [Ou]at h;exact λa ha=>h _ (List.mem_map_of_mem ha)
theorem Q8a (h:Y9 25 (kk l x)=true): ∃ps b,x.kids=ps++[b]/\ps.length<=8/\(∀a∈ps,Yp l a=24)/\Yp l b=23:=by
 have h:(decide (1<=(kk l x).length)&&Jd ((kk l x).take ((kk l x).length-1)) 24 8&&decide ((kk l x).getD ((kk l x).length-1) 0=23))=true:=h;rw [Yo,Yo,Wt,Wt,Ox]at h;obtain ⟨⟨h1,h2⟩,h3⟩:=h;have hne:x.kids≠[]:=by intro e;rw [e]at h1;simp at h1
 have e:=List.dropLast_concat_getLast hne;have hlen:x.kids.length=x.kids.dropLast.length+1:=by rw [List.length_dropLast];omega
 have hm:kk l x=x.kids.dropLast.map (Yp l)++[Yp l (x.kids.getLast hne)]:=by
  rw [Qcf]
  conv=>lhs;rw [<-e]
  rw [Zp];rfl
 have hl':x.kids.length-1=(x.kids.dropLast.map (Yp l)).length:=by rw [Zr];omega
 rw [hl',hm,List.take_left']at h2
 ·rw [hl',hm]at h3;unfold Jd at h2;rw [Yo,Ou,Wt,Zr]at h2;refine ⟨x.kids.dropLast,x.kids.getLast hne,e.symm,h2.2,λa ha=> ?_,?_⟩
  ·exact eq_of_beq (h2.1 _ (List.mem_map_of_mem ha))
  ·rw [Yc,Ht (Qh _)]at h3;simpa using h3
 ·rfl
theorem Qy2 (h:Y9 26 (kk l x)=true):x.kids.length<=200/\ ∀a∈x.kids,Yp l a=25:=by have h:Jd (kk l x) 25 200=true:=h;unfold Jd at h;rw [Yo,Ou,Wt,Ox]at h;exact ⟨h.2,λa ha=>eq_of_beq (h.1 _ (List.mem_map_of_mem ha))⟩
theorem Ma {K:Int} (hK:K=1\/K=2\/K=3\/K=4\/K=18\/K=19\/K=24) (h:Y9 K (kk l x)=true):x.kids=[]:=by
 have h:(decide ((kk l x).length=0))=true:=by rcases hK with rfl |rfl |rfl |rfl |rfl |rfl |rfl<;>exact h
 rw [Wt,Ox]at h;exact List.length_eq_zero_iff.1 h
end
end Go.Proofs.YtdncpkkhkbijfaaGreatDoor
