import Derived.Test.YtdncpkkhkbijfaaGreatDoorBa3
import Derived.Test.YtdncpkkhkbijfaaGreatDoorBa9
set_option linter.all false
set_option maxHeartbeats 0
set_option maxRecDepth 100000
namespace Go.Proofs.YtdncpkkhkbijfaaGreatDoor
section
theorem Qju {A C:List Nd} {i:Nat} (h:i<A.length):nd (A++C) i=nd A i:=by unfold nd;rw [Yc,Yc,Qg1 h]
theorem Qk2 {A:List Nd} {x:Nd}:nd (A++[x]) A.length=x:=by unfold nd;rw [Yc,Ht (Qh _),Nat.sub_self];rfl
def Fb (l:List Nd):List Int:=l.flatMap (λx=>x.kids)
theorem Wma (l:List Nd) (x:Nd):Fb (l++[x])=Fb l++x.kids:=by unfold Fb;rw [List.flatMap_append];simp
theorem Q8g (l:List Nd):Jc l l.length=Fb l:=by unfold Jc Fb;rw [List.take_length]
def rng (n:Nat):List Int:=(List.range n).map Int.ofNat
theorem Wfk (n:Nat):rng (n+1)=rng n++[(n:Int)]:=by unfold rng;rw [List.range_succ,Zp];rfl
theorem Q7b {n:Nat} {z:Int}:z∈rng n↔0<=z/\z<(n:Int):=by
 unfold rng;rw [List.mem_map];constructor
 ·rintro ⟨i,hi,rfl⟩;have:=List.mem_range.1 hi;exact ⟨Int.natCast_nonneg i,by show (i:Int)<_;omega⟩
 ·rintro ⟨h1,h2⟩;exact ⟨z.toNat,List.mem_range.2 (by omega),by show ((z.toNat:Nat):Int)=z;omega⟩
theorem Ahead.snoc {l:List Nd} {x:Nd} (h:Ahead l) (hx: ∀k∈x.kids,0<=k/\k<(l.length:Int)):Ahead (l++[x]):=by
 intro i hi k hk;rw [Qf]at hi;have hi':i<l.length+1:=hi;rcases V7 i l.length with g |g
 ·rw [Qju g]at hk;exact h i g k hk
 ·have e:i=l.length:=by omega
  subst e;rw [Qk2]at hk;exact hx k hk
theorem Qx5 {l:List Nd} {x:Nd} (h:Ahead l) (h':Ahead (l++[x])): ∀n i,i<n->i<l.length->hgt (l++[x]) i=hgt l i:=by
 intro n
 induction n with
 |zero=>intro i h;omega
 |succ n ih=>
  intro i hn hi;rw [Qf4 h' (by rw [Qf];omega),Qf4 h hi,Qju hi];congr 1;apply List.map_congr_left;intro k hk;have:=h i hi k hk;exact ih k.toNat (by omega) (by omega)
theorem Q3t {h:List Nat} {l:List Nd} (hh: ∀i,i<l.length->h.getD i 0=hgt l i) (hn:h.length=l.length): ∀(ks:List Int) (a:Nat),(∀k∈ks,0<=k/\k<(l.length:Int))->ks.foldl (hstep h) a=(ks.map (λk=>hgt l k.toNat)).foldl (λh x=>max h (1+x)) a
 | [],a,_=>rfl
 |k::ks,a,hk=>by
  have h1:=hk k (List.mem_cons_self ..);have e:hstep h a k=max a (1+hgt l k.toNat):=by unfold hstep;rw [Qk ⟨h1.1,by rw [hn];exact h1.2⟩,hh k.toNat (by omega),Nat.add_comm]
  show ks.foldl (hstep h) (hstep h a k)=_;rw [e];exact Q3t hh hn ks _ (λk hk'=>hk k (Iy _ hk'))
structure I8 (L:List Tk):Prop where
 fin: ∀j t,L[j]? =some t->t.kind≠0->j+1<L.length
 name: ∀t∈L,t.kind=1->Xa t.text=true
 num: ∀t∈L,t.n<=9223372036854775807
structure Wx (St:Int->Prop) (L:List Tk) (s:PS) (ps:List Int):Prop where
 suf: ∃j,j<L.length/\s.r=L.drop j
 fo:(Fb s.l++ps).Perm (rng s.l.length)
 ahead:Ahead s.l
 hn:s.h.length=s.l.length
 hh: ∀i,i<s.l.length->s.h.getD i 0=hgt s.l i
 low: ∀i,i<s.l.length->hgt s.l i<=200
 fit: ∀i,i<s.l.length->J7 s.l (nd s.l i)=true
 stand: ∀x∈s.l,St x.at_
 nums: ∀x∈s.l,0<=x.n/\x.n<=9223372036854775807
variable {St:Int→Prop}{L:List Tk}{s s1 s2:PS}{ps:List Int}
theorem Wx.tok (h:Wx St L s ps): ∃j,L[j]? =some s.tok/\s.r=L.drop j/\s.tok∈L:=by
 obtain ⟨j,hj,hr⟩:=h.suf;have e:L.drop j=L[j]::L.drop (j+1):=List.drop_eq_getElem_cons hj;have et:s.tok=L[j]:=by unfold PS.tok;rw [hr,e];rfl
 exact ⟨j,by rw [et];exact Y3 hj,hr,by rw [et];exact F5 _⟩
theorem Wx.Jq (h:Wx St L s ps):s.tok∈L:=by obtain ⟨_,_,_,h⟩:=h.tok;exact h
theorem Wx.next (hL:I8 L) (h:Wx St L s ps) (hk:s.tok.kind≠0):Wx St L s.next ps:=by obtain ⟨j,hj,hr,_⟩:=h.tok;have:=hL.fin j _ hj hk;refine ⟨⟨j+1,this,?_⟩,h.fo,h.ahead,h.hn,h.hh,h.low,h.fit,h.stand,h.nums⟩;show s.r.tail=_;rw [hr,List.tail_drop]
theorem Q2s {t:Tk} {b:List UInt8} (h:sees t b=true):t.kind≠0:=by unfold sees at h;simp at h;omega
theorem Wx.Ml (hL:I8 L) (h:Wx St L s ps) {b:List UInt8} (hb:s.is b=true):Wx St L s.next ps:=h.next hL (Q2s hb)
theorem Wx.mem (h:Wx St L s ps) {k:Int} (hk:k∈ps):0<=k/\k<(s.l.length:Int):=Q7b.1 (h.fo.subset (List.mem_append_right _ hk))
theorem Uu (h:Wx St L s ps):Wx St L s (ps++[]):=by rw [Xe];exact h
def Ext (s s':PS):Prop:= ∃r,s'.l=s.l++r
theorem Ext.refl (s:PS):Ext s s:=⟨[],(Xe _).symm⟩
theorem Ext.of_next:Ext s s.next:=⟨[],(Xe _).symm⟩
theorem Ext.trans (h:Ext s s1) (g:Ext s1 s2):Ext s s2:=by obtain ⟨r,e⟩:=h;obtain ⟨r',e'⟩:=g;exact ⟨r++r',by rw [e',e,Qy]⟩
theorem Ext.Hr (h:Ext s s1):Ext s s1.next:=h.trans .of_next
def Ws (s:PS) (p:Int):Int:=(nd s.l p.toNat).kind
theorem Ext.kd (h:Ext s s1) {p:Int} (hp:0<=p/\p<(s.l.length:Int)):Ws s1 p=Ws s p:=by obtain ⟨r,e⟩:=h;unfold Ws;rw [e,Qju (by omega)]
theorem Ext.I6 (h:Ext s s1) (hi:Wx St L s ps) {p:Int} (hp:p∈ps):Ws s1 p=Ws s p:=h.kd (hi.mem hp)
structure Em (St:Int->Prop) (s:PS) (x:Nd):Prop where
 own:ownB x=true
 kids:Y9 x.kind (x.kids.map (Ws s))=true
 stand:St x.at_
 nums:0<=x.n/\x.n<=9223372036854775807
structure Qgd (St:Int->Prop) (L:List Tk) (s:PS) (ps:List Int) (x:Nd) (l:List Int) (s':PS):Prop where
 inv:Wx St L s' (ps++l)
 root: ∃p,l=[p]/\Ws s' p=x.kind
 ext:Ext s s'
def Qfy (St:Int->Prop) (L:List Tk) (s:PS) (ps:List Int) (x:Nd) (v:Out):Prop:=match v with
 | .ok (l,s')=>Qgd St L s ps x l s'
 | .error f=>St (f.2:Int)
theorem Wx.lay {x:Nd} {qs:List Int} (h:Wx St L s (ps++qs)) (hx:x.kids=qs) (ho:Em St s x) (ha:0<=x.at_):Qfy St L s ps x (lay x s):=by
 have hq: ∀k∈x.kids,0<=k/\k<(s.l.length:Int):=λk hk=>h.mem (List.mem_append_right _ (by rw [<-hx];exact hk));unfold Go.Proofs.YtdncpkkhkbijfaaGreatDoor.lay;split
 ·show St ((x.at_.toNat:Nat):Int);rw [show ((x.at_.toNat:Nat):Int)=x.at_ by omega];exact ho.stand
 ·rename_i hh;have hA:=h.ahead.snoc hq;have hnew:hgt (s.l++[x]) s.l.length=high s.h x.kids:=by rw [Qf4 hA (by simp),Qk2];unfold high;rw [Q3t h.hh h.hn x.kids 1 hq];congr 1;apply List.map_congr_left;intro k hk;have:=hq k hk;exact Qx5 h.ahead hA (k.toNat+1) k.toNat (by omega) (by omega)
  have hold: ∀i,i<s.l.length->hgt (s.l++[x]) i=hgt s.l i:=λi hi=>Qx5 h.ahead hA (i+1) i (by omega) hi;have hlen: ∀i,i<(s.l++[x]).length->i<s.l.length\/i=s.l.length:=λi hi=>by rw [Qf]at hi;have:i<s.l.length+1:=hi;omega
  have hkk: ∀y:Nd,(∀k∈y.kids,0<=k/\k<(s.l.length:Int))->kk (s.l++[x]) y=kk s.l y:=by intro y hy;unfold kk;apply List.map_congr_left;intro k hk;have:=hy k hk;rw [Qju (by omega)]
  refine ⟨⟨h.suf,?_,hA,?_,?_,?_,?_,?_,?_⟩,⟨_,rfl,?_⟩,⟨[x],rfl⟩⟩
  ·show (Fb (s.l++[x])++(ps++[(s.l.length:Int)])).Perm (rng (s.l++[x]).length);rw [Wma,Qf,show [x].length=1 from rfl,Wfk,hx];have h1:=h.fo;have h2:(Fb s.l++qs++(ps++[(s.l.length:Int)])).Perm (Fb s.l++(ps++qs)++[(s.l.length:Int)]):=by rw [Qy,Qy,<-Qy qs ps];exact List.Perm.append_left _ (List.Perm.append_right _ List.perm_append_comm)
   exact h2.trans (List.Perm.append_right _ h1)
  ·show (s.h++[_]).length=(s.l++[x]).length;rw [Qf,Qf,h.hn];rfl
  ·intro i hi;show (s.h++[high s.h x.kids]).getD i 0=_;rcases hlen i hi with g |g
   ·rw [hold i g,<-h.hh i g,Yc,Qg1 (by rw [h.hn];exact g),<-Yc]
   ·subst g;show _=hgt (s.l++[x]) s.l.length;rw [hnew,Yc,Ht (by rw [h.hn];exact Qh _),h.hn,Nat.sub_self];rfl
  ·intro i hi;show hgt (s.l++[x]) i<=200;rcases hlen i hi with g |g
   ·rw [hold i g];exact h.low i g
   ·subst g;rw [hnew];omega
  ·intro i hi;show J7 (s.l++[x]) (nd (s.l++[x]) i)=true;rcases hlen i hi with g |g
   ·rw [Qju g];have h1:=h.fit i g;unfold J7 at h1 ⊢;rw [hkk _ (λk hk=>by have:=h.ahead i g k hk;omega)];exact h1
   ·subst g;rw [Qk2];unfold J7;rw [ho.own,hkk x hq,Bool.true_and];exact ho.kids
  ·intro y hy;rcases List.mem_append.1 hy with hy |hy
   ·exact h.stand y hy
   ·rw [List.mem_singleton.1 hy];exact ho.stand
  ·intro y hy;rcases List.mem_append.1 hy with hy |hy
   ·exact h.nums y hy
   ·rw [List.mem_singleton.1 hy];exact ho.nums
  ·show (nd (s.l++[x]) ((s.l.length:Int)).toNat).kind=_;rw [Ja,Qk2]
structure Got (St:Int->Prop) (L:List Tk) (m:Md) (s:PS) (ps:List Int) (l:List Int) (s':PS):Prop where
 inv:Wx St L s' (ps++l)
 few:l.length<=8
 one:(∀acc,m≠ .args acc)-> ∃p,l=[p]
 ex: ∀p∈l,Q6 (Ws s' p)=true
 ext:Ext s s'
def Qpy (St:Int->Prop) (L:List Tk) (m:Md) (ps:List Int) (s:PS):Prop:=match m with
 | .chain lv=>lv<=5/\Wx St L s ps
 | .loop lv p=>lv<5/\Wx St L s (ps++[p])/\Q6 (Ws s p)=true
 | .more p=>Wx St L s (ps++[p])/\Q6 (Ws s p)=true
 | .call nm a=>Wx St L s ps/\Xa nm.data.toList=true/\St (a:Int)
 | .args acc=>Wx St L s (ps++acc)/\acc.length<=8/\ ∀p∈acc,Q6 (Ws s p)=true
 |_=>Wx St L s ps
def Qe6 (St:Int->Prop) (L:List Tk) (m:Md) (s:PS) (ps:List Int) (v:Out):Prop:=match v with
 | .error f=>St (f.2:Int)
 | .ok (l,s')=>Got St L m s ps l s'
theorem Qfy.post {m:Md} {x:Nd} {v:Out} {s0:PS} (h:Qfy St L s ps x v) (hx:Q6 x.kind=true) (hs:Ext s0 s):Qe6 St L m s0 ps v:=by
 cases v with
 |error f=>exact h
 |ok y=>
  obtain ⟨l,s'⟩:=y;have h:Qgd St L s ps x l s':=h;obtain ⟨p,rfl,hk⟩:=h.root;exact ⟨h.inv,by show 1<=8;omega,λ_=>⟨p,rfl⟩,λq hq=>by rw [List.mem_singleton.1 hq,hk];exact hx,hs.trans h.ext⟩
theorem Qe6.from {m m':Md} {v:Out} {s0:PS} (h:Qe6 St L m s ps v) (hs:Ext s0 s) (hm:(∀acc,m'≠ .args acc)-> ∀acc,m≠ .args acc):Qe6 St L m' s0 ps v:=by
 cases v with
 |error f=>exact h
 |ok y=>
  obtain ⟨l,s'⟩:=y;have h:Got St L m s ps l s':=h;exact ⟨h.inv,h.few,λg=>h.one (hm g),h.ex,hs.trans h.ext⟩
theorem Whj {K:Int} (hK:K=5\/K=8) {ks:List Int} (hl:ks.length=2) (h: ∀k∈ks,Q6 k=true):Y9 K ks=true:=by unfold Y9;rw [Qk (by omega),hl];unfold exprs;rw [hl,show ks.take 2=ks from F6 (by omega),List.all_eq_true.2 h];rfl
theorem Qux {K:Int} (hK:K=6\/K=7\/K=9\/K=10\/K=12\/K=13\/K=20\/K=21) {ks:List Int} (hl:ks.length=1) (h: ∀k∈ks,Q6 k=true):Y9 K ks=true:=by unfold Y9;rw [Qd (by omega),Qk (by omega),hl];unfold exprs;rw [hl,show ks.take 1=ks from F6 (by omega),List.all_eq_true.2 h];rfl
theorem Wfu {ks:List Int} (hl:ks.length<=8) (h: ∀k∈ks,Q6 k=true):Y9 11 ks=true:=by unfold Y9;rw [Qd (by omega),Qd (by omega),Qk rfl];unfold exprs;rw [List.take_length,List.all_eq_true.2 h,decide_eq_true hl,decide_eq_true (Qh _)];rfl
theorem Si {K n:Int} {a:Nat} {ks:List Int} (hK:K∈[(1:Int),2,3,5,6,7,8,9,10,15,16,18,19,20,21,22,23,26]) (hn:Ej K n=true):ownB (En K ks n ⟨#[]⟩ a)=true:=by
 have hnm:named K=false:=by simp only [Mt,Ef,or_false]at hK;rcases hK with rfl |rfl |rfl |rfl |rfl |rfl |rfl |rfl |rfl |rfl |rfl |rfl |rfl |rfl |rfl |rfl |rfl |rfl<;>decide
 have hb:1<=K/\K<=26:=by simp only [Mt,Ef,or_false]at hK;omega
 unfold ownB;show (decide (1<=K)&&decide (K<=26)&&decide (0<=(a:Int))&&(if named K=true then _ else _)&&Ej K n)=true;rw [decide_eq_true hb.1,decide_eq_true hb.2,decide_eq_true (Int.natCast_nonneg a),hnm,hn];rfl
theorem Qeh {K n:Int} {a:Nat} {ks:List Int} {nm:ByteArray} (hK:K∈[(4:Int),11,12,13,14,17,24,25]) (hm:Xa nm.data.toList=true) (hn:Ej K n=true):ownB (En K ks n nm a)=true:=by
 have hnm:named K=true:=decide_eq_true hK;have hb:1<=K/\K<=26:=by simp only [Mt,Ef,or_false]at hK;omega
 unfold ownB;show (decide (1<=K)&&decide (K<=26)&&decide (0<=(a:Int))&&(if named K=true then Xa nm.data.toList else _)&&Ej K n)=true;rw [decide_eq_true hb.1,decide_eq_true hb.2,decide_eq_true (Int.natCast_nonneg a),hnm,hn,hm];rfl
theorem Iu:(0:Int)<=0/\(0:Int)<=9223372036854775807:=by omega
theorem Cg (a:Nat) {K n:Int} {ks:List Int} {nm:ByteArray}:0<=(En K ks n nm (a:Int)).at_:=Int.natCast_nonneg a
theorem Wfx {K n:Int} {a:Nat} (ha:St (a:Int)) (hK:K=1\/K=2\/K=3) (hn:Ej K n=true) (hm:0<=n/\n<=9223372036854775807):Em St s (En K [] n ⟨#[]⟩ a):=
 ⟨Si (by rcases hK with rfl |rfl |rfl<;>decide) hn,by rcases hK with rfl |rfl |rfl<;>rfl,ha,hm⟩
theorem Q31 {K:Int} {a:Nat} {q:Int} (ha:St (a:Int)) (hK:K=6\/K=7\/K=9\/K=10) (hq:Q6 (Ws s q)=true):Em St s (En K [q] 0 ⟨#[]⟩ a):=
 ⟨Si (by rcases hK with rfl |rfl |rfl |rfl<;>decide) (by rcases hK with rfl |rfl |rfl |rfl<;>rfl),Qux (K:=K) (by omega) rfl (λk hk=>by rw [List.mem_singleton.1 hk];exact hq),ha,Iu⟩
theorem Qxi {K n:Int} {a:Nat} {p q:Int} (ha:St (a:Int)) (hK:K=5\/K=8) (hn:Ej K n=true) (hm:0<=n/\n<=9223372036854775807) (hp:Q6 (Ws s p)=true) (hq:Q6 (Ws s q)=true):Em St s (En K [p,q] n ⟨#[]⟩ a):=
 ⟨Si (by rcases hK with rfl |rfl<;>decide) hn,Whj hK rfl (λk hk=>by
  have hk':k∈[Ws s p,Ws s q]:=hk;simp only [Mt,Ef,or_false]at hk';rcases hk' with rfl |rfl
  ·exact hp
  ·exact hq),ha,hm⟩
theorem Wh9 {a:Nat} {nm:ByteArray} {l:List Int} (ha:St (a:Int)) (hn:Xa nm.data.toList=true) (hl:l.length<=8) (hq: ∀q∈l,Q6 (Ws s q)=true):Em St s (En 11 l 0 nm a):=
 ⟨Qeh (by decide) hn rfl,Wfu (by show (l.map (Ws s)).length<=8;rw [Zr];exact hl) (λk hk=>by have hk':k∈l.map (Ws s):=hk;obtain ⟨q,hq',rfl⟩:=List.mem_map.1 hk';exact hq q hq'),ha,Iu⟩
theorem Wcn {a:Nat} {nm:ByteArray} (ha:St (a:Int)) (hn:Xa nm.data.toList=true):Em St s (En 4 [] 0 nm a):=
 ⟨Qeh (by decide) hn rfl,rfl,ha,Iu⟩
theorem Wiv {lv:Nat} {t:Tk} {o:Nat} (h:opAt lv t=some o) (hlv:lv<5):0<=(o:Int)/\(o:Int)<=9223372036854775807:=by
 have:=Qpb _ _ h;have hr:Ag lv<=16/\Zx lv<=Ag lv:=by
  have:lv=0\/lv=1\/lv=2\/lv=3\/lv=4:=by omega
  rcases this with rfl |rfl |rfl |rfl |rfl<;>decide
 omega
theorem Wf3 {lv:Nat} (hlv:lv<5) {t:Tk} {o:Nat} (h:opAt lv t=some o):Ej 5 (o:Int)=true:=by
 have:=Qpb _ _ h;have hr:1<=Zx lv/\Ag lv<=16/\Zx lv<=Ag lv:=by
  have:lv=0\/lv=1\/lv=2\/lv=3\/lv=4:=by omega
  rcases this with rfl |rfl |rfl |rfl |rfl<;>decide
 unfold Ej;rw [Qd (by omega),Qd (by omega),Qk rfl,decide_eq_true (by omega),decide_eq_true (by omega)];rfl
theorem Wd7 {t:Tk} (h:sg t≠0):t.kind≠0:=λe=>h (by unfold sg sees;rw [e];rfl)
theorem Wmr {t:Tk} (h:sg t=8):t.kind=1:=by
 unfold sg at h
 repeat' split at h
 all_goals first |omega |assumption
theorem Q05 {K:Int} (h:1<=K) (g:K<=11):Q6 K=true:=by unfold Q6;rw [decide_eq_true h,decide_eq_true g];rfl
theorem Na (hL:I8 L) (hSt: ∀t∈L,St (t.place:Int)): ∀(n:Nat) (m:Md) (d:Nat) (s:PS) (v:Out),Qg n m d s=some v-> ∀ps,Qpy St L m ps s->Qe6 St L m s ps v
 | 0,_,_,_,_,h=>by cases h
 |n+1,.chain lv,d,s,v,h=>by
  intro ps hp;have ih:=Na hL hSt n;rw [Qg]at h;split at h
  ·exact (ih _ _ _ _ h ps hp.2).from (.refl s) (λ_ acc e=>by cases e)
  ·rcases go_ok h with ⟨e,h1,rfl⟩ |⟨p,s1,h1,h2⟩
   ·exact ih _ _ _ _ h1 ps ⟨by have:=hp.1;omega,hp.2⟩
   ·have a:Got St L _ s ps p s1:=ih _ _ _ _ h1 ps ⟨by have:=hp.1;omega,hp.2⟩;obtain ⟨x,rfl⟩:=a.one (λacc e=>by cases e);exact (ih _ _ _ _ h2 ps ⟨by have:=hp.1;omega,a.inv,a.ex x (List.mem_singleton.2 rfl)⟩).from a.ext (λ_ acc e=>by cases e)
 |n+1,.loop lv p,d,s,v,h=>by
  intro ps hp;obtain ⟨hlv,hI,hpx⟩:=hp;have ih:=Na hL hSt n;rw [Qg]at h;cases ho:opAt lv s.tok with
  |none=>rw [ho]at h;injection h with h;subst h;exact ⟨hI,by show 1<=8;omega,λ_=>⟨p,rfl⟩,λq hq=>by rw [List.mem_singleton.1 hq];exact hpx,.refl s⟩
  |some op=>
   rw [ho]at h;have hin:=hI.next hL (Q2s (Qx1 ho));rcases go_ok h with ⟨e,h1,rfl⟩ |⟨q,s1,h1,h2⟩
   ·exact ih _ _ _ _ h1 (ps++[p]) ⟨by omega,hin⟩
   ·have a:Got St L _ s.next (ps++[p]) q s1:=ih _ _ _ _ h1 (ps++[p]) ⟨by omega,hin⟩;obtain ⟨x,rfl⟩:=a.one (λacc e=>by cases e);have hi:Wx St L s1 (ps++[p,x]):=(by have:=a.inv;rw [Qy]at this;exact this);have hE:Ext s s1:=Ext.trans .of_next a.ext;have hp1:Q6 (Ws s1 p)=true:=(by rw [hE.I6 hI (by simp)];exact hpx);have hl:=Wx.lay hi (x:=En 5 [p,x] op ⟨#[]⟩ s.tok.place) rfl (Qxi (hSt _ hI.Jq) (.inl rfl) (Wf3 hlv ho) (Wiv ho hlv) hp1 (a.ex x (List.mem_singleton.2 rfl))) (Cg _);rcases go_ok h2 with ⟨e,h3,rfl⟩ |⟨k,s2,h3,h4⟩
    ·injection h3 with h3
     rw [show hd1 [x]=x from rfl]at h3;rw [h3]at hl;exact hl
    ·injection h3 with h3
     rw [show hd1 [x]=x from rfl]at h3;rw [h3]at hl;split at h4
     ·injection h4 with h4;subst h4;exact Qfy.post (v:=.ok (k,s2)) hl rfl hE
     ·have hl:Qgd St L s1 ps _ k s2:=hl;obtain ⟨y,rfl,hy⟩:=hl.root;exact (ih _ _ _ _ h4 ps ⟨hlv,hl.inv,by rw [show Ws s2 (hd1 [y])=Ws s2 y from rfl,hy];rfl⟩).from (hE.trans hl.ext) (λ_ acc e=>by cases e)
 |n+1,.front,d,s,v,h=>by
  intro ps hp;have hp:Wx St L s ps:=hp;have ih:=Na hL hSt n;rw [Qg]at h;split at h
  ·rename_i g;have hs:Wx St L s.next ps:=by
    rw [Bool.or_eq_true]at g;rcases g with g |g
    ·exact hp.Ml hL g
    ·exact hp.Ml hL g
   split at h
   ·injection h with h;subst h;exact hSt _ hp.Jq
   ·rcases go_ok h with ⟨e,h1,rfl⟩ |⟨q,s1,h1,h2⟩
    ·exact ih _ _ _ _ h1 ps hs
    ·have a:Got St L _ s.next ps q s1:=ih _ _ _ _ h1 ps hs;obtain ⟨x,rfl⟩:=a.one (λacc e=>by cases e);injection h2 with h2
     have hl:=Wx.lay a.inv (x:=En (if s.is minus then 6 else 7) [x] 0 ⟨#[]⟩ s.tok.place) rfl (Q31 (hSt _ hp.Jq) (by split<;>omega) (a.ex x (List.mem_singleton.2 rfl))) (Cg _);rw [show hd1 [x]=x from rfl]at h2;rw [h2]at hl;exact hl.post (by show Q6 (if s.is minus then 6 else 7)=true;split<;>rfl) (Ext.trans .of_next a.ext)
  ·exact (ih _ _ _ _ h ps hp).from (.refl s) (λ_ acc e=>by cases e)
 |n+1,.idx,d,s,v,h=>by
  intro ps hp;have ih:=Na hL hSt n;rw [Qg]at h;rcases go_ok h with ⟨e,h1,rfl⟩ |⟨p,s1,h1,h2⟩
  ·exact ih _ _ _ _ h1 ps hp
  ·have a:Got St L _ s ps p s1:=ih _ _ _ _ h1 ps hp;obtain ⟨x,rfl⟩:=a.one (λacc e=>by cases e);exact (ih _ _ _ _ h2 ps ⟨a.inv,a.ex x (List.mem_singleton.2 rfl)⟩).from a.ext (λ_ acc e=>by cases e)
 |n+1,.more p,d,s,v,h=>by
  intro ps hp;obtain ⟨hI,hpx⟩:=hp;have ih:=Na hL hSt n;rw [Qg]at h;split at h
  ·rename_i g;rcases go_ok h with ⟨e,h1,rfl⟩ |⟨q,s1,h1,h2⟩
   ·exact ih _ _ _ _ h1 (ps++[p]) hI
   ·have a:Got St L _ s (ps++[p]) q s1:=ih _ _ _ _ h1 (ps++[p]) hI;obtain ⟨x,rfl⟩:=a.one (λacc e=>by cases e);have hi:Wx St L s1 (ps++[p,x]):=(by have:=a.inv;rw [Qy]at this;exact this);have hp1:Q6 (Ws s1 p)=true:=(by rw [a.ext.I6 hI (by simp)];exact hpx);have hl:=Wx.lay hi (x:=En 8 [p,x] 0 ⟨#[]⟩ s.tok.place) rfl (Qxi (hSt _ hI.Jq) (.inr rfl) rfl Iu hp1 (a.ex x (List.mem_singleton.2 rfl))) (Cg _);rcases go_ok h2 with ⟨e,h3,rfl⟩ |⟨k,s2,h3,h4⟩
    ·injection h3 with h3
     rw [show hd1 [x]=x from rfl]at h3;rw [h3]at hl;exact hl
    ·injection h3 with h3
     rw [show hd1 [x]=x from rfl]at h3;rw [h3]at hl;have hl:Qgd St L s1 ps _ k s2:=hl;obtain ⟨y,rfl,hy⟩:=hl.root;exact (ih _ _ _ _ h4 ps ⟨hl.inv,by rw [show Ws s2 (hd1 [y])=Ws s2 y from rfl,hy];rfl⟩).from (a.ext.trans hl.ext) (λ_ acc e=>by cases e)
  ·injection h with h;subst h;exact ⟨hI,by show 1<=8;omega,λ_=>⟨p,rfl⟩,λq hq=>by rw [List.mem_singleton.1 hq];exact hpx,.refl s⟩
 |n+1,.inner a b,d,s,v,h=>by
  intro ps hp;have hp:Wx St L s ps:=hp;have ih:=Na hL hSt n;rw [Qg]at h;split at h
  ·rename_i g;have hs:=hp.Ml hL g;split at h
   ·injection h with h;subst h;exact hSt _ hp.Jq
   ·rcases go_ok h with ⟨e,h1,rfl⟩ |⟨q,s1,h1,h2⟩
    ·exact ih _ _ _ _ h1 ps ⟨by omega,hs⟩
    ·have a:Got St L _ s.next ps q s1:=ih _ _ _ _ h1 ps ⟨by omega,hs⟩;split at h2
     ·rename_i g2;injection h2 with h2
      subst h2;exact ⟨a.inv.Ml hL g2,a.few,λ_=>a.one (λacc e=>by cases e),a.ex,(Ext.trans .of_next a.ext).Hr⟩
     ·injection h2 with h2;subst h2;exact hSt _ a.inv.Jq
  ·injection h with h;subst h;exact hSt _ hp.Jq
 |n+1,.call nm at_,d,s,v,h=>by
  intro ps hp;obtain ⟨hp,hnm,hat⟩:=hp;have ih:=Na hL hSt n;rw [Qg]at h;split at h
  ·rename_i g;have hs:=hp.Ml hL g;split at h
   ·injection h with h;subst h;exact hSt _ hp.Jq
   ·rcases go_ok h with ⟨e,h1,rfl⟩ |⟨q,s1,h1,h2⟩
    ·split at h1
     ·cases h1
     ·exact ih _ _ _ _ h1 ps ⟨Uu hs,by show 0<=8;omega,λp hp=>by cases hp⟩
    ·have a':Wx St L s1 (ps++q)/\q.length<=8/\(∀p∈q,Q6 (Ws s1 p)=true)/\Ext s s1:=by
      split at h1
      ·injection h1 with h1;injection h1 with h1;injection h1 with h3 h4;subst h3 h4;exact ⟨Uu hs,by show 0<=8;omega,(λp hp=>by cases hp),.of_next⟩
      ·have a:Got St L _ s.next ps q s1:=ih _ _ _ _ h1 ps ⟨Uu hs,by show 0<=8;omega,λp hp=>by cases hp⟩;exact ⟨a.inv,a.few,a.ex,Ext.trans .of_next a.ext⟩
     split at h2
     ·rename_i g2;injection h2 with h2
      have hl:=Wx.lay (a'.1.Ml hL g2) (x:=En 11 q 0 nm at_) rfl (Wh9 hat hnm a'.2.1 a'.2.2.1) (Cg _);rw [h2]at hl;exact hl.post rfl a'.2.2.2.Hr
     ·injection h2 with h2;subst h2;exact hSt _ a'.1.Jq
  ·injection h with h;subst h;exact hSt _ hp.Jq
 |n+1,.args acc,d,s,v,h=>by
  intro ps hp;obtain ⟨hp,hac,hax⟩:=hp;have ih:=Na hL hSt n;rw [Qg]at h;split at h
  ·injection h with h;subst h;exact hSt _ hp.Jq
  ·rename_i h8;rcases go_ok h with ⟨e,h1,rfl⟩ |⟨p,s1,h1,h2⟩
   ·exact ih _ _ _ _ h1 (ps++acc) ⟨by omega,hp⟩
   ·have a:Got St L _ s (ps++acc) p s1:=ih _ _ _ _ h1 (ps++acc) ⟨by omega,hp⟩;obtain ⟨x,rfl⟩:=a.one (λacc e=>by cases e);have hi:Wx St L s1 (ps++(acc++[x])):=(by have:=a.inv;rw [Qy]at this;exact this);have hlen:(acc++[x]).length<=8:=(by rw [Qf];show acc.length+1<=8;omega);have hall: ∀p∈acc++[x],Q6 (Ws s1 p)=true:=by
     intro p hpm;rcases List.mem_append.1 hpm with hm |hm
     ·rw [a.ext.I6 hp (List.mem_append_right _ hm)];exact hax p hm
     ·exact a.ex p hm
    split at h2
    ·rename_i g2;exact (ih _ _ _ _ h2 ps ⟨hi.Ml hL g2,hlen,hall⟩).from a.ext.Hr (λhh=>absurd rfl (hh acc))
    ·injection h2 with h2;subst h2
     exact ⟨hi,hlen,λhh=>absurd rfl (hh acc),hall,a.ext⟩
 |n+1,.single,d,s,v,h=>by
  intro ps hp;have hp:Wx St L s ps:=hp;have ih:=Na hL hSt n;rw [Eh]at h;have hnx:sg s.tok≠0->Wx St L s.next ps:=λh0=>hp.next hL (Wd7 h0);have leaf:sg s.tok≠0-> ∀K N,(K=1\/K=2\/K=3)->Ej K N=true->(0<=N/\N<=9223372036854775807)->some (lay (En K [] N ⟨#[]⟩ s.tok.place) s.next)=some v->Qe6 St L .single s ps v:=by
   intro h0 K N hK hN hM hx;injection hx with hx
   subst hx;exact (Wx.lay (Uu (hnx h0)) rfl (Wfx (hSt _ hp.Jq) hK hN hM) (Cg _)).post (Q05 (by show 1<=K;omega) (by show K<=11;omega)) .of_next
  have Qh9:sg s.tok≠0-> ∀K,(K=6\/K=7\/K=9\/K=10)->(Out.go (Qg n (.inner lp rp) d s.next) λq s1=>some (lay (En K [hd1 q] 0 ⟨#[]⟩ s.tok.place) s1))=some v->Qe6 St L .single s ps v:=by
   intro h0 K hK hx;rcases go_ok hx with ⟨e,h1,rfl⟩ |⟨q,s1,h1,h2⟩
   ·exact ih _ _ _ _ h1 ps (hnx h0)
   ·have a:Got St L _ s.next ps q s1:=ih _ _ _ _ h1 ps (hnx h0);obtain ⟨x,rfl⟩:=a.one (λacc e=>by cases e);injection h2 with h2
    subst h2;exact (Wx.lay a.inv rfl (Q31 (hSt _ hp.Jq) hK (a.ex x (List.mem_singleton.2 rfl))) (Cg _)).post (Q05 (by show 1<=K;omega) (by show K<=11;omega)) (Ext.trans .of_next a.ext)
  split at h
  ·exact (ih _ _ _ _ h ps hp).from (.refl s) (λ_ acc e=>by cases e)
  ·rename_i hg;exact leaf (by rw [hg];decide) _ _ (by omega) rfl (by omega) h
  ·rename_i hg;exact leaf (by rw [hg];decide) _ _ (by omega) rfl (by omega) h
  ·rename_i hg;exact leaf (by rw [hg];decide) _ _ (by omega) rfl (by omega) h
  ·rename_i hg;exact Qh9 (by rw [hg];decide) _ (by omega) h
  ·rename_i hg;exact Qh9 (by rw [hg];decide) _ (by omega) h
  ·rename_i hg;exact leaf (by rw [hg];decide) _ _ (by omega) (by unfold Ej;rw [Qk rfl];exact decide_eq_true (Int.natCast_nonneg _)) (by have:=hL.num _ hp.Jq;omega) h
  ·rename_i hg;have h0:sg s.tok≠0:=(by rw [hg];decide);have hnm:=hL.name _ hp.Jq (Wmr hg);split at h
   ·exact (ih _ _ _ _ h ps ⟨hnx h0,hnm,hSt _ hp.Jq⟩).from .of_next (λ_ acc e=>by cases e)
   ·injection h with h
    subst h;exact (Wx.lay (Uu (hnx h0)) rfl (Wcn (hSt _ hp.Jq) hnm) (Cg _)).post rfl .of_next
  ·injection h with h;subst h;exact hSt _ hp.Jq
theorem Wie {St:Int->Prop} {L:List Tk} (h0:0<L.length):Wx St L ⟨L,[],[]⟩ []:=
 ⟨⟨0,h0,rfl⟩,List.Perm.refl _,(λi hi=>by simp at hi),rfl,(λi hi=>by simp at hi),(λi hi=>by simp at hi),(λi hi=>by simp at hi),(λx hx=>by simp at hx),(λx hx=>by simp at hx)⟩
theorem Wx.right {p:Int} (hv:Wx St L s [p]):Rt s.l/\p=(s.l.length:Int)-1:=by
 have hpm:=hv.mem (List.mem_singleton.2 rfl);have hlen:0<s.l.length:=by omega
 have hperm:=hv.fo;have hnd:(Fb s.l++[p]).Nodup:=hperm.nodup_iff.2 (by unfold rng List.Nodup;rw [List.pairwise_map];exact (List.nodup_range (n:=s.l.length)).imp (λh e=>h (Int.ofNat.inj e)));have hcount:(Fb s.l++[p]).length=s.l.length:=by rw [hperm.length_eq];unfold rng;simp
 refine ⟨⟨⟨hlen,hv.ahead,?_,?_⟩,λi hi=>hv.fit i hi,hv.low _ (by omega)⟩,?_⟩
 ·rw [Q8g];exact (List.nodup_append.1 hnd).1
 ·rw [Q8g];rw [Qf]at hcount;have:(Fb s.l).length+1=s.l.length:=hcount;omega
 ·
  have hmem:((s.l.length:Int)-1)∈Fb s.l++[p]:=hperm.symm.subset (Q7b.2 ⟨by omega,by omega⟩);rcases List.mem_append.1 hmem with hm |hm
  ·exfalso;unfold Fb at hm;obtain ⟨x,hx,hk⟩:=List.mem_flatMap.1 hm;obtain ⟨i,hi,e⟩:=List.getElem_of_mem hx;have en:nd s.l i=x:=(by unfold nd;rw [Yc,Y3 hi,e];rfl);have:=hv.ahead i hi ((s.l.length:Int)-1) (by rw [en];exact hk);omega
  ·exact (List.mem_singleton.1 hm).symm
theorem Wao {l:List Nd} {ps:List Int} (h:(Fb l++ps).Perm (rng l.length)): ∀x∈l,x.kids.length<=l.length:=by
 intro x hx;have h1:(Fb l++ps).length=l.length:=by rw [h.length_eq];unfold rng;simp
 have h2:x.kids.length<=(Fb l).length:=by unfold Fb;obtain ⟨a,b,rfl⟩:=List.append_of_mem hx;rw [List.flatMap_append,List.flatMap_cons,Qf,Qf];omega
 rw [Qf]at h1;omega
end
def lc:List UInt8:=[123]
def rc:List UInt8:=[125]
def semi:List UInt8:=[59]
def eqs:List UInt8:=[61]
def Ki:List UInt8:=[102,110]
def Jj:List UInt8:=[118,97,114]
def Ae:List UInt8:=[105,102]
def X7:List UInt8:=[101,108,115,101]
def Ck:List UInt8:=[119,104,105,108,101]
def Kc:List UInt8:=[102,111,114]
def Ju:List UInt8:=[98,114,101,97,107]
def Jy:List UInt8:=[99,111,110,116,105,110,117,101]
def Ap:List UInt8:=[114,101,116,117,114,110]
def Bp:List UInt8:=[112,114,105,110,116]
def Qb7:List UInt8:=[105,110,116]
def Qdz:List UInt8:=[98,111,111,108]
def Qfe:List UInt8:=[97,114,114]
def Qm (b:List UInt8) (s:PS) (f:PS->Option Out):Option Out:=if s.is b then f s.next else some (.error (8,s.tok.place))
def Xf (s:PS) (f:ByteArray->Nat->PS->Option Out):Option Out:=if s.tok.kind=1 then f ⟨s.tok.text.toArray⟩ s.tok.place s.next else some (.error (8,s.tok.place))
def Yt (t:Tk):Nat:=if sees t Qb7 then 1 else if sees t Qdz then 2 else if sees t Qfe then 3 else 0
def V3 (s:PS) (f:Nat->PS->Option Out):Option Out:=if Yt s.tok=0 then some (.error (8,s.tok.place))else f (Yt s.tok) s.next
def Wy (n d:Nat) (s:PS) (f:Int->PS->Option Out):Option Out:=Out.go (Qg n (.chain 0) d s) λp s1=>f (hd1 p) s1
def Xc (t:Tk):Nat:=
 if sees t Jj then 1 else if sees t Kc then 2 else if sees t Ju then 3 else if sees t Jy then 4 else if sees t Ap then 5 else if sees t Bp then 6 else if sees t Ck then 7 else if sees t Ae then 8 else 0
inductive Pm where
 |block
 |stmts (acc:List Int) (at_:Nat)
 |stmt
 |params (acc:List Int)
 |func
 |prog (acc:List Int)
def Qac:Nat->Pm->Nat->PS->Option Out
 | 0,_,_,_=>none
 |n+1,.block,d,s=>Qm lc s λs1=>if 200<=d then some (.error (4,s.tok.place))else Qac n (.stmts [] s.tok.place) (d+1) s1
 |n+1,.stmts acc at_,d,s=>if s.is rc then some (lay (En 23 acc 0 ⟨#[]⟩ at_) s.next)else Out.go (Qac n .stmt d s) λk s1=>Qac n (.stmts (acc++[hd1 k]) at_) d s1
 |n+1,.stmt,d,s=>match Xc s.tok with
  | 1=>Xf s.next λnm at_ s1=>Qm eqs s1 λs2=>Wy n d s2 λa s3=>Qm semi s3 λs4=>some (lay (En 12 [a] 0 nm at_) s4)
  | 2=>Xf s.next λnm at_ s1=>Qm eqs s1 λs2=>Wy n d s2 λa s3=>Qm comma s3 λs4=>Wy n d s4 λb s5=>Out.go (Qac n .block d s5) λc s6=>some (lay (En 17 [a,b,hd1 c] 0 nm at_) s6)
  | 3=>Qm semi s.next λs1=>some (lay (En 18 [] 0 ⟨#[]⟩ s.tok.place) s1)
  | 4=>Qm semi s.next λs1=>some (lay (En 19 [] 0 ⟨#[]⟩ s.tok.place) s1)
  | 5=>Wy n d s.next λa s1=>Qm semi s1 λs2=>some (lay (En 20 [a] 0 ⟨#[]⟩ s.tok.place) s2)
  | 6=>Wy n d s.next λa s1=>Qm semi s1 λs2=>some (lay (En 21 [a] 0 ⟨#[]⟩ s.tok.place) s2)
  | 7=>Wy n d s.next λa s1=>Out.go (Qac n .block d s1) λb s2=>some (lay (En 16 [a,hd1 b] 0 ⟨#[]⟩ s.tok.place) s2)
  | 8=>Wy n d s.next λa s1=>Out.go (Qac n .block d s1) λb s2=>
   if s2.is X7 then Out.go (Qac n .block d s2.next) λc s3=>some (lay (En 15 [a,hd1 b,hd1 c] 0 ⟨#[]⟩ s.tok.place) s3)
   else some (lay (En 15 [a,hd1 b] 0 ⟨#[]⟩ s.tok.place) s2)
  |_=>Xf s λnm at_ s1=>
   if s1.is lp then Out.go (Qg n (.call nm at_) d s1) λk s2=>Qm semi s2 λs3=>some (lay (En 22 [hd1 k] 0 ⟨#[]⟩ at_) s3)
   else if s1.is lb then Out.go (Qg n (.inner lb rb) d s1) λa s2=>Qm eqs s2 λs3=>Wy n d s3 λb s4=>Qm semi s4 λs5=>some (lay (En 14 [hd1 a,b] 0 nm s1.tok.place) s5)
   else Qm eqs s1 λs2=>Wy n d s2 λa s3=>Qm semi s3 λs4=>some (lay (En 13 [a] 0 nm at_) s4)
 |n+1,.params acc,d,s=>Xf s λnm at_ s1=>
  if 8<=acc.length then some (.error (3,at_))
  else V3 s1 λk s2=>Out.go (some (lay (En 24 [] k nm at_) s2)) λq s3=>if s3.is comma then Qac n (.params (acc++[hd1 q])) d s3.next else Qm rp s3 λs4=>some (.ok (acc++[hd1 q],s4))
 |n+1,.func,d,s=>Xf s λnm at_ s1=>Qm lp s1 λs2=>Out.go (if s2.is rp then some (.ok ([],s2.next))else Qac n (.params []) d s2) λps s3=>V3 s3 λk s4=>
  Out.go (Qac n .block d s4) λb s5=>some (lay (En 25 (ps++[hd1 b]) k nm at_) s5)
 |n+1,.prog acc,d,s=>
  if s.tok.kind=0 then some (lay (En 26 acc 0 ⟨#[]⟩ 0) s)
  else Qm Ki s λs1=>if 200<=acc.length then some (.error (3,s.tok.place))else Out.go (Qac n .func d s1) λq s2=>Qac n (.prog (acc++[hd1 q])) d s2
theorem Qbf {b:List UInt8} {s:PS} {f f':PS->Option Out} {v:Out} (h:Qm b s f=some v) (hf: ∀u w,f u=some w->f' u=some w):Qm b s f'=some v:=by
 unfold Qm at h ⊢;split at h
 ·rename_i g;rw [Qk g];exact hf _ _ h
 ·rename_i g;rw [Qd g];exact h
theorem Qkc {s:PS} {f f':ByteArray->Nat->PS->Option Out} {v:Out} (h:Xf s f=some v) (hf: ∀a b u w,f a b u=some w->f' a b u=some w):Xf s f'=some v:=by
 unfold Xf at h ⊢;split at h
 ·rename_i g;rw [Qk g];exact hf _ _ _ _ h
 ·rename_i g;rw [Qd g];exact h
theorem Q2i {s:PS} {f f':Nat->PS->Option Out} {v:Out} (h:V3 s f=some v) (hf: ∀a u w,f a u=some w->f' a u=some w):V3 s f'=some v:=by
 unfold V3 at h ⊢;split at h
 ·rename_i g;rw [Qk g];exact h
 ·rename_i g;rw [Qd g];exact hf _ _ _ h
theorem Qay {n m d:Nat} {s:PS} {f f':Int->PS->Option Out} {v:Out} (hm:n<=m) (h:Wy n d s f=some v) (hf: ∀a u w,f a u=some w->f' a u=some w):Wy m d s f'=some v:=
 Aw h (λu hu=>Hy hu hm) (λp s u=>hf _ _ _)
theorem Sv: ∀(n:Nat) (m:Pm) (d:Nat) (s:PS) (v:Out),Qac n m d s=some v->Qac (n+1) m d s=some v
 | 0,_,_,_,_,h=>by cases h
 |n+1,.block,d,s,v,h=>by
  rw [Qac]at h ⊢;refine Qbf h λu w hu=> ?_;split at hu
  ·rename_i g;rw [Qk g];exact hu
  ·rename_i g;rw [Qd g];exact Sv n _ _ _ _ hu
 |n+1,.stmts acc at_,d,s,v,h=>by
  rw [Qac]at h ⊢;split at h
  ·rename_i g;rw [Qk g];exact h
  ·rename_i g;rw [Qd g];exact Aw h (λu=>Sv n _ _ _ u) (λp s u=>Sv n _ _ _ u)
 |n+1,.stmt,d,s,v,h=>by
  have ih:=Sv n;have le:n<=n+1:=Nat.le_succ n;rw [Qac]at h ⊢;split at h
  ·exact Qkc h λa b u w hu=>Qbf hu λu w hu=>Qay le hu λa u w hu=>Qbf hu λu w hu=>hu
  ·exact Qkc h λa b u w hu=>Qbf hu λu w hu=>Qay le hu λa u w hu=>Qbf hu λu w hu=>Qay le hu λa u w hu=>Aw hu (λx=>ih _ _ _ x) (λ_ _ _ e=>e)
  ·exact h
  ·exact h
  ·exact Qay le h λa u w hu=>hu
  ·exact Qay le h λa u w hu=>hu
  ·exact Qay le h λa u w hu=>Aw hu (λx=>ih _ _ _ x) (λ_ _ _ e=>e)
  ·refine Qay le h λa u w hu=>Aw hu (λx=>ih _ _ _ x) (λp s u hu=> ?_);split at hu
   ·rename_i g;rw [Qk g];exact Aw hu (λx=>ih _ _ _ x) (λ_ _ _ e=>e)
   ·rename_i g;rw [Qd g];exact hu
  ·refine Qkc h λa b u w hu=> ?_;split at hu
   ·rename_i g;rw [Qk g];exact Aw hu (λx hx=>Hy hx le) (λ_ _ _ e=>e)
   ·rename_i g;rw [Qd g];split at hu
    ·rename_i g2;rw [Qk g2];exact Aw hu (λx hx=>Hy hx le) (λp s u hu=>Qbf hu λu w hu=>Qay le hu λa u w hu=>hu)
    ·rename_i g2;rw [Qd g2];exact Qbf hu λu w hu=>Qay le hu λa u w hu=>hu
 |n+1,.params acc,d,s,v,h=>by
  rw [Qac]at h ⊢;refine Qkc h λa b u w hu=> ?_;split at hu
  ·rename_i g;rw [Qk g];exact hu
  ·rename_i g;rw [Qd g];refine Q2i hu λa u w hu=>Aw hu (λ_ e=>e) (λp s u hu=> ?_);split at hu
   ·rename_i g2;rw [Qk g2];exact Sv n _ _ _ _ hu
   ·rename_i g2;rw [Qd g2];exact hu
 |n+1,.func,d,s,v,h=>by
  rw [Qac]at h ⊢;refine Qkc h λa b u w hu=>Qbf hu λu w hu=>Aw hu (λx hx=> ?_) (λp s u hu=>Q2i hu λa u w hu=>Aw hu (λx=>Sv n _ _ _ x) (λ_ _ _ e=>e));split at hx
  ·rename_i g;rw [Qk g];exact hx
  ·rename_i g;rw [Qd g];exact Sv n _ _ _ _ hx
 |n+1,.prog acc,d,s,v,h=>by
  rw [Qac]at h ⊢;split at h
  ·rename_i g;rw [Qk g];exact h
  ·rename_i g;rw [Qd g];refine Qbf h λu w hu=> ?_;split at hu
   ·rename_i g2;rw [Qk g2];exact hu
   ·rename_i g2;rw [Qd g2];exact Aw hu (λx=>Sv n _ _ _ x) (λp s u=>Sv n _ _ _ u)
theorem Qqj {n m:Nat} {k:Pm} {d:Nat} {s:PS} {v:Out} (h:Qac n k d s=some v) (hm:n<=m):Qac m k d s=some v:=by
 induction hm with
 |refl=>exact h
 |step _ ih=>exact Sv _ _ _ _ _ ih
def Qs (k:Pm) (d:Nat) (s:PS) (v:Out):Prop:= ∃n,Qac n k d s=some v
theorem Qs.one {k:Pm} {d:Nat} {s:PS} {v u:Out} (h:Qs k d s v) (g:Qs k d s u):v=u:=by obtain ⟨n,hn⟩:=h;obtain ⟨m,hm⟩:=g;have h1:=Qqj hn (Nat.le_max_left n m);have h2:=Qqj hm (Nat.le_max_right n m);rw [h1]at h2;exact Option.some.inj h2
def Q4j (v:Out):Except Qq (List Nd):=match v with
 | .error f=>.error f
 | .ok (_,s)=>.ok s.l
end Go.Proofs.YtdncpkkhkbijfaaGreatDoor
