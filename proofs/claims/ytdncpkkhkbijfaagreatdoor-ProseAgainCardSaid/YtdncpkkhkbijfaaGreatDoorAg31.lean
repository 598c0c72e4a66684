/- ProseAgain holds for every input: what was read of a text, put down and read again is the same, node by node, but for where it stands. The card is tied: the tables of the packages prose (heads, strengths), tree (rows, limits, makings, signs, kindWords, keyWords), lex (keyWords), expr (signs, strengths, fronts), parse (kindWords) and the library's tables (strconv's uint64pow10, math/bits' deBruijn32tab and deBruijn64tab) hold what the program's text lays. -/
import Derived.Test.YtdncpkkhkbijfaaGreatDoorAg23
import Derived.Test.YtdncpkkhkbijfaaGreatDoorAg30
import Derived.LaidMore
import Derived.ShutString
import Derived.ChangeOld
import Derived.Stop.Joined
import Derived.Test.YtdncpkkhkbijfaaGreatDoorCards
import Derived.Test.YtdncpkkhkbijfaaGreatDoorTie
import Derived.Carry
import Derived.ChangeMaps5
open Go.Proofs.Tryz
set_option linter.all false
set_option maxHeartbeats 0
set_option maxRecDepth 100000
namespace Go.Proofs.YtdncpkkhkbijfaaGreatDoor
def PL (s:PS):List Nd:=s.l.map Zf
theorem Wc1 (s:PS):(PL s).length=s.l.length:=Zr _
def Dh (e:Ex) (k:Nat):Nat:=if e.st<=k then e.need+1 else e.need
theorem Qv1 (e:Ex) (k:Nat):e.need<=Dh e k:=by unfold Dh;split<;>omega
theorem Wjx (e:Ex) (k:Nat):Dh e k<=e.need+1:=by unfold Dh;split<;>omega
theorem Qq8 (e:Ex) {k j:Nat} (h:k<=j):Dh e k<=Dh e j:=by unfold Dh;split<;>split<;>omega
theorem Qkh {e:Ex} {k:Nat} (h:k<e.st):Dh e k=e.need:=by unfold Dh;rw [Qd (by omega)]
structure J9 (b0:List Nd) (e:Ex) (k:Int) (s:PS):Prop where
 l:PL s=b0++(e.out b0.length).map Zf
 k:k=((b0.length+e.size-1:Nat):Int)
structure Qh8 (b0:List Nd) (xs:List Ex) (ks:List Int) (s:PS):Prop where
 l:PL s=b0++(outs xs b0.length).map Zf
 k:ks=roots xs b0.length
theorem Qhs {x:Nd} {s s':PS} {ks:List Int} (h:lay x s= .ok (ks,s')):PL s'=PL s++[Zf x]/\ks=[((PL s).length:Int)]:=by
 unfold lay at h;split at h
 ·cases h
 ·injection h with h
  injection h with h1 h2
  subst h2;refine ⟨?_,by rw [<-h1,Wc1]⟩;show (s.l++[x]).map Zf=_;rw [Zp];rfl
theorem Av {o:Option Out} {f:List Int->PS->Option Out} {r:List Int×PS} (h:Out.go o f=some (.ok r)): ∃p s1,o=some (.ok (p,s1))/\f p s1=some (.ok r):=by
 unfold Out.go at h;split at h
 ·cases h
 ·cases h
 ·rename_i p s1;exact ⟨p,s1,rfl,h⟩
theorem Dz {x:Out} {r:List Int×PS} (h:some x=some (Except.ok r)):x= .ok r:=Option.some.inj h
theorem Qi5 {x:Nd} {s s1 s':PS} {ks:List Int} {e:Ex} (h:lay x s1= .ok (ks,s')) (hs:PL s1=PL s) (ho:(e.out (PL s).length).map Zf=[Zf x]) (hz:e.size=1):J9 (PL s) e (hd1 ks) s':=by obtain ⟨h1,h2⟩:=Qhs h;rw [hs]at h1 h2;refine ⟨by rw [ho,h1],?_⟩;rw [h2,hz];rfl
theorem Qoe {x:Nd} {s0:List Nd} {a e:Ex} {q:Int} {s1 s':PS} {ks:List Int} (ha:J9 s0 a q s1) (h:lay x s1= .ok (ks,s')) (ho:(e.out s0.length).map Zf=(a.out s0.length).map Zf++[Zf x]) (hz:e.size=a.size+1):J9 s0 e (hd1 ks) s':=by obtain ⟨h1,h2⟩:=Qhs h;refine ⟨by rw [ho,h1,ha.l,Qy],?_⟩;rw [h2,ha.l,Qf,Zr,Kh,hz];show ((_:Nat):Int)=_;congr 1
theorem Qv8 {x:Nd} {b0:List Nd} {a c e:Ex} {p q:Int} {s s1 s':PS} {ks:List Int} (ha:J9 b0 a p s) (hc:J9 (PL s) c q s1) (h:lay x s1= .ok (ks,s')) (ho:(e.out b0.length).map Zf=(a.out b0.length).map Zf++((c.out (b0.length+a.size)).map Zf++[Zf x])) (hz:e.size=a.size+c.size+1):J9 b0 e (hd1 ks) s':=by
 obtain ⟨h1,h2⟩:=Qhs h;have hl:(PL s).length=b0.length+a.size:=by rw [ha.l,Qf,Zr,Kh]
 have hP1:PL s1=b0++((a.out b0.length).map Zf++(c.out (b0.length+a.size)).map Zf):=by rw [hc.l,hl,ha.l,Qy]
 refine ⟨by rw [ho,h1,hP1,Qy,Qy],?_⟩;rw [h2,hP1,Qf,Qf,Zr,Zr,Kh,Kh,hz];show ((_:Nat):Int)=_;congr 1
theorem Q0m {b0:List Nd} {a c:Ex} {p q:Int} {s s1:PS} (ha:J9 b0 a p s) (hc:J9 (PL s) c q s1):q=((b0.length+a.size+c.size-1:Nat):Int):=by rw [hc.k,ha.l,Qf,Zr,Kh]
theorem Q1d {t:Tk}: ∀(n a op:Nat),Lr t a n=some op->a<=op/\op<a+n
 | 0,a,op,h=>by cases h
 |n+1,a,op,h=>by
  unfold Lr at h;split at h
  ·injection h with h
   omega
  ·have:=Q1d n (a+1) op h;omega
def lft (lv:Nat):Nat:=if lv=2 then 3 else lv
theorem Wb6 {lv:Nat} (hl:lv<5) {t:Tk} {op:Nat} (h:opAt lv t=some op):stOp op=lv+1/\Ld op=lft lv:=by
 have h1:=Q1d _ _ _ h;have h17:op<17:=by
  have: ∀lv,lv<5->Zx lv+(Ag lv+1-Zx lv)<=17:=by decide
  have:=this lv hl;omega
 exact (by decide: ∀lv,lv<5-> ∀op,op<17->Zx lv<=op/\op<Zx lv+(Ag lv+1-Zx lv)->stOp op=lv+1/\Ld op=lft lv) lv hl op h17 h1
def We7 (m:Md):Prop:=match m with
 | .chain lv=>lv<=5
 | .loop lv _=>lv<5
 |_=>True
def Wgp (m:Md) (d:Nat) (s:PS) (ks:List Int) (s':PS):Prop:=match m with
 | .chain lv=> ∃e,J9 (PL s) e (hd1 ks) s'/\d+Dh e lv<=200
 | .loop lv p=> ∀b0 e0,J9 b0 e0 p s->d+Dh e0 (lft lv)<=200-> ∃e,J9 b0 e (hd1 ks) s'/\d+Dh e lv<=200
 | .front=> ∃e,J9 (PL s) e (hd1 ks) s'/\d+Dh e 5<=200
 | .idx=> ∃e,J9 (PL s) e (hd1 ks) s'/\d+Dh e 6<=200
 | .single=> ∃e,J9 (PL s) e (hd1 ks) s'/\d+Dh e 6<=200
 | .more p=> ∀b0 e0,J9 b0 e0 p s->d+Dh e0 6<=200-> ∃e,J9 b0 e (hd1 ks) s'/\d+Dh e 6<=200
 | .inner _ _=> ∃e,J9 (PL s) e (hd1 ks) s'/\d+1+e.need<=200
 | .call nm _=> ∃xs,J9 (PL s) (.call nm.data.toList xs) (hd1 ks) s'/\d+(needs xs+1)<=200
 | .args acc=> ∀b0 xs0,Qh8 b0 xs0 acc s->d+needs xs0<=200-> ∃xs,Qh8 b0 xs ks s'/\d+needs xs<=200
theorem Qop {e:Ex} (h:e.st=7):Dh e 6=e.need:=Qkh (by omega)
theorem Qz9: ∀(xs:List Ex) (a:Ex) (b:Nat),outs (xs++[a]) b=outs xs b++a.out (b+sizes xs)
 | [],a,b=>by rw [Xk,outs,outs,outs,sizes,Xe,Xk,Nat.add_zero]
 |x::xs,a,b=>by rw [V6,outs,outs,Qz9 xs a,sizes,Qy,La]
theorem Qy3: ∀(xs:List Ex) (a:Ex) (b:Nat),roots (xs++[a]) b=roots xs b++[((b+sizes xs+a.size-1:Nat):Int)]
 | [],a,b=>by rw [Xk,roots,roots,roots,sizes,Nat.add_zero];rfl
 |x::xs,a,b=>by rw [V6,roots,roots,Qy3 xs a,sizes,La,La,La];simp only [V6,La]
theorem Q2q: ∀(xs:List Ex) (a:Ex),needs (xs++[a])=max (needs xs) a.need
 | [],a=>by simp only [Xk,needs];omega
 |x::xs,a=>by rw [V6,needs,Q2q xs a,needs];omega
theorem Wrf {b0:List Nd} {xs:List Ex} {acc:List Int} {s s1:PS} {a:Ex} {q:Int} (h:Qh8 b0 xs acc s) (ha:J9 (PL s) a q s1):Qh8 b0 (xs++[a]) (acc++[q]) s1:=by
 have hl:(PL s).length=b0.length+sizes xs:=by rw [h.l,Qf,Zr,Qgl]
 refine ⟨?_,?_⟩
 ·rw [ha.l,hl,h.l,Qz9,Zp,Qy]
 ·rw [ha.k,hl,h.k,Qy3]
theorem Oa: ∀(n:Nat) (m:Md) (d:Nat) (s:PS) (ks:List Int) (s':PS),Qg n m d s=some (.ok (ks,s'))->d<=200->We7 m->Wgp m d s ks s'
 | 0,_,_,_,_,_,h,_,_=>by cases h
 |n+1,.chain lv,d,s,ks,s',h,hd,hm=>by
  have ih:=Oa n;have hm:lv<=5:=hm;rw [Qg]at h;split at h
  ·rename_i g;subst g;exact ih .front d s ks s' h hd trivial
  ·rename_i g;obtain ⟨p,s1,h1,h2⟩:=Av h;obtain ⟨e0,he,hn⟩:=ih (.chain (lv+1)) d s p s1 h1 hd (show lv+1<=5 by omega);have hlf:lft lv<=lv+1:=(by unfold lft;split<;>omega);have:=Qq8 e0 hlf;exact ih (.loop lv (hd1 p)) d s1 ks s' h2 hd (show lv<5 by omega) _ _ he (by omega)
 |n+1,.loop lv p,d,s,ks,s',h,hd,hm=>λb0 e0 hC hn=>by
  have ih:=Oa n;have hm:lv<5:=hm;rw [Qg]at h;cases ho:opAt lv s.tok with
  |none=>
   rw [ho]at h;have h:=Dz h;injection h with h
   injection h with h1 h2
   subst h1 h2;have hlf:lv<=lft lv:=(by unfold lft;split<;>omega);have:=Qq8 e0 hlf;exact ⟨e0,hC,by omega⟩
  |some op=>
   rw [ho]at h;obtain ⟨hst,hlf⟩:=Wb6 hm ho;obtain ⟨q,s1,h1,h2⟩:=Av h;obtain ⟨k,s2,h3,h4⟩:=Av h2;obtain ⟨c,hc,hcn⟩:=ih (.chain (lv+1)) d s.next q s1 h1 hd (show lv+1<=5 by omega);have hc:J9 (PL s) c (hd1 q) s1:=hc;have hE:J9 b0 (.bin op e0 c) (hd1 k) s2:=by refine Qv8 hC hc (Dz h3) ?_ (by rw [Ex.size]);rw [Ex.out,Zp,Zp,Qy,hC.k,Q0m hC hc];rfl
   have hne:d+(Ex.bin op e0 c).need<=200:=by have h5:(if e0.st<=Ld op then e0.need+1 else e0.need)=Dh e0 (lft lv):=(by rw [hlf];rfl);have h6:(if c.st<=stOp op then c.need+1 else c.need)=Dh c (lv+1):=(by rw [hst];rfl);rw [Ex.need,h5,h6];omega
   have Wsd:(Ex.bin op e0 c).st=lv+1:=hst;split at h4
   ·have h4:=Dz h4;injection h4 with h4
    injection h4 with e1 e2
    subst e1 e2;exact ⟨_,hE,by rw [Qkh (by omega)];exact hne⟩
   ·rename_i g;exact ih (.loop lv (hd1 k)) d s2 ks s' h4 hd hm _ _ hE (by rw [Qkh (by unfold lft;rw [Qd g];omega)];exact hne)
 |n+1,.front,d,s,ks,s',h,hd,hm=>by
  have ih:=Oa n;rw [Qg]at h;split at h
  ·split at h
   ·cases h
   ·rename_i g;obtain ⟨q,s1,h1,h2⟩:=Av h;obtain ⟨a,ha,han⟩:=ih .front (d+1) s.next q s1 h1 (by omega) trivial;have ha:J9 (PL s) a (hd1 q) s1:=ha;have h2:=Dz h2;have han:d+1+(if a.st<=5 then a.need+1 else a.need)<=200:=han;split at h2
    ·refine ⟨.neg a,Qoe ha h2 ?_ (by rw [Ex.size]),?_⟩
     ·rw [Ex.out,Zp,ha.k];rfl
     ·rw [Qkh (show 5<(Ex.neg a).st by show 5<6;omega),Ex.need];omega
    ·refine ⟨.not a,Qoe ha h2 ?_ (by rw [Ex.size]),?_⟩
     ·rw [Ex.out,Zp,ha.k];rfl
     ·rw [Qkh (show 5<(Ex.not a).st by show 5<6;omega),Ex.need];omega
  ·obtain ⟨e,he,hn⟩:=ih .idx d s ks s' h hd trivial;have:=Qq8 e (show 5<=6 by omega);exact ⟨e,he,by omega⟩
 |n+1,.idx,d,s,ks,s',h,hd,hm=>by have ih:=Oa n;rw [Qg]at h;obtain ⟨p,s1,h1,h2⟩:=Av h;obtain ⟨e0,he,hn⟩:=ih .single d s p s1 h1 hd trivial;exact ih (.more (hd1 p)) d s1 ks s' h2 hd trivial _ _ he hn
 |n+1,.more p,d,s,ks,s',h,hd,hm=>λb0 e0 hC hn=>by
  have ih:=Oa n;rw [Qg]at h;split at h
  ·obtain ⟨q,s1,h1,h2⟩:=Av h;obtain ⟨k,s2,h3,h4⟩:=Av h2;obtain ⟨c,hc,hcn⟩:=ih (.inner lb rb) d s q s1 h1 hd trivial;have hE:J9 b0 (.index e0 c) (hd1 k) s2:=by refine Qv8 hC hc (Dz h3) ?_ (by rw [Ex.size]);rw [Ex.out,Zp,Zp,Qy,hC.k,Q0m hC hc];rfl
   refine ih (.more (hd1 k)) d s2 ks s' h4 hd trivial _ _ hE ?_;have h5:(if e0.st<=6 then e0.need+1 else e0.need)=Dh e0 6:=rfl;rw [Qop rfl,Ex.need,h5];omega
  ·have h:=Dz h;injection h with h
   injection h with e1 e2
   subst e1 e2;exact ⟨e0,hC,hn⟩
 |n+1,.inner a b,d,s,ks,s',h,hd,hm=>by
  have ih:=Oa n;rw [Qg]at h;split at h
  ·split at h
   ·cases h
   ·rename_i g;obtain ⟨q,s1,h1,h2⟩:=Av h;obtain ⟨e,he,hn⟩:=ih (.chain 0) (d+1) s.next q s1 h1 (by omega) (Vh _);have:=Qv1 e 0;split at h2
    ·have h2:=Dz h2;injection h2 with h2
     injection h2 with e1 e2
     subst e1 e2;exact ⟨e,⟨he.l,he.k⟩,by omega⟩
    ·cases h2
  ·cases h
 |n+1,.call nm at_,d,s,ks,s',h,hd,hm=>by
  have ih:=Oa n;rw [Qg]at h;split at h
  ·split at h
   ·cases h
   ·rename_i g;obtain ⟨q,s1,h1,h2⟩:=Av h;have hX: ∃xs,Qh8 (PL s) xs q s1/\d+1+needs xs<=200:=by
     split at h1
     ·have h1:=Dz h1;injection h1 with h1
      injection h1 with e1 e2
      subst e1 e2;exact ⟨[],⟨by rw [outs];exact (Xe _).symm,by rw [roots]⟩,by rw [needs];omega⟩
     ·exact ih (.args []) (d+1) s.next q s1 h1 (by omega) trivial (PL s) [] ⟨by rw [outs];exact (Xe _).symm,by rw [roots]⟩ (by rw [needs];omega)
    obtain ⟨xs,hx,hn⟩:=hX;split at h2
    ·obtain ⟨h3,h4⟩:=Qhs (Dz h2);have hP:PL s1.next=PL s1:=rfl;rw [hP]at h3 h4;refine ⟨xs,⟨?_,?_⟩,by omega⟩
     ·rw [h3,hx.l,Ex.out,Zp,Qy,hx.k];rfl
     ·rw [h4,hx.l,Qf,Zr,Qgl,Ex.size];rfl
    ·cases h2
  ·cases h
 |n+1,.args acc,d,s,ks,s',h,hd,hm=>λb0 xs0 hC hn=>by
  have ih:=Oa n;rw [Qg]at h;split at h
  ·cases h
  ·obtain ⟨q,s1,h1,h2⟩:=Av h;obtain ⟨a,ha,han⟩:=ih (.chain 0) d s q s1 h1 hd (Vh _);have h3:=Wrf hC ha;have h4:=Qv1 a 0;have h5:d+needs (xs0++[a])<=200:=(by rw [Q2q];omega);split at h2
   ·exact ih (.args (acc++[hd1 q])) d s1.next ks s' h2 hd trivial b0 (xs0++[a]) ⟨h3.l,h3.k⟩ h5
   ·have h2:=Dz h2;injection h2 with h2
    injection h2 with e1 e2
    subst e1 e2;exact ⟨_,h3,h5⟩
 |n+1,.single,d,s,ks,s',h,hd,hm=>by
  have ih:=Oa n;rw [Qg]at h;split at h
  ·obtain ⟨e,he,hn⟩:=ih (.inner lp rp) d s ks s' h hd trivial;have:=Wjx e 6;exact ⟨e,he,by omega⟩
  split at h
  ·exact ⟨.bool true,Qi5 (s1:=s.next) (Dz h) rfl (by rw [Ex.out];rfl) rfl,hd⟩
  split at h
  ·exact ⟨.bool false,Qi5 (s1:=s.next) (Dz h) rfl (by rw [Ex.out];rfl) rfl,hd⟩
  split at h
  ·exact ⟨.nil,Qi5 (s1:=s.next) (Dz h) rfl (by rw [Ex.out];rfl) rfl,hd⟩
  split at h
  ·obtain ⟨q,s1,h1,h2⟩:=Av h;obtain ⟨a,ha,han⟩:=ih (.inner lp rp) d s.next q s1 h1 hd trivial;have ha:J9 (PL s) a (hd1 q) s1:=ha;refine ⟨.len a,Qoe ha (Dz h2) ?_ (by rw [Ex.size]),?_⟩
   ·rw [Ex.out,Zp,ha.k];rfl
   ·rw [Qop rfl,Ex.need];omega
  split at h
  ·obtain ⟨q,s1,h1,h2⟩:=Av h;obtain ⟨a,ha,han⟩:=ih (.inner lp rp) d s.next q s1 h1 hd trivial;have ha:J9 (PL s) a (hd1 q) s1:=ha;refine ⟨.new a,Qoe ha (Dz h2) ?_ (by rw [Ex.size]),?_⟩
   ·rw [Ex.out,Zp,ha.k];rfl
   ·rw [Qop rfl,Ex.need];omega
  split at h
  ·exact ⟨.num s.tok.n,Qi5 (s1:=s.next) (Dz h) rfl (by rw [Ex.out];rfl) rfl,hd⟩
  split at h
  ·split at h
   ·obtain ⟨xs,hx,hn⟩:=ih (.call ⟨s.tok.text.toArray⟩ s.tok.place) d s.next ks s' h hd trivial;refine ⟨_,⟨hx.l,hx.k⟩,?_⟩;rw [Qop rfl,Ex.need];exact hn
   ·exact ⟨.var s.tok.text,Qi5 (s1:=s.next) (Dz h) rfl (by rw [Ex.out];rfl) rfl,hd⟩
  ·cases h
section
structure Mc (b0:List Nd) (p:Part) (k:Int) (s:PS):Prop where
 l:PL s=b0++(p.out b0.length).map Zf
 k:k=((b0.length+p.size-1:Nat):Int)
structure Je (b0:List Nd) (ps:List Part) (ks:List Int) (s:PS):Prop where
 l:PL s=b0++(Xy ps b0.length).map Zf
 k:ks=Xn ps b0.length
variable {b0:List Nd}{p:Part}{ps:List Part}{k:Int}{ks:List Int}{s s1 s':PS}{n d:Nat}{r:List Int × PS}
theorem J9.part {e:Ex} (h:J9 b0 e k s):Mc b0 e.part k s:=⟨h.l,h.k⟩
theorem Je.nil (s:PS):Je (PL s) [] [] s:=⟨(Xe _).symm,rfl⟩
theorem Je.snoc (h:Je b0 ps ks s) (hf:X8 ps) (g:Mc (PL s) p k s1):Je b0 (ps++[p]) (ks++[k]) s1:=by
 have hl:(PL s).length=b0.length+Zg ps:=by rw [h.l,Qf,Zr,Uh ps _ hf]
 obtain ⟨a1,a2,_⟩:=Qne ps p b0.length;refine ⟨?_,?_⟩
 ·rw [g.l,hl,h.l,a1,Zp,Qy]
 ·rw [g.k,hl,h.k,a2]
theorem Mc.one (g:Mc b0 p k s1):Je b0 [p] [k] s1:=⟨by rw [g.l];show _=b0++(p.out b0.length++[]).map Zf;rw [Xe],by rw [g.k];rfl⟩
theorem Hu {K m:Int} {t:List UInt8} {pl:Int} (h:Je b0 ps ks s) (hf:X8 ps) {qs:List Int} (g:some (lay (En K ks m ⟨t.toArray⟩ pl) s)=some (Except.ok (qs,s'))):Mc b0 (node K m t ps) (hd1 qs) s':=by
 obtain ⟨h1,h2⟩:=Qhs (Dz g);refine ⟨?_,?_⟩
 ·rw [h1,h.l,h.k,Qy];show _=b0++(Xy ps b0.length++[_]).map Zf;rw [Zp];rfl
 ·rw [h2,h.l,Qf,Zr,Uh ps _ hf];rfl
theorem Gf {b:List UInt8} {f:PS->Option Out} (h:Qm b s f=some (.ok r)):f s.next=some (.ok r):=by
 unfold Qm at h;split at h
 ·exact h
 ·cases h
theorem Qjs {f:ByteArray->Nat->PS->Option Out} (h:Xf s f=some (.ok r)):f ⟨s.tok.text.toArray⟩ s.tok.place s.next=some (.ok r):=by
 unfold Xf at h;split at h
 ·exact h
 ·cases h
theorem Q7i {f:Nat->PS->Option Out} (h:V3 s f=some (.ok r)): ∃k,f k s.next=some (.ok r):=by
 unfold V3 at h;split at h
 ·cases h
 ·exact ⟨_,h⟩
theorem Qad {f:Int->PS->Option Out} (h:Wy n d s f=some (.ok r)) (hd:d<=200): ∃e k s1,Mc (PL s) (Ex.part e) k s1/\d+e.need<=200/\f k s1=some (.ok r):=by obtain ⟨p,s1,h1,h2⟩:=Av h;obtain ⟨e,he,hn⟩:=Oa n (.chain 0) d s p s1 h1 hd (Vh _);have:=Qv1 e 0;exact ⟨e,_,s1,he.part,by omega,h2⟩
theorem Wfn (c:List St) (a:St):Zl (c++[a])=Zl c++[a.part]:=by rw [Qhk,Qhk,Zp];rfl
theorem Q54: ∀(c:List St) (a:St),Ce (c++[a])=max (Ce c) a.need
 | [],a=>by simp only [Xk,Ce];omega
 |x::c,a=>by rw [V6,Ce,Q54 c a,Ce];omega
theorem Qyy: ∀(c:List Wm) (a:Wm),Gq (c++[a])=max (Gq c) a.need
 | [],a=>by simp only [Xk,Gq];omega
 |x::c,a=>by rw [V6,Gq,Qyy c a,Gq];omega
def Wgb (m:Pm) (d:Nat) (s:PS) (ks:List Int) (s':PS):Prop:=match m with
 | .block=> ∃b,Mc (PL s) (X6 b) (hd1 ks) s'/\d+(Ce b+1)<=200
 | .stmts acc _=> ∀(b0:List Nd) (c0:List St),Je b0 (Zl c0) acc s->d+Ce c0<=200-> ∃b,Mc b0 (X6 b) (hd1 ks) s'/\d+Ce b<=200
 | .stmt=> ∃a,Mc (PL s) (St.part a) (hd1 ks) s'/\d+a.need<=200
 | .params acc=> ∀(b0:List Nd) (ps0:List (List UInt8×Nat)),Je b0 (ps0.map Zb) acc s-> ∃ps:List (List UInt8×Nat),Je b0 (ps.map Zb) ks s'
 | .func=> ∃f,Mc (PL s) (Wm.part f) (hd1 ks) s'/\d+f.need<=200
 | .prog acc=> ∀(b0:List Nd) (fs0:List Wm),Je b0 (fs0.map Wm.part) acc s->d+Gq fs0<=200-> ∃fs:List Wm,Mc b0 (Ko fs) (hd1 ks) s'/\d+Gq fs<=200
theorem Tz: ∀(n:Nat) (m:Pm) (d:Nat) (s:PS) (ks:List Int) (s':PS),Qac n m d s=some (.ok (ks,s'))->d<=200->Wgb m d s ks s'
 | 0,_,_,_,_,_,h,_=>by cases h
 |n+1,.block,d,s,ks,s',h,hd=>by
  rw [Qac]at h;have h:=Gf h;split at h
  ·cases h
  ·obtain ⟨b,hb,hn⟩:=Tz n (.stmts [] s.tok.place) (d+1) s.next ks s' h (by omega) (PL s) [] (by rw [Zl];exact Je.nil s.next) (by rw [Ce];omega);exact ⟨b,hb,by omega⟩
 |n+1,.stmts acc at_,d,s,ks,s',h,hd=>λb0 c0 hC hn=>by
  rw [Qac]at h;split at h
  ·have hC:Je b0 (Zl c0) acc s.next:=⟨hC.l,hC.k⟩;exact ⟨c0,Hu (t:=[]) hC (Uy c0) h,hn⟩
  ·obtain ⟨p,s1,h1,h2⟩:=Av h;obtain ⟨a,ha,han⟩:=Tz n .stmt d s p s1 h1 hd;refine Tz n (.stmts (acc++[hd1 p]) at_) d s1 ks s' h2 hd b0 (c0++[a]) ?_ ?_
   ·rw [Wfn];exact hC.snoc (Uy c0) ha
   ·rw [Q54];omega
 |n+1,.stmt,d,s,ks,s',h,hd=>by
  have ih:=Tz n;rw [Qac]at h;split at h
  ·have h:=Gf (Qjs h);obtain ⟨e,k,s3,he,hn,h⟩:=Qad h hd;have h:=Gf h;have hC:Je (PL s) [e.part] [k] s3.next:=⟨he.one.l,he.one.k⟩;exact ⟨.let_ s.next.tok.text e,by rw [St.part];exact Hu hC (.cons (Ww e) .nil) h,by rw [St.need];exact hn⟩
  ·have h:=Gf (Qjs h);obtain ⟨e,k,s3,he,hn,h⟩:=Qad h hd;have h:=Gf h;obtain ⟨f,k2,s5,hf,hn2,h⟩:=Qad h hd;obtain ⟨q,s6,h1,h⟩:=Av h;obtain ⟨c,hc,hn3⟩:=ih .block d s5 q s6 h1 hd;have hC1:Je (PL s) [e.part] [k] s3.next:=⟨he.one.l,he.one.k⟩;have hC2:=hC1.snoc (.cons (Ww e) .nil) hf;have hC3:=hC2.snoc (.cons (Ww e) (.cons (Ww f) .nil)) hc;exact ⟨.for_ s.next.tok.text e f c,by rw [St.part];exact Hu hC3 (.cons (Ww e) (.cons (Ww f) (.cons (J8 c) .nil))) h,by rw [St.need];omega⟩
  ·have h:=Gf h;exact ⟨.brk,by rw [St.part];exact Hu (t:=[]) (Je.nil s.next.next) .nil h,by rw [St.need];omega⟩
  ·have h:=Gf h;exact ⟨.cont,by rw [St.part];exact Hu (t:=[]) (Je.nil s.next.next) .nil h,by rw [St.need];omega⟩
  ·obtain ⟨e,k,s3,he,hn,h⟩:=Qad h hd;have h:=Gf h;have hC:Je (PL s) [e.part] [k] s3.next:=⟨he.one.l,he.one.k⟩;exact ⟨.ret e,by rw [St.part];exact Hu (t:=[]) hC (.cons (Ww e) .nil) h,by rw [St.need];exact hn⟩
  ·obtain ⟨e,k,s3,he,hn,h⟩:=Qad h hd;have h:=Gf h;have hC:Je (PL s) [e.part] [k] s3.next:=⟨he.one.l,he.one.k⟩;exact ⟨.print e,by rw [St.part];exact Hu (t:=[]) hC (.cons (Ww e) .nil) h,by rw [St.need];exact hn⟩
  ·obtain ⟨e,k,s3,he,hn,h⟩:=Qad h hd;obtain ⟨q,s6,h1,h⟩:=Av h;obtain ⟨c,hc,hn3⟩:=ih .block d s3 q s6 h1 hd;have hC1:Je (PL s) [e.part] [k] s3:=⟨he.one.l,he.one.k⟩;have hC2:=hC1.snoc (.cons (Ww e) .nil) hc;exact ⟨.Kl e c,by rw [St.part];exact Hu (t:=[]) hC2 (.cons (Ww e) (.cons (J8 c) .nil)) h,by rw [St.need];omega⟩
  ·obtain ⟨e,k,s3,he,hn,h⟩:=Qad h hd;obtain ⟨q,s6,h1,h⟩:=Av h;obtain ⟨c,hc,hn3⟩:=ih .block d s3 q s6 h1 hd;have hC1:Je (PL s) [e.part] [k] s3:=⟨he.one.l,he.one.k⟩;have hC2:=hC1.snoc (.cons (Ww e) .nil) hc;split at h
   ·obtain ⟨q2,s7,h2,h⟩:=Av h;obtain ⟨f,hf,hn4⟩:=ih .block d s6.next q2 s7 h2 hd;have hC3:=hC2.snoc (.cons (Ww e) (.cons (J8 c) .nil)) (s1:=s7) hf;exact ⟨.Cz e c f,by rw [St.part];exact Hu (t:=[]) hC3 (.cons (Ww e) (.cons (J8 c) (.cons (J8 f) .nil))) h,by rw [St.need];omega⟩
   ·exact ⟨.if_ e c,by rw [St.part];exact Hu (t:=[]) hC2 (.cons (Ww e) (.cons (J8 c) .nil)) h,by rw [St.need];omega⟩
  ·have h:=Qjs h;split at h
   ·obtain ⟨q,s2,h1,h⟩:=Av h;obtain ⟨xs,hx,hn⟩:=Oa n (.call ⟨s.tok.text.toArray⟩ s.tok.place) d s.next q s2 h1 hd trivial;have h:=Gf h;have hx:Mc (PL s) (Ex.call s.tok.text xs).part (hd1 q) s2:=hx.part;have hC:Je (PL s) [(Ex.call s.tok.text xs).part] [hd1 q] s2.next:=⟨hx.one.l,hx.one.k⟩;exact ⟨.do_ s.tok.text xs,by rw [St.part];exact Hu (t:=[]) hC (.cons (Ww _) .nil) h,by rw [St.need,Ex.need];exact hn⟩
   ·split at h
    ·obtain ⟨q,s2,h1,h⟩:=Av h;obtain ⟨i,hi,hn⟩:=Oa n (.inner lb rb) d s.next q s2 h1 hd trivial;have h:=Gf h;obtain ⟨e,k,s4,he,hn2,h⟩:=Qad h hd;have h:=Gf h;have hi:Mc (PL s) i.part (hd1 q) s2:=hi.part;have hC1:Je (PL s) [i.part] [hd1 q] s2:=hi.one;have hC2:=hC1.snoc (.cons (Ww i) .nil) (s1:=s4.next) ⟨he.l,he.k⟩;exact ⟨.put s.tok.text i e,by rw [St.part];exact Hu hC2 (.cons (Ww i) (.cons (Ww e) .nil)) h,by rw [St.need];omega⟩
    ·have h:=Gf h;obtain ⟨e,k,s3,he,hn,h⟩:=Qad h hd;have h:=Gf h;have hC:Je (PL s) [e.part] [k] s3.next:=⟨he.one.l,he.one.k⟩;exact ⟨.set s.tok.text e,by rw [St.part];exact Hu hC (.cons (Ww e) .nil) h,by rw [St.need];exact hn⟩
 |n+1,.params acc,d,s,ks,s',h,hd=>λb0 ps0 hC=>by
  rw [Qac]at h;have h:=Qjs h;split at h
  ·cases h
  ·obtain ⟨k,h⟩:=Q7i h;obtain ⟨q,s3,h1,h⟩:=Av h;have hq:Mc (PL s) (Zb (s.tok.text,k)) (hd1 q) s3:=Hu (Je.nil s.next.next) .nil h1;have hC2:Je b0 ((ps0++[(s.tok.text,k)]).map Zb) (acc++[hd1 q]) s3:=by rw [Zp];exact hC.snoc (Qij ps0) hq
   split at h
   ·exact Tz n (.params (acc++[hd1 q])) d s3.next ks s' h hd b0 _ ⟨hC2.l,hC2.k⟩
   ·have h:=Dz (Gf h);injection h with h
    injection h with e1 e2
    subst e1 e2;exact ⟨_,hC2.l,hC2.k⟩
 |n+1,.func,d,s,ks,s',h,hd=>by
  rw [Qac]at h;have h:=Gf (Qjs h);obtain ⟨q,s3,h1,h⟩:=Av h;have hX: ∃ps:List (List UInt8×Nat),Je (PL s) (ps.map Zb) q s3:=by
   split at h1
   ·have h1:=Dz h1;injection h1 with h1
    injection h1 with e1 e2
    subst e1 e2;exact ⟨[],Je.nil s.next.next.next⟩
   ·exact Tz n (.params []) d s.next.next q s3 h1 hd (PL s) [] (Je.nil s.next.next)
  obtain ⟨ps,hx⟩:=hX;obtain ⟨k,h⟩:=Q7i h;obtain ⟨q2,s5,h2,h⟩:=Av h;obtain ⟨c,hc,hn⟩:=Tz n .block d s3.next q2 s5 h2 hd;have hC:=hx.snoc (Qij ps) (s1:=s5) hc;exact ⟨⟨s.tok.text,ps,k,c⟩,Hu hC ((Qij ps).app (.cons (J8 c) .nil)) h,hn⟩
 |n+1,.prog acc,d,s,ks,s',h,hd=>λb0 fs0 hC hn=>by
  rw [Qac]at h;split at h
  ·exact ⟨fs0,Hu (t:=[]) hC (Qo5 fs0) h,hn⟩
  ·have h:=Gf h;split at h
   ·cases h
   ·obtain ⟨q,s2,h1,h⟩:=Av h;obtain ⟨f,hf,hn2⟩:=Tz n .func d s.next q s2 h1 hd;refine Tz n (.prog (acc++[hd1 q])) d s2 ks s' h hd b0 (fs0++[f]) ?_ ?_
    ·rw [Zp];exact hC.snoc (Qo5 fs0) hf
    ·rw [Qyy];omega
theorem Wg7 {L:List Tk} {ks:List Int} {s':PS} (h:Qs (.prog []) 0 ⟨L,[],[]⟩ (.ok (ks,s'))): ∃fs,s'.l.map Zf=((Ko fs).out 0).map Zf/\Gq fs<=200:=by obtain ⟨n,h⟩:=h;obtain ⟨fs,h1,h2⟩:=Tz n (.prog []) 0 ⟨L,[],[]⟩ ks s' h (by omega) [] [] ⟨rfl,rfl⟩ (by rw [Gq];omega);exact ⟨fs,h1.l,by omega⟩
theorem Wn5 {t:List UInt8} {L:List Tk} {ks:List Int} {s:PS} (hT:T t 0= .ok L) (h:Qs (.prog []) 0 ⟨L,[],[]⟩ (.ok (ks,s))):
  ∃fs,XR s.l ((s.l.length-1:Nat):Int) fs/\ ∃L' s',Quy fs (tx s.l (s.l.length-1)) L' s'/\s'.l.map Zf=s.l.map Zf:=by
 obtain ⟨fs,h1,h2⟩:=Wg7 h;obtain ⟨hR,h26,_,_,hN⟩:=Qfa (Qbp hT) (Qgw hT).1 h;have hr:=Qri hR.1.2.1 h1;obtain ⟨fs',hx⟩:=Qu4 hR h26 (Qui hN);have hx1:Yb s.l (s.l.length-1)= .pr fs':=hx.r;rw [hr]at hx1;obtain rfl:fs=fs':=by injection hx1
 have hh:(Ko fs).ht=hgt s.l (s.l.length-1):=hx.h;have ht:Qo4 fs=tx s.l (s.l.length-1):=hx.t;obtain ⟨L',s',h4⟩:=Wer hx.fin h2 (by rw [hh];exact hR.2.2);rw [ht]at h4;exact ⟨fs,hx,L',s',h4,h4.nodes.trans h1.symm⟩
end
section
open Go.RowKit
def Qpm (e:Ending):Prop:= ∀a n c v,e= .returned (.tuple #[.slice a n c,v])->n<=c
theorem Wdn {B n0 n c sz:Nat} {t:TypeId} {w:World} {a:Option Addr} {xs:List Value} (h:w.ownsRow B t sz (.slice a n c) n0 xs):n<=c:=by
 rcases h.2 with ⟨e1,e2⟩ |⟨g,cap,cur,e1,e2,e3,e4,e5,e6,e7⟩
 ·injection e1 with e1 e3 e4
  omega
 ·injection e1 with e1 e5' e6'
  omega
theorem Wq4 {s:ByteArray} {w w':World} {e:Ending} (hs:s.size<=65536) (h:Qqb s.data.toList w e w'):PT s.data.toList w e w'/\Qpm e:=by
 obtain ⟨hb,h⟩:=h;rcases h with h |⟨L,v,Kt,hr,h⟩
 ·refine ⟨⟨hb,.inl h⟩,?_⟩;obtain ⟨x,q,_,he⟩:=h;intro a n c v' h';rw [he]at h';injection h' with h'
  injection h' with h'
  injection h' with h'
  injection h' with h1 _
  injection h1 with h1 h2 h3
  omega
 ·have hlen:s.data.toList.length<=65536:=by rw [Au];exact hs
  have L9:=Qiq Kt hlen;have hLL:=(Qgw Kt).2;have hIT:=Qbp Kt;rcases h with ⟨r,val,hp,he,hg⟩ |⟨x,q,hp,hx,he⟩
  ·match v,hr,hp with
   | .ok (ps,s'),hr,hp=>
    have hp:s'.l=r:=(by injection hp);subst hp;have ht:=Qfa hIT L9.some hr;have hpl:=Qqg hr;have hcap:Qpm e:=by
     obtain ⟨l'',h1,_,_⟩:=hg;intro a n c v' h';rw [he]at h';injection h' with h'
     injection h' with h'
     injection h' with h'
     injection h' with h2 _
     rw [h2]at h1;exact Wdn h1
    obtain ⟨a,c,l',rfl,hN,hb'⟩:=hg.nodes (λx hx=>⟨F7 (ht.2.2.2.1 x hx) (by omega),(ht.2.2.2.2 x hx).1,(ht.2.2.2.2 x hx).2,Qzm ht.1 x hx⟩);refine ⟨⟨hb,.inr ⟨L,_,Kt,hr,.inl ⟨ps,s',l',a,c,rfl,he,hN,hb',?_⟩⟩⟩,hcap⟩;have:=congrArg List.length hb';rw [Zr]at this;omega
  ·match v,hr,hp with
   | .error f,hr,hp=>
    have hp:f=(x,q):=(by injection hp);refine ⟨⟨hb,.inr ⟨L,_,Kt,hr,.inr ⟨x,q,by rw [hp],hx,he⟩⟩⟩,?_⟩;intro a n c v' h';rw [he]at h';injection h' with h'
    injection h' with h'
    injection h' with h'
    injection h' with h1 _
    injection h1 with h1 h2 h3
    omega
theorem Q55 (s:ByteArray) (w:World) (hT:Qaw w) (hs:s.size<=65536):
  Calls prog 9 #[.string s] w λe w'=>PT s.data.toList w e w'/\Qpm e:=
 (Wih s w hT.lex hT.ex hT.kw hs).mono λe w' h=>Wq4 hs h
theorem Q6w (l:List Nd):(l.map bare).map Zf=l.map Zf:=by rw [Ea];rfl
theorem Wf4 {fs:List Wm} {t:List UInt8} {L:List Tk} {s':PS} (h:Quy fs t L s') (hlen:(Xv fs).length<=65536) (S:ByteArray) (hS:S.data.toList=Xv fs) (w:World) (hT:Qaw w):
  Calls prog 9 #[.string S] w λe w'=>Below w.heap.size w w'/\ ∃(l':List Nd) (a:Option Addr) (c n:Nat),e= .returned (.tuple #[.slice a n c,.agg #[.int .i64 0,.int .i64 0]])/\n=l'.length/\n<=c/\n<=100000/\Nodes w' a l'/\l'.map bare=s'.l:=by
 refine (Q55 S w hT (by have h1:S.data.toList.length=S.size:=Au;rw [<-h1,hS];exact hlen)).mono ?_;rintro e w' ⟨⟨hb,hp⟩,hc⟩;refine ⟨hb,?_⟩;rw [hS,h.lex]at hp;rcases hp with ⟨x,q,h1,_⟩ |⟨L',v,h1,hr,hp⟩
 ·cases h1
 ·injection h1 with h1
  subst h1;obtain ⟨ks,hk⟩:=h.reads;have e1:=hk.one hr;subst e1;rcases hp with ⟨ps,s1,l',a,c,h2,he,hN,hb',hl⟩ |⟨x,q,h2,_⟩
  ·injection h2 with h2
   injection h2 with _ h2
   subst h2;exact ⟨l',a,c,l'.length,he,rfl,hc _ _ _ _ he,hl,hN,hb'⟩
  ·cases h2
end
section
open Go.ChangeShapes Go.WideShapes Go.ChangeAt Go.RowKit Go.WideElems
theorem own:ownKnob prog.godebug=none:=by kernel_rfl
def Bw {H:Type}:List (String×DataW H):=[("math/bits.deBruijn32tab",Rows.laid_math_bits_deBruijn32tab),("math/bits.deBruijn64tab",Rows.laid_math_bits_deBruijn64tab),("internal/strconv.uint64pow10",Rows.laid_internal_strconv_uint64pow10),("balustrade/lex.keyWords",Rows.laid_balustrade_lex_keyWords),("balustrade/expr.signs",Rows.laid_balustrade_expr_signs),("balustrade/expr.strengths",Rows.laid_balustrade_expr_strengths),("balustrade/expr.fronts",Rows.laid_balustrade_expr_fronts),("balustrade/parse.kindWords",Rows.laid_balustrade_parse_kindWords),("balustrade/tree.rows",Rows.laid_balustrade_tree_rows),("balustrade/tree.limits",Rows.laid_balustrade_tree_limits),("balustrade/tree.makings",Rows.laid_balustrade_tree_makings),("balustrade/tree.signs",Rows.laid_balustrade_tree_signs),("balustrade/tree.kindWords",Rows.laid_balustrade_tree_kindWords),("balustrade/tree.keyWords",Rows.laid_balustrade_tree_keyWords),("balustrade/prose.strengths",Rows.laid_balustrade_prose_strengths),("balustrade/prose.heads",Rows.laid_balustrade_prose_heads)]
theorem Woe (os:Os) (args:Array Value):laidMetH prog Bw ((World.doorLaid prog 400 os).forCall (λ_ _=>0) ⟨#[],args,[]⟩).memory:=
 laidMetH_of_parts3 (fuel:=8) (laidMet_of_run' 8 (by kernel_rfl) (by kernel_rfl)) (by kernel_rfl) (by kernel_rfl)
def Qj0 (P:Program):Nat->List Field->Nat->Bool
 |o,[],m=>o==m
 |o,f::r,m=>f.offset==o&&Qj0 P (o+P.cellsOf f.type) r m
def Qgg (P:Program):Nat->TypeId->Bool
 | 0,_=>false
 |g+1,t=>match P.underlying t with
  |some (.int _)=>true
  |some .bool=>true
  |some .string=>true
  |some (.array n e)=>Qgg P g e&&(P.cellsOf t==n*P.cellsOf e)
  |some (.struct fs)=>fs.toList.all (λx=>Qgg P g x.type)&&Qj0 P 0 fs.toList (P.cellsOf t)
  |_=>false
theorem Q70 {H:Type} {c:Nat}: ∀(n:Nat) (cs:List Value) (xs:List (DataW H×List MemPlace)),cs.length=n*c->xs.length=n->
  (∀i y,xs[i]? =some y->(cs.drop (i*c)).take c=flat y.1)->cs=Qcl (xs.map (·.1))
 | 0,cs,xs,h1,h2,_=>by rw [Nat.zero_mul]at h1;rw [List.length_eq_zero_iff.1 h1,List.length_eq_zero_iff.1 h2];rfl
 |n+1,cs,[],h1,h2,_=>by simp at h2
 |n+1,cs,y::r,h1,h2,h=>by
  have h0:=h 0 y rfl;rw [Nat.zero_mul,List.drop_zero]at h0;rw [Nat.add_mul,Nat.one_mul]at h1;have ih:=Q70 (c:=c) n (cs.drop c) r (by rw [Vf];omega) (by simpa using h2) (λi z hz=>by have:=h (i+1) z (by simpa using hz);rw [Nat.add_mul,Nat.one_mul,Nat.add_comm]at this;rw [List.drop_drop];exact this);show cs=flat y.1++Qcl (r.map (·.1));rw [<-ih,<-h0,List.take_append_drop]
theorem Q14 {H:Type} {P:Program} {m:Nat}: ∀(fs:List Field) (o:Nat) (cs:List Value) (xs:List (DataW H×List MemPlace)),cs.length=m->Qj0 P o fs m=true->xs.length=fs.length->
  (∀(i:Nat) (f:Field) (y:DataW H×List MemPlace),fs[i]? =some f->xs[i]? =some y->(cs.drop f.offset).take (P.cellsOf f.type)=flat y.1)->cs.drop o=Qcl (xs.map (·.1))
 | [],o,cs,xs,h1,hc,h2,_=>by
  have hx:xs=[]:=List.length_eq_zero_iff.1 (by simpa using h2);subst hx;have:o=m:=by simpa [Qj0] using hc
  rw [List.drop_eq_nil_iff.2 (by omega)];rfl
 |f::r,o,cs,[],h1,hc,h2,_=>by simp at h2
 |f::r,o,cs,y::q,h1,hc,h2,h=>by simp only [Qj0,Yo,beq_iff_eq]at hc;obtain ⟨ho,hc⟩:=hc;have h0:=h 0 f y rfl rfl;rw [ho]at h0;have ih:=Q14 r (o+P.cellsOf f.type) cs q h1 hc (by simpa using h2) (λi g z hg hz=>h (i+1) g z (by simpa using hg) (by simpa using hz));show cs.drop o=flat y.1++Qcl (q.map (·.1));rw [<-ih,<-h0,<-List.drop_drop,List.take_append_drop]
theorem Qr9 {H:Type} {enc:TypeId×Value->H} {P:Program} {w:World} {base:Nat} {sp:Nat->Bool} {held:Bool}: ∀(g:Nat) (t:TypeId) (fuel:Nat) (cs:List Value) (x:DataW H×List MemPlace),Qgg P g t=true->
  DataW.trod enc P w base sp held fuel t cs=some x->cs=flat x.1
 | 0,t,fuel,cs,x,hp,h=>by simp [Qgg]at hp
 |g+1,t,fuel,cs,x,hp,h=>by
  unfold Qgg at hp;split at hp
  ·rename_i k hk;obtain ⟨n,rfl,rfl,_⟩:=DataW.trod_int hk h;rfl
  ·rename_i hk;obtain ⟨b,rfl,rfl⟩:=DataW.trod_bool hk h;rfl
  ·rename_i hk;obtain ⟨s,rfl,rfl,_⟩:=DataW.trod_string hk h;show [Value.string s]=[Value.string ⟨s.data.toList.toArray⟩];rw [Array.toArray_toList]
  ·rename_i n e hk;rw [Yo,beq_iff_eq]at hp;obtain ⟨xs,m,_,rfl,hl,hlen,hg⟩:=DataW.trod_array hk h;show cs=Qcl _;refine Q70 n cs xs (by rw [hl,hp.2]) hlen (λi y hy=> ?_);obtain ⟨hi,_⟩:=List.getElem?_eq_some_iff.1 hy;have:=hg i (by omega);rw [hy]at this;exact Qr9 g e m _ y hp.1 this
  ·rename_i fs hk;rw [Yo]at hp;obtain ⟨xs,m,_,rfl,hl,hlen,hg⟩:=DataW.trod_struct hk h;show cs=Qcl _;have:=Q14 (P:=P) fs.toList 0 cs xs hl hp.2 (by simpa using hlen) (λi f y hf hy=>by
    have hf':fs[i]? =some f:=(by simpa using hf);have h1:=hg i f hf';rw [hy]at h1;exact Qr9 g f.type m _ y (by have:=List.all_eq_true.1 hp.1 f (List.mem_of_getElem? hf);exact this) h1);simpa using this
  ·cases hp
theorem Q0v {P:Program} {w:World} {n:String} {d:DataW Unit}: ∀{l:List (String×DataW Unit)} {ps:List MemPlace},DataW.LaidVars P w l ps->(n,d)∈l->
  ∃g t cs fuel p,P.globalNamed n=some g/\(P.globals[g]?).map (·.type)=some t/\w.var? P n=some cs/\DataW.trod (λ_=>()) P w 0 (λ_=>true) false fuel t cs.toList=some (d,p)
 | [],_,_,h=>by cases h
 |(m,e)::r,ps,hl,h=>by
  obtain ⟨g,t,cs,fuel,p,q,h1,h2,h3,h4,h5,_⟩:=hl;rcases List.mem_cons.1 h with h' |h'
  ·injection h' with e1 e2
   subst e1 e2;exact ⟨g,t,cs,fuel,p,h1,h2,h3,h4⟩
  ·exact Q0v h5 h'
theorem Mk {w:World} {n:String} {d:DataW Unit} {ps:List MemPlace} {g t:Nat} (h:DataW.LaidVars prog w Bw ps) (hm:(n,d)∈(Bw:List (String×DataW Unit))) (hg:prog.globalNamed n=some g)
  (ht:(prog.globals[g]?).map (·.type)=some t) (hp:Qgg prog 6 t=true): ∃t fr,w.heap[g]? =some (.cells (flat d).toArray t fr):=by
 obtain ⟨g',t',cs,fuel,p,h1,h2,h3,h4⟩:=Q0v h hm;obtain rfl:=Option.some.inj (hg.symm.trans h1);obtain rfl:=Option.some.inj (ht.symm.trans h2);have h5:=Qr9 6 t fuel _ _ hp h4;unfold World.var? at h3;rw [hg]at h3;simp only [Option.bind_some]at h3;split at h3
 ·rename_i cs' t' fr hh;injection h3 with h3
  subst h3;refine ⟨t',fr,?_⟩;rw [hh];have h6:cs'=(flat d).toArray:=by rw [<-h5]
  rw [h6]
 ·cases h3
theorem Qgu {w:World} {g:Nat} {cs ds:Array Value} (h: ∃t fr,w.heap[g]? =some (.cells cs t fr)) (e:cs=ds): ∃t fr,w.heap[g]? =some (.cells ds t fr):=by subst e;exact h
theorem Wrq {W:World} {ps:List MemPlace} (h:DataW.LaidVars prog W Bw ps):Ir W:=by
 refine ⟨⟨?_,?_,?_,?_,?_,?_,?_⟩,?_,?_⟩
 ·exact Mk (g:=6) (t:=138) (n:= "balustrade/tree.rows") (d:=Rows.laid_balustrade_tree_rows) h (by simp [Bw]) (by kernel_rfl) (by kernel_rfl) (by kernel_rfl)
 ·exact Mk (g:=7) (t:=142) (n:= "balustrade/tree.limits") (d:=Rows.laid_balustrade_tree_limits) h (by simp [Bw]) (by kernel_rfl) (by kernel_rfl) (by kernel_rfl)
 ·exact Mk (g:=8) (t:=147) (n:= "balustrade/tree.makings") (d:=Rows.laid_balustrade_tree_makings) h (by simp [Bw]) (by kernel_rfl) (by kernel_rfl) (by kernel_rfl)
 ·exact Mk (g:=3) (t:=124) (n:= "balustrade/tree.signs") (d:=Rows.laid_balustrade_tree_signs) h (by simp [Bw]) (by kernel_rfl) (by kernel_rfl) (by kernel_rfl)
 ·exact Mk (g:=2) (t:=88) (n:= "balustrade/tree.kindWords") (d:=Rows.laid_balustrade_tree_kindWords) h (by simp [Bw]) (by kernel_rfl) (by kernel_rfl) (by kernel_rfl)
 ·exact Mk (g:=11) (t:=132) (n:= "balustrade/tree.keyWords") (d:=Rows.laid_balustrade_tree_keyWords) h (by simp [Bw]) (by kernel_rfl) (by kernel_rfl) (by kernel_rfl)
 ·exact Qgu (Mk (g:=14) (t:=170) (n:= "internal/strconv.uint64pow10") (d:=Rows.laid_internal_strconv_uint64pow10) h (by simp [Bw]) (by kernel_rfl) (by kernel_rfl) (by kernel_rfl)) (by kernel_rfl)
 ·exact Mk (g:=0) (t:=49) (n:= "balustrade/prose.heads") (d:=Rows.laid_balustrade_prose_heads) h (by simp [Bw]) (by kernel_rfl) (by kernel_rfl) (by kernel_rfl)
 ·exact Mk (g:=1) (t:=84) (n:= "balustrade/prose.strengths") (d:=Rows.laid_balustrade_prose_strengths) h (by simp [Bw]) (by kernel_rfl) (by kernel_rfl) (by kernel_rfl)
theorem Wor {W:World} {ps:List MemPlace} (h:DataW.LaidVars prog W Bw ps):Qaw W:=by
 refine ⟨?_,⟨?_,?_,?_⟩,?_⟩
 ·exact Qgu (Mk (g:=4) (t:=132) (n:= "balustrade/lex.keyWords") (d:=Rows.laid_balustrade_lex_keyWords) h (by simp [Bw]) (by kernel_rfl) (by kernel_rfl) (by kernel_rfl)) (by kernel_rfl)
 ·exact Qgu (Mk (g:=9) (t:=153) (n:= "balustrade/expr.strengths") (d:=Rows.laid_balustrade_expr_strengths) h (by simp [Bw]) (by kernel_rfl) (by kernel_rfl) (by kernel_rfl)) (by kernel_rfl)
 ·exact Qgu (Mk (g:=10) (t:=124) (n:= "balustrade/expr.signs") (d:=Rows.laid_balustrade_expr_signs) h (by simp [Bw]) (by kernel_rfl) (by kernel_rfl) (by kernel_rfl)) (by kernel_rfl)
 ·exact Qgu (Mk (g:=13) (t:=160) (n:= "balustrade/expr.fronts") (d:=Rows.laid_balustrade_expr_fronts) h (by simp [Bw]) (by kernel_rfl) (by kernel_rfl) (by kernel_rfl)) (by kernel_rfl)
 ·exact Qgu (Mk (g:=5) (t:=88) (n:= "balustrade/parse.kindWords") (d:=Rows.laid_balustrade_parse_kindWords) h (by simp [Bw]) (by kernel_rfl) (by kernel_rfl) (by kernel_rfl)) (by kernel_rfl)
theorem Wff {W:World} (h:laidMetH prog Bw W):Ir W/\Qaw W:=by rw [MakeChecks.laidMetH_plain _ _ _ (by kernel_rfl)]at h;obtain ⟨ps,h,_⟩:=h;exact ⟨Wrq h,Wor h⟩
end
section
open Go.RowKit
theorem Wl9 (s:ByteArray) (w:World) (hs:65536<s.size) (hm:s.size<=9223372036854775807):
  Calls prog 22 #[.string s] w λe w'=>e= .returned (.tuple #[.slice none 0 0,.agg #[.int .i64 3,.int .i64 0]])/\Below w.heap.size w w':=by
 have hsi:(65536:Int)<(s.size:Int):=by omega
 obtain ⟨W,hW⟩:=Qb (w.alloc (.cells #[.int .i64 0,.int .i64 0] 29));obtain ⟨A,hA⟩:=Qb w.heap.size;have HH:Hid (Held W A 29 #[.int .i64 0,.int .i64 0]):=by rw [hW,hA];exact Held.new _ _ _
 have HB:Hid (Below w.heap.size w W):=by rw [hW];exact Qag
 have HA:Hid (w.heap.size<=A):=by show w.heap.size<=A;omega
 clear hs hm;go_enter func22,ntmps22;rw [Qz 1];go_wp2_with fail;rw [<-hW,<-hA];clear hW hA;have x0:=HH.out.at_ (j:=0) (v:=.int .i64 0) rfl;have x1:=HH.out.at_ (j:=1) (v:=.int .i64 0) rfl;have e0:=HH.out.frozen 0;have e1:=HH.out.frozen 1;refine Qn ?_;go_wp2_with fail;obtain ⟨W',hW',hH,hBel⟩:=Uw HH.out HB.out HA.out (.int .i64 3) (.int .i64 0);rw [<-hW'];have r0:W'.cell? ⟨A,0,none⟩=some (.int .i64 3):=hH.at_ rfl;have r1:W'.cell? ⟨A,1,none⟩=some (.int .i64 0):=hH.at_ rfl;clear hW' hH;exact bodyPost_ret (v:=.tuple #[.slice none 0 0,.agg #[.int .i64 3,.int .i64 0]]) (by simp [results,results22,go_sem,r0,r1]) rfl ⟨rfl,hBel⟩
theorem Wi0 (s:ByteArray) (w:World) (hs:65536<s.size) (hm:s.size<=9223372036854775807):
  Calls prog 9 #[.string s] w λe w'=>e= .returned (.tuple #[.slice none 0 0,.agg #[.int .i64 3,.int .i64 0]])/\Below w.heap.size w w':=by
 obtain ⟨W,hW⟩:=Qb (w.alloc (.cells #[.int .i64 0,.int .i64 0] 29));obtain ⟨A,hA⟩:=Qb w.heap.size;have HG:Hid (Held W A 29 #[.int .i64 0,.int .i64 0]):=by rw [hW,hA];exact Held.new _ _ _
 have HB:Hid (Below w.heap.size w W):=by rw [hW];exact Qag
 have HA:Hid (w.heap.size<=A):=by rw [hA];exact Qh _
 have Qah:=Qa (Wl9 s W hs hm);clear hs hm;go_enter func9,ntmps9;rw [Qz 1];go_wp2_with fail;rw [<-hW,<-hA];clear hW hA;refine Qn ?_;go_wp2_with fail;refine Qah.out.mono ?_;rintro en w1 ⟨rfl,hb⟩;have HD:=Qa (HG.out.since hb);have HB1:Hid (Below w.heap.size w w1):=HB.out.trans (hb.mono HB.out.size);clear hb;go_wp2_with fail;obtain ⟨W6,Va⟩:=Qb (w1.alloc (.cells #[.int .i64 3,.int .i64 0] 29));obtain ⟨B,hB⟩:=Qb w1.heap.size;have HX6:Hid (Held W6 B 29 #[.int .i64 3,.int .i64 0]):=by rw [Va,hB];exact Held.new _ _ _
 have hb6:Below w1.heap.size w1 W6:=by rw [Va];exact Qag
 have HD6:=Qa (HD.out.since hb6);have Aa:Hid (Below w.heap.size w W6):=HB1.out.trans (hb6.mono HB1.out.size);rw [<-Va,<-hB];clear Va hB hb6;have y0:=HX6.out.at_ (j:=0) (v:=.int .i64 3) rfl;have y1:=HX6.out.at_ (j:=1) (v:=.int .i64 0) rfl;go_still_tail 2,(by kernel_rfl);change wpList _ _ _ _ _ W6.drew;clear y0 y1;obtain ⟨W7,Xr⟩:=Qb W6.drew;have Bv:Hid (Below w.heap.size w W7):=by rw [Xr];exact Aa.out.trans ((Zk W6).mono Aa.out.size)
 have HD7:Hid (Held W7 A 29 #[.int .i64 0,.int .i64 0]):=by rw [Xr];exact HD6.out.drew
 rw [<-Xr];clear Xr;have x0:=HD7.out.at_ (j:=0) (v:=.int .i64 0) rfl;have x1:=HD7.out.at_ (j:=1) (v:=.int .i64 0) rfl;have e0:=HD7.out.frozen 0;have e1:=HD7.out.frozen 1;go_wp2_with fail;obtain ⟨W',hW',hH,hBel⟩:=Uw HD7.out Bv.out HA.out (.int .i64 3) (.int .i64 0);rw [<-hW'];have r0:W'.cell? ⟨A,0,none⟩=some (.int .i64 3):=hH.at_ rfl;have r1:W'.cell? ⟨A,1,none⟩=some (.int .i64 0):=hH.at_ rfl;clear hW' hH;exact bodyPost_ret (v:=.tuple #[.slice none 0 0,.agg #[.int .i64 3,.int .i64 0]]) (by simp [results,results9,go_sem,r0,r1]) rfl ⟨rfl,hBel⟩
def Qn7 (l:List UInt8):(Nat×Nat) ⊕ PS->Prop
 | .inl f=>f.1≠0/\(T l 0= .error f\/ ∃L,T l 0= .ok L/\Qs (.prog []) 0 ⟨L,[],[]⟩ (.error f))
 | .inr s=> ∃L ks,T l 0= .ok L/\Qs (.prog []) 0 ⟨L,[],[]⟩ (.ok (ks,s))
theorem Qn7.one {l:List UInt8}: ∀{r r':(Nat×Nat) ⊕ PS},Qn7 l r->Qn7 l r'->r=r'
 | .inl f,.inl f',h,h'=>by
  rcases h.2 with h1 |⟨L,h1,h2⟩
  ·rcases h'.2 with h3 |⟨L',h3,h4⟩
   ·rw [h1]at h3;injection h3 with h3;rw [h3]
   ·rw [h1]at h3;cases h3
  ·rcases h'.2 with h3 |⟨L',h3,h4⟩
   ·rw [h1]at h3;cases h3
   ·rw [h1]at h3;injection h3 with h3
    subst h3;have:=h2.one h4;injection this with this
    rw [this]
 | .inl f,.inr s,h,h'=>by
  obtain ⟨L',ks,h3,h4⟩:=h';rcases h.2 with h1 |⟨L,h1,h2⟩
  ·rw [h1]at h3;cases h3
  ·rw [h1]at h3;injection h3 with h3
   subst h3;have:=h2.one h4;cases this
 | .inr s,.inl f,h,h'=>by
  obtain ⟨L',ks,h3,h4⟩:=h;rcases h'.2 with h1 |⟨L,h1,h2⟩
  ·rw [h1]at h3;cases h3
  ·rw [h1]at h3;injection h3 with h3
   subst h3;have:=h2.one h4;cases this
 | .inr s,.inr s',h,h'=>by
  obtain ⟨L,ks,h1,h2⟩:=h;obtain ⟨L',ks',h3,h4⟩:=h';rw [h1]at h3;injection h3 with h3
  subst h3;have:=h2.one h4;injection this with this
  injection this with _ this
  rw [this]
def Wi4 (w':World) (e:Ending):(Nat×Nat) ⊕ PS->Prop
 | .inl f=>e= .returned (.tuple #[.slice none 0 0,.agg #[.int .i64 (f.1:Int),.int .i64 (f.2:Int)]])
 | .inr s=> ∃(l':List Nd) (a:Option Addr) (c n:Nat),e= .returned (.tuple #[.slice a n c,.agg #[.int .i64 0,.int .i64 0]])/\n=l'.length/\n<=100000/\Nodes w' a l'/\l'.map bare=s.l/\ ∀i,i<l'.length->(nd l' i).kids.length<=100000
theorem Quk {l:List UInt8} {w w':World} {e:Ending} (hlen:l.length<=65536) (h:PT l w e w'): ∃r,Qn7 l r/\Wi4 w' e r:=by
 rcases h.2 with ⟨x,q,hT,he⟩ |⟨L,v,hT,hr,h⟩
 ·exact ⟨.inl (x,q),⟨Qp9 hT,.inl hT⟩,he⟩
 ·rcases h with ⟨ks,s',l',a,c,rfl,he,hN,hb,hl⟩ |⟨x,q,rfl,hx,he⟩
  ·refine ⟨.inr s',⟨L,ks,hT,hr⟩,l',a,c,l'.length,he,rfl,hl,hN,hb,λi hi=> ?_⟩;have L9:=Qiq hT hlen;have ht:=Qfa (Qbp hT) L9.some hr;have hLL:=(Qgw hT).2;have hpl:=Qqg hr;have h1:(nd l' i).kids=(nd s'.l i).kids:=(by rw [<-hb,Qdf];rfl);rw [h1];have hi':i<s'.l.length:=(by rw [<-hb,Zr];exact hi);rw [Uv hi'];have:=ht.2.2.2.1 _ (F5 hi');omega
  ·exact ⟨.inl (x,q),⟨hx,.inr ⟨L,hT,hr⟩⟩,he⟩
theorem Q9a {a b:List Nd} (h:a.map bare=b.map bare):Al a b:=by
 have hl:a.length=b.length:=by have:=congrArg List.length h;simpa using this
 refine ⟨hl,λj _=> ?_⟩;have h1:bare (nd a j)=bare (nd b j):=by rw [<-Qdf,h,Qdf]
 unfold bare at h1;injection h1 with k0 _ _ k3 k4 k5 _
 exact ⟨k0,k4,by unfold Nd.t;rw [k5],k3⟩
theorem Wig {a b:List Nd} (h:a.map Zf=b.map Zf):Al a b:=by
 have hl:a.length=b.length:=by have:=congrArg List.length h;simpa using this
 have hc: ∀(l:List Nd) (i:Nat),i<l.length->(l.map Zf)[i]? =some (Zf (nd l i)):=λl i hi=>by rw [Ng,Y3 hi,Uv hi];rfl
 refine ⟨hl,λj hj=> ?_⟩;have h1:=hc a j hj;rw [h,hc b j (by omega)]at h1;injection h1 with h1
 unfold Zf at h1;injection h1 with k0 _ _ k3 k4 k5 _
 exact ⟨k0.symm,k4.symm,by unfold Nd.t;rw [k5],k3.symm⟩
theorem Wc9 (s:ByteArray) (w:World) (hP:Ir w) (hT:Qaw w):
  Calls prog 4 #[.string s] w λe w'=>e= .returned (.bool true)/\Below w.heap.size w w':=by
 have HP:=Qa hP;have HT:=Qa hT;clear hP hT;by_cases hs:1500<s.size
 ·have hsi:(1500:Int)<(s.size:Int):=by omega
  clear hs;go_enter func4,ntmps4;go_wp2_with fail;refine (Ql6 w HP.out).mono ?_;rintro e w1 ⟨rfl,hb⟩;have HB:=Qa hb;clear hb;go_wp2_with fail;go_ret;exact ⟨rfl,HB.out⟩
 ·have hsi: ¬(1500:Int)<(s.size:Int):=by omega
  have HP1:=Qa (Q55 s w HT.out (by omega));have Gl:=Qa (λw' (hb:Below w.heap.size w w')=>Wm4 s w' (HT.out.below hb).ex (by omega));have HLEN:Hid (s.data.toList.length<=65536):=by show _<=_;rw [Au];exact F7 (Nat.le_of_not_lt hs) (by omega)
  obtain ⟨l,hl⟩:=Qb s.data.toList;rw [<-hl]at HP1 Gl HLEN;clear hs hl;go_enter func4,ntmps4;rw [Qz 4,Qz 5,Qz 9,Qz 10,Qz 11];go_wp2_with fail;refine HP1.out.mono ?_;rintro e1 w1 ⟨h1,hc1⟩;obtain ⟨r,hr,ho⟩:=Quk HLEN.out h1;have HR:=Qa hr;have HB1:Hid (Below w.heap.size w w1):=h1.1;have HC1:=Qa hc1;clear h1 hr hc1 HP1;cases r with
  |inl f=>
   obtain ⟨x,q⟩:=f;have ho:e1= .returned (.tuple #[.slice none 0 0,.agg #[.int .i64 (x:Int),.int .i64 (q:Int)]]):=ho;subst ho;have hx0:((x:Int) != 0)=true:=(by have h:=HR.out.1;have h:x≠0:=h;simp;omega);go_wp2_with fail;obtain ⟨A2,hA2⟩:=Qb w1.heap.size;obtain ⟨W2,hW2⟩:=Qb (w1.alloc (.cells #[.int .i64 (x:Int),.int .i64 (q:Int)] 29));have HG2:Hid (Held W2 A2 29 #[.int .i64 (x:Int),.int .i64 (q:Int)]):=(by rw [hW2,hA2];exact Held.new _ _ _);have Qn0:Hid (Below w1.heap.size w1 W2):=(by rw [hW2];exact Qag);rw [<-hW2,<-hA2];clear hW2 hA2;have HB2:Hid (Below w.heap.size w W2):=HB1.out.trans (Qn0.out.mono HB1.out.size);refine Qn ?_;go_wp2_with fail;refine (Gl.out W2 HB2.out).mono ?_;intro e2 w3 h2;obtain ⟨r',hr',ho⟩:=Quk HLEN.out h2;obtain rfl:=hr'.one HR.out;have HB3:Hid (Below W2.heap.size W2 w3):=h2.1;have ho:e2= .returned (.tuple #[.slice none 0 0,.agg #[.int .i64 (x:Int),.int .i64 (q:Int)]]):=ho;subst ho;have V5:=Qa (HG2.out.since HB3.out);clear h2 hr';go_wp2_with fail;obtain ⟨A4,hA4⟩:=Qb w3.heap.size;obtain ⟨W4,Bt⟩:=Qb (w3.alloc (.cells #[.int .i64 (x:Int),.int .i64 (q:Int)] 29));have D6:Hid (Held W4 A4 29 #[.int .i64 (x:Int),.int .i64 (q:Int)]):=(by rw [Bt,hA4];exact Held.new _ _ _);have Qdv:Hid (Below w3.heap.size w3 W4):=(by rw [Bt];exact Qag);rw [<-Bt,<-hA4];clear Bt hA4;have Jf:Hid (Below w.heap.size w W4):=(HB2.out.trans (HB3.out.mono HB2.out.size)).trans (Qdv.out.mono (HB2.out.trans (HB3.out.mono HB2.out.size)).size);have HH:=Qa (V5.out.since Qdv.out);have y0:=HH.out.at_ (j:=0) (v:=.int .i64 (x:Int)) rfl;have y1:=HH.out.at_ (j:=1) (v:=.int .i64 (q:Int)) rfl;have z0:=D6.out.at_ (j:=0) (v:=.int .i64 (x:Int)) rfl;have z1:=D6.out.at_ (j:=1) (v:=.int .i64 (q:Int)) rfl;have HSN:Hid (Calls prog 12 #[.slice none 0 0,.slice none 0 0] W4 (Jr (Al [] []) W4)):=Qt0 none none 0 0 0 0 [] [] W4 rfl rfl (Q1v _) (Q1v _) (by decide) (by decide) (λi hi=>absurd hi (Nat.not_lt_zero i)) (λi hi=>absurd hi (Nat.not_lt_zero i));refine Qn ?_;go_wp2_with fail;refine HSN.out.mono ?_;rintro e w5 ⟨b,rfl,hiff,hb5⟩;obtain rfl:b=true:=hiff.2 ⟨rfl,λj _=>⟨rfl,rfl,rfl,rfl⟩⟩;have E5:Hid (Below w.heap.size w w5):=Jf.out.trans (hb5.mono Jf.out.size);have Ch:=Qa (HH.out.since hb5);clear hiff hb5 y0 y1 z0 z1;have y0:=Ch.out.at_ (j:=0) (v:=.int .i64 (x:Int)) rfl;go_wp2_with fail;refine (Ql6 w5 (HP.out.below E5.out)).mono ?_;rintro e w6 ⟨rfl,hb6⟩;have Br:Hid (Below w.heap.size w w6):=E5.out.trans (hb6.mono E5.out.size);clear hb6;go_wp2_with fail;go_ret;exact ⟨rfl,Br.out⟩
  |inr s1=>
   obtain ⟨l1,a1,c1,n1,rfl,hn1,hf1,hN1,Q58,hk1⟩:=ho;have hc1:n1<=c1:=HC1.out _ _ _ _ rfl;have HN1:=Qa hN1;have Ql3:=Qa hn1;have Qgc:=Qa Q58;have Qvc:=Qa hk1;clear hN1 hn1 Q58 hk1;go_wp2_with fail;obtain ⟨A2,hA2⟩:=Qb w1.heap.size;obtain ⟨W2,hW2⟩:=Qb (w1.alloc (.cells #[.int .i64 0,.int .i64 0] 29));have HG2:Hid (Held W2 A2 29 #[.int .i64 0,.int .i64 0]):=(by rw [hW2,hA2];exact Held.new _ _ _);have Qn0:Hid (Below w1.heap.size w1 W2):=(by rw [hW2];exact Qag);rw [<-hW2,<-hA2];clear hW2 hA2;have HB2:Hid (Below w.heap.size w W2):=HB1.out.trans (Qn0.out.mono HB1.out.size);refine Qn ?_;go_wp2_with fail;refine (Gl.out W2 HB2.out).mono ?_;intro e2 w3 h2;obtain ⟨r',hr',ho⟩:=Quk HLEN.out h2;obtain rfl:=hr'.one HR.out;have HB3:Hid (Below W2.heap.size W2 w3):=h2.1;obtain ⟨l2,a2,c2,n2,rfl,hn2,hf2,hN2,Q16,hk2⟩:=ho;have V5:=Qa (HG2.out.since HB3.out);have Q6b:=Qa ((HN1.out.below Qn0.out).below HB3.out);have HSN:Hid (∀w',Below w3.heap.size w3 w'->Calls prog 12 #[.slice a1 n1 c1,.slice a2 n2 c2] w' (Jr (Al l1 l2) w')):=λw' hb=>Qt0 a1 a2 c1 c2 n1 n2 l1 l2 w' Ql3.out hn2 (Q6b.out.below hb) (hN2.below hb) (by omega) (by omega) Qvc.out hk2;have G7:Hid (Al l1 l2):=Q9a (Qgc.out.trans Q16.symm);clear h2 hr' hn2 hf2 hN2 Q16 hk2;go_wp2_with fail;obtain ⟨A4,hA4⟩:=Qb w3.heap.size;obtain ⟨W4,Bt⟩:=Qb (w3.alloc (.cells #[.int .i64 0,.int .i64 0] 29));have D6:Hid (Held W4 A4 29 #[.int .i64 0,.int .i64 0]):=(by rw [Bt,hA4];exact Held.new _ _ _);have Qdv:Hid (Below w3.heap.size w3 W4):=(by rw [Bt];exact Qag);rw [<-Bt,<-hA4];clear Bt hA4;have Jf:Hid (Below w.heap.size w W4):=(HB2.out.trans (HB3.out.mono HB2.out.size)).trans (Qdv.out.mono (HB2.out.trans (HB3.out.mono HB2.out.size)).size);have Wdb:=Qa (Q6b.out.below Qdv.out);have HH:=Qa (V5.out.since Qdv.out);have y0:=HH.out.at_ (j:=0) (v:=.int .i64 0) rfl;have y1:=HH.out.at_ (j:=1) (v:=.int .i64 0) rfl;have z0:=D6.out.at_ (j:=0) (v:=.int .i64 0) rfl;have z1:=D6.out.at_ (j:=1) (v:=.int .i64 0) rfl;refine Qn ?_;go_wp2_with fail;refine (HSN.out W4 Qdv.out).mono ?_;rintro e w5 ⟨b,rfl,hiff,hb5⟩;obtain rfl:b=true:=hiff.2 G7.out;have E5:Hid (Below w.heap.size w w5):=Jf.out.trans (hb5.mono Jf.out.size);have Ch:=Qa (HH.out.since hb5);have Qyh:=Qa (Wdb.out.below hb5);clear hiff hb5 y0 y1 z0 z1;have y0:=Ch.out.at_ (j:=0) (v:=.int .i64 0) rfl;obtain ⟨L,ks,hTL,hPR⟩:=HR.out;obtain ⟨fs,hx,L',s',hag,hcore⟩:=Wn5 hTL hPR;obtain ⟨hR1,Qwt,_,_,Q3w⟩:=Qfa (Qbp hTL) (Qgw hTL).1 hPR;have hlen1:l1.length=s1.l.length:=(by rw [<-Qgc.out,Zr]);have hRl:Rt l1:=Q9p (by rw [Qgc.out];exact hR1);have hKl:(nd l1 (l1.length-1)).kind=26:=by have:=Qwt;rw [<-Qgc.out,Qdf,Zr]at this;exact this
   have hnl: ∀j,j<l1.length->(nd l1 j).n<=9223372036854775807:=by intro j hj;have h1:=Qui Q3w j (by rw [<-hlen1];exact hj);rw [<-Qgc.out,Qdf]at h1;exact h1
   have hcl:l1.map Zf=((Ko fs).out 0).map Zf:=(by rw [<-Q6w,Qgc.out,<-hcore];exact hag.nodes);have hxl:XR l1 ((l1.length-1:Nat):Int) fs:=by
    obtain ⟨fs',hx'⟩:=Qu4 hRl hKl hnl;have h1:Yb l1 (l1.length-1)= .pr fs:=Qri hRl.1.2.1 hcl;have h2:Yb l1 (l1.length-1)= .pr fs':=hx'.r;rw [h1]at h2;injection h2 with h2
    rw [h2];exact hx'
   have HWH:Hid (Wh l1):=⟨hRl,hKl⟩;have HXL:=Qa hxl;have HNU:=Qa hnl;have HAG:=Qa hag;have HCO:Hid (l1.map Zf=s'.l.map Zf):=hcl.trans hag.nodes.symm;have O7:Hid ((Xv fs).length<=3000000000000):=by have h1:(Ko fs).size=sz l1 (l1.length-1):=hxl.z;have h2:=Qlo hRl.1;have h3:Zg (fs.map Wm.part)+1=(Ko fs).size:=rfl;have h5:=Ql3.out;have h4:=Qsk fs 1000000 2000060 hxl.fin.fns (by omega) rfl;have h6:2000060*Zg (fs.map Wm.part)<=2000060*1000000:=Nat.mul_le_mul_left _ (by omega);show _<=_;omega
   obtain ⟨S,hS⟩:=Qb (⟨(Xv fs).toArray⟩:ByteArray);have HS:Hid (S.data.toList=Xv fs):=(by show _=_;rw [hS]);have hSz:S.size=(Xv fs).length:=(by rw [hS,Ad]);have K9:=Qa hSz;have Zj:=Qa hS;clear hTL hPR hx hag hcore hR1 Qwt Q3w hlen1 hRl hKl hnl hcl hxl hSz hS;go_wp2_with fail;refine Qn ?_;go_wp2_with fail;refine (Q19 a1 c1 n1 l1 w5 Ql3.out (by omega) hc1 Qyh.out (HP.out.below E5.out) HNU.out).mono ?_;rintro e w6 ⟨hb6,hcase⟩;have he:e= .returned (.tuple #[.string S,.bool true]):=by
    rcases hcase with ⟨_,fs',hX,h⟩ |⟨h,_⟩
    ·rw [h,Zj.out,HXL.out.one hX]
    ·exact absurd HWH.out h
   subst he;have Br:Hid (Below w.heap.size w w6):=E5.out.trans (hb6.mono E5.out.size);have We3:=Qa (Qyh.out.below hb6);clear hb6 hcase y0;go_wp2_with fail;by_cases hlong:S.size<=65536
   ·have HPP:=Qa (Wf4 HAG.out (by rw [<-K9.out];exact hlong) S HS.out w6 (HT.out.below Br.out));refine Qn ?_;go_wp2_with fail;refine HPP.out.mono ?_;rintro e w7 ⟨M4,m,am,cm,nm,rfl,hnm,hcm,hm1,hNm,hbm⟩;have Bv:Hid (Below w.heap.size w w7):=Br.out.trans (M4.mono Br.out.size);have Wo2:=Qa (We3.out.below M4);have HAM:Hid (Al l1 m):=Wig (by rw [HCO.out,<-hbm,Q6w]);have Wjg:Hid (∀w',Below w7.heap.size w7 w'->Calls prog 12 #[.slice a1 n1 c1,.slice am nm cm] w' (Jr (Al l1 m) w')):=λw' hb=>Qt0 a1 am c1 cm n1 nm l1 m w' Ql3.out hnm (Wo2.out.below hb) (hNm.below hb) (by omega) (by omega) Qvc.out (λi hi=>by have h1:=HAM.out.all i;have h2:(nd m i).kids=(nd l1 i).kids:=(by first |exact h1.kids |exact h1.2.2.2 |exact h1.2.2.2.symm);rw [h2];exact Qvc.out i (by have:=HAM.out.1;omega));clear M4 hnm hNm hbm HPP;go_wp2_with fail;obtain ⟨A8,Pn⟩:=Qb w7.heap.size;obtain ⟨W8,hW8⟩:=Qb (w7.alloc (.cells #[.int .i64 0,.int .i64 0] 29));have HG8:Hid (Held W8 A8 29 #[.int .i64 0,.int .i64 0]):=(by rw [hW8,Pn];exact Held.new _ _ _);have Qo7:Hid (Below w7.heap.size w7 W8):=(by rw [hW8];exact Qag);rw [<-hW8,<-Pn];clear hW8 Pn;have HB8:Hid (Below w.heap.size w W8):=Bv.out.trans (Qo7.out.mono Bv.out.size);have y0:=HG8.out.at_ (j:=0) (v:=.int .i64 0) rfl;refine Qn ?_;go_wp2_with fail;refine (Wjg.out W8 Qo7.out).mono ?_;rintro e w9 ⟨b,rfl,hiff,Fu⟩;obtain rfl:b=true:=hiff.2 HAM.out;have HB9:Hid (Below w.heap.size w w9):=HB8.out.trans (Fu.mono HB8.out.size);clear hiff Fu y0;go_wp2_with fail;refine (Ql6 w9 (HP.out.below HB9.out)).mono ?_;rintro e Ra ⟨rfl,Qjy⟩;have Qub:Hid (Below w.heap.size w Ra):=HB9.out.trans (Qjy.mono HB9.out.size);clear Qjy;go_wp2_with fail;go_ret;exact ⟨rfl,Qub.out⟩
   ·have Wd:(65536:Int)<(S.size:Int):=(by omega);have HPP:=Qa (Wi0 S w6 (by omega) (by have h1:=O7.out;have h2:=K9.out;omega));clear hlong;refine Qn ?_;go_wp2_with fail;refine HPP.out.mono ?_;rintro e w7 ⟨rfl,M4⟩;have Bv:Hid (Below w.heap.size w w7):=Br.out.trans (M4.mono Br.out.size);clear M4 HPP;go_wp2_with fail;obtain ⟨A8,Pn⟩:=Qb w7.heap.size;obtain ⟨W8,hW8⟩:=Qb (w7.alloc (.cells #[.int .i64 3,.int .i64 0] 29));have HG8:Hid (Held W8 A8 29 #[.int .i64 3,.int .i64 0]):=(by rw [hW8,Pn];exact Held.new _ _ _);have Qo7:Hid (Below w7.heap.size w7 W8):=(by rw [hW8];exact Qag);rw [<-hW8,<-Pn];clear hW8 Pn;have HB8:Hid (Below w.heap.size w W8):=Bv.out.trans (Qo7.out.mono Bv.out.size);have y0:=HG8.out.at_ (j:=0) (v:=.int .i64 3) rfl;refine Qn ?_;go_wp2_with fail;refine (Ql6 W8 (HP.out.below HB8.out)).mono ?_;rintro e Ra ⟨rfl,Qjy⟩;have Qub:Hid (Below w.heap.size w Ra):=HB8.out.trans (Qjy.mono HB8.out.size);clear Qjy;go_wp2_with fail;go_ret;exact ⟨rfl,Qub.out⟩
end
section
open Go.ChangeShapes Go.WideShapes Go.ChangeAt Go.RowKit Go.WideElems
open Go.ChangeMaps (open_string shut_string)
theorem Q94 (s:ByteArray) (w:World) (hT:Ir w/\Qaw w):
  Calls prog 4 #[.string s] w λe w'=>e= .returned (.bool true)/\Below w.heap.size w w':=Wc9 s w hT.1 hT.2
theorem Woi (os:Os) (started:os.Started) (H:Type) (enc:TypeId×Value->H):
  ReturnsInHanded {} Tryz.checked os 4 .any (λw args=>(Rows.proseAgainSpec.pre enc prog Tryz.f4 [] false w args/\laidMetH prog Bw w)/\sizedMet enc prog Tryz.f4 (OpenSpec.ofChange Rows.proseAgainSpec) false w args)
   (Rows.proseAgainSpec.post enc prog Tryz.f4 false true false false):=by
 refine returnsInHanded_of_change_and (C:=Tryz.checked) (X:=λw _=>laidMetH prog Bw w) (λ_ _ _ hh h=>h.of_heap hh) own started (by kernel_rfl) func4
  (ChangeSpec.witness_shaped (enc:=enc) (C:=Tryz.checked) (os:=os) (X:=λw _=>laidMetH prog Bw w) false (World.doorLaid prog 400 os) #[.string ⟨#[]⟩] 8 rfl (World.shaped_of_RefB (by kernel_rfl) (by kernel_rfl)) (by kernel_rfl) (by kernel_rfl) (by kernel_rfl) (Woe os _)) ?_;intro W base args ds gs before hval0 hW _ hz hL _;have hT:=Wff hL;have hval: ∀(j:Nat) t v,Tryz.f4.params[j]? =some t->args[j]? =some v->Value.okWide prog W .any base t v:=hval0;have hW':=hW;obtain ⟨p,q,hA0,hV,rfl,hfz,hnd⟩:=hW;have hA:DataW.TrodAll enc prog W 0 (λ_=>true) true Tryz.f4.params.toList args.toList ds p:=hA0;rw [Tryz.params4]at hA hval;obtain ⟨v0,vs0,d0,ds0,p0,q0,hargs,rfl,rfl,h0,r0⟩:=trodAll_cons hA;obtain ⟨rfl,rfl,rfl⟩:=trodAll_nil r0;obtain rfl:args= #[v0]:=by cases args;simp_all
 obtain ⟨rfl,rfl⟩:=trodVars_none hV;obtain ⟨a0,rfl,rfl,rfl,w0⟩:=open_string underlying9 (hval 0 9 v0 rfl rfl) h0;clear hA0 hval0;refine (Q94 a0 W hT).mono λe W' ⟨he,Ti⟩=> ?_;subst he;exact ⟨_,rfl,_,_,_,[],_,[],hW',trodAll_mk1 (shut_bool underlying4 _),(trodAll_cons_mk (shut_string underlying9 w0) trodAll_mk0),rfl,Ti.frame _,λh=>by cases h⟩
theorem Wiy:Rows.ProseAgainSaid:=
 OpenClaim.holds_of_wide 4 Tryz.f4 rfl rfl rfl rfl rfl rfl rfl ⟨rfl,rfl,rfl,rfl,rfl⟩ rfl rfl rfl rfl rfl (by kernel_rfl) func4 (by kernel_rfl)
  (of_decide_eq_true (by kernel_rfl)) (by unfold Func.isWrapper;first |(rw [Qk (by decide+kernel)];kernel_rfl) |(rw [Qd (by decide+kernel)];exact ⟨rfl,rfl⟩))
  (λos started H enc _=>Woi os started H enc)
theorem pagain_holds:Rows.ProseAgainCardSaid:=
 Claim7.holds_tied_plain_at .later [] [.data,.data,.data,.data,.data,.data,.data,.data,.data,.data,.data,.data,.data,.data,.data,.data] true Rows.proseAgainCard.stood.harness false
  Wiy (λ_ h=>by cases h) (by kernel_rfl) (λ_ h=>by cases h) proseAgain_row_tie rfl ⟨rfl,rfl⟩ (by kernel_rfl) rfl
  (λf fn hf hfn=>by
   obtain rfl:f=4:=Option.some.inj ((show prog.funcNamed "balustrade/balustradelaw09.ProseAgain" =some 4 by kernel_rfl).symm.trans hf) |>.symm;obtain rfl:fn=Tryz.f4:=(Option.some.inj (func4.symm.trans hfn)).symm;exact ⟨by kernel_rfl,λj t ht=>by rw [Tryz.params4]at ht;have hm:t∈[9]:=(by simpa using Array.mem_of_getElem? ht);have hall:([9].all λu=> !prog.wantsStandIn u)=true:=(by kernel_rfl);exact (show prog.wantsStandIn t=false by simpa using List.all_eq_true.1 hall t hm)⟩)
  (by kernel_rfl)
#print axioms pagain_holds
end
end Go.Proofs.YtdncpkkhkbijfaaGreatDoor
