import Derived.Test.YtdncpkkhkbijfaaGreatDoorBa11
set_option linter.all false
set_option maxHeartbeats 0
set_option maxRecDepth 100000
namespace Go.Proofs.YtdncpkkhkbijfaaGreatDoor
inductive Ex where
 |num (n:Nat)
 |bool (b:Bool)
 |nil
 |var (s:List UInt8)
 |bin (op:Nat) (a b:Ex)
 |neg (a:Ex)
 |not (a:Ex)
 |index (a b:Ex)
 |len (a:Ex)
 |new (a:Ex)
 |call (s:List UInt8) (xs:List Ex)
def stOp (op:Nat):Nat:=[0,1,2,3,3,3,3,3,3,4,4,4,4,5,5,5,5].getD op 0
def Ex.st:Ex->Nat
 | .bin op _ _=>stOp op
 | .neg _=>6
 | .not _=>6
 |_=>7
def Ld (op:Nat):Nat:=if stOp op=3 then 3 else stOp op-1
def brk {α:Type} (c:Bool) (x y:α) (t:List α):List α:=if c then x::t++[y]else t
mutual
def Ex.size:Ex->Nat
 | .bin _ a b=>a.size+b.size+1
 | .neg a=>a.size+1
 | .not a=>a.size+1
 | .index a b=>a.size+b.size+1
 | .len a=>a.size+1
 | .new a=>a.size+1
 | .call _ xs=>sizes xs+1
 |_=>1
def sizes:List Ex->Nat
 | []=>0
 |a::xs=>a.size+sizes xs
end
mutual
def Ex.toks:Ex->List (List UInt8)
 | .num n=>[Lib.itoa (n:Int)]
 | .bool b=>[if b then Bz else Cv]
 | .nil=>[Di]
 | .var s=>[s]
 | .bin op a b=>brk (decide (a.st<=Ld op)) lp rp a.toks++Xu.getD op []::brk (decide (b.st<=stOp op)) lp rp b.toks
 | .neg a=>minus::brk (decide (a.st<=5)) lp rp a.toks
 | .not a=>bang::brk (decide (a.st<=5)) lp rp a.toks
 | .index a b=>brk (decide (a.st<=6)) lp rp a.toks++lb::b.toks++[rb]
 | .len a=>Ky::lp::a.toks++[rp]
 | .new a=>Ah::lp::a.toks++[rp]
 | .call s xs=>s::lp::Vo true xs++[rp]
def Vo:Bool->List Ex->List (List UInt8)
 |_,[]=>[]
 |f,a::xs=>(if f then []else [comma])++a.toks++Vo false xs
end
mutual
def Ex.need:Ex->Nat
 | .bin op a b=>max (if a.st<=Ld op then a.need+1 else a.need) (if b.st<=stOp op then b.need+1 else b.need)
 | .neg a=>(if a.st<=5 then a.need+1 else a.need)+1
 | .not a=>(if a.st<=5 then a.need+1 else a.need)+1
 | .index a b=>max (if a.st<=6 then a.need+1 else a.need) (b.need+1)
 | .len a=>a.need+1
 | .new a=>a.need+1
 | .call _ xs=>needs xs+1
 |_=>0
def needs:List Ex->Nat
 | []=>0
 |a::xs=>max a.need (needs xs)
end
mutual
def Ex.ht:Ex->Nat
 | .bin _ a b=>max a.ht b.ht+1
 | .neg a=>a.ht+1
 | .not a=>a.ht+1
 | .index a b=>max a.ht b.ht+1
 | .len a=>a.ht+1
 | .new a=>a.ht+1
 | .call _ xs=>Bh xs+1
 |_=>1
def Bh:List Ex->Nat
 | []=>0
 |a::xs=>max a.ht (Bh xs)
end
mutual
def Ex.out:Ex->Nat->List Nd
 | .num n,_=>[En 1 [] (n:Int) ⟨#[]⟩ 0]
 | .bool c,_=>[En 2 [] (if c then 1 else 0) ⟨#[]⟩ 0]
 | .nil,_=>[En 3 [] 0 ⟨#[]⟩ 0]
 | .var s,_=>[En 4 [] 0 ⟨s.toArray⟩ 0]
 | .bin op a c,b=>a.out b++c.out (b+a.size)++[En 5 [((b+a.size-1:Nat):Int),((b+a.size+c.size-1:Nat):Int)] (op:Int) ⟨#[]⟩ 0]
 | .neg a,b=>a.out b++[En 6 [((b+a.size-1:Nat):Int)] 0 ⟨#[]⟩ 0]
 | .not a,b=>a.out b++[En 7 [((b+a.size-1:Nat):Int)] 0 ⟨#[]⟩ 0]
 | .index a c,b=>a.out b++c.out (b+a.size)++[En 8 [((b+a.size-1:Nat):Int),((b+a.size+c.size-1:Nat):Int)] 0 ⟨#[]⟩ 0]
 | .len a,b=>a.out b++[En 9 [((b+a.size-1:Nat):Int)] 0 ⟨#[]⟩ 0]
 | .new a,b=>a.out b++[En 10 [((b+a.size-1:Nat):Int)] 0 ⟨#[]⟩ 0]
 | .call s xs,b=>outs xs b++[En 11 (roots xs b) 0 ⟨s.toArray⟩ 0]
def outs:List Ex->Nat->List Nd
 | [],_=>[]
 |a::xs,b=>a.out b++outs xs (b+a.size)
def roots:List Ex->Nat->List Int
 | [],_=>[]
 |a::xs,b=>((b+a.size-1:Nat):Int)::roots xs (b+a.size)
end
mutual
def Ex.hts:Ex->List Nat
 | .bin op a c=>a.hts++c.hts++[(Ex.bin op a c).ht]
 | .neg a=>a.hts++[(Ex.neg a).ht]
 | .not a=>a.hts++[(Ex.not a).ht]
 | .index a c=>a.hts++c.hts++[(Ex.index a c).ht]
 | .len a=>a.hts++[(Ex.len a).ht]
 | .new a=>a.hts++[(Ex.new a).ht]
 | .call s xs=>Kn xs++[(Ex.call s xs).ht]
 |_=>[1]
def Kn:List Ex->List Nat
 | []=>[]
 |a::xs=>a.hts++Kn xs
end
def mkT (b:List UInt8):Tk:=⟨Bl (k0 b) b,b,Kv (k0 b) b,0⟩
mutual
def Ex.ok:Ex->Prop
 | .num n=>(mkT (Lib.itoa (n:Int))).kind=2/\(mkT (Lib.itoa (n:Int))).n=n
 | .bool _=>True
 | .nil=>True
 | .var s=>(mkT s).kind=1
 | .bin op a b=>1<=op/\op<=16/\a.ok/\b.ok
 | .neg a=>a.ok
 | .not a=>a.ok
 | .index a b=>a.ok/\b.ok
 | .len a=>a.ok
 | .new a=>a.ok
 | .call s xs=>(mkT s).kind=1/\xs.length<=8/\oks xs
def oks:List Ex->Prop
 | []=>True
 |a::xs=>a.ok/\oks xs
end
theorem Qlc: ∀e:Ex,1<=e.size:=λe=>by cases e<;>simp [Ex.size]
mutual
theorem Kh: ∀(e:Ex) (b:Nat),(e.out b).length=e.size
 | .num n,b=>rfl
 | .bool c,b=>rfl
 | .nil,b=>rfl
 | .var s,b=>rfl
 | .bin op a c,b=>by simp [Ex.out,Ex.size,Kh a,Kh c];omega
 | .neg a,b=>by simp [Ex.out,Ex.size,Kh a]
 | .not a,b=>by simp [Ex.out,Ex.size,Kh a]
 | .index a c,b=>by simp [Ex.out,Ex.size,Kh a,Kh c];omega
 | .len a,b=>by simp [Ex.out,Ex.size,Kh a]
 | .new a,b=>by simp [Ex.out,Ex.size,Kh a]
 | .call s xs,b=>by simp [Ex.out,Ex.size,Qgl xs]
theorem Qgl: ∀(xs:List Ex) (b:Nat),(outs xs b).length=sizes xs
 | [],b=>rfl
 |a::xs,b=>by simp [outs,sizes,Kh a,Qgl xs]
end
mutual
theorem Dy: ∀(e:Ex),e.hts.length=e.size
 | .num n=>rfl
 | .bool c=>rfl
 | .nil=>rfl
 | .var s=>rfl
 | .bin op a c=>by simp [Ex.hts,Ex.size,Dy a,Dy c];omega
 | .neg a=>by simp [Ex.hts,Ex.size,Dy a]
 | .not a=>by simp [Ex.hts,Ex.size,Dy a]
 | .index a c=>by simp [Ex.hts,Ex.size,Dy a,Dy c];omega
 | .len a=>by simp [Ex.hts,Ex.size,Dy a]
 | .new a=>by simp [Ex.hts,Ex.size,Dy a]
 | .call s xs=>by simp [Ex.hts,Ex.size,Q0h xs]
theorem Q0h: ∀(xs:List Ex),(Kn xs).length=sizes xs
 | []=>rfl
 |a::xs=>by simp [Kn,sizes,Dy a,Q0h xs]
end
theorem Q1l (e:Ex): ∃t,e.hts=t++[e.ht]:=by
 cases e with
 |num n=>exact ⟨[],rfl⟩
 |bool c=>exact ⟨[],rfl⟩
 |nil=>exact ⟨[],rfl⟩
 |var s=>exact ⟨[],rfl⟩
 |bin op a c=>exact ⟨_,rfl⟩
 |neg a=>exact ⟨_,rfl⟩
 |not a=>exact ⟨_,rfl⟩
 |index a c=>exact ⟨_,rfl⟩
 |len a=>exact ⟨_,rfl⟩
 |new a=>exact ⟨_,rfl⟩
 |call s xs=>exact ⟨_,rfl⟩
theorem Qtf (e:Ex) (h r:List Nat):(h++e.hts++r).getD (h.length+e.size-1) 0=e.ht:=by obtain ⟨t,ht⟩:=Q1l e;have hl:=Dy e;rw [ht,Qf,Yw]at hl;have hp:=Qlc e;rw [ht,Yc,Qy,Qy,Ht (by omega),Ht (by omega)];rw [show h.length+e.size-1-h.length-t.length=0 by omega];rfl
theorem Wqw: ∀e:Ex,1<=e.ht:=λe=>by cases e<;>simp [Ex.ht]
section
def Qr (bs:List (List UInt8)):List Tk:=bs.map mkT
variable {d lv:Nat}{s s1:PS}{v:Out}{k:Int}{rest:List Tk}{l:List Nd}{h:List Nat}
theorem Wn (b:List UInt8) (bs:List (List UInt8)) (rest:List Tk):Qr (b::bs)++rest=mkT b::(Qr bs++rest):=rfl
theorem Zd (a b:List (List UInt8)) (rest:List Tk):Qr (a++b)++rest=Qr a++(Qr b++rest):=by unfold Qr;rw [Zp,Qy]
structure Clean (lv:Nat) (t:Tk):Prop where
 op: ∀j,lv<j->j<5->opAt j t=none
 lb:sees t lb=false
 lp:sees t lp=false
theorem Clean.up {lv m:Nat} {t:Tk} (h:Clean lv t) (hm:lv<=m):Clean m t:=⟨λj h1 h2=>h.op j (by omega) h2,h.lb,h.lp⟩
theorem Qs5: ∀(m lv:Nat),lv<m->m<=5->Reads (.chain m) d s (.ok ([k],s1))->(∀j,lv<j->j<m->opAt j s1.tok=none)->Reads (.loop lv k) d s1 v->Reads (.chain lv) d s v
 | 0,lv,h,_,_,_,_=>by omega
 |m+1,lv,h1,h2,h3,h4,h5=>by
  by_cases e:lv=m
  ·subst e;exact Reads.chain (by omega) h3 h5
  ·exact Qs5 m lv (by omega) (by omega) (Reads.chain (by omega) h3 (Reads.Qa7 (h4 m (by omega) (by omega)))) (λj h6 h7=>h4 j h6 (by omega)) h5
theorem Q7o (hlv:lv<5) (h1:Reads .front d s (.ok ([k],s1))) (hc: ∀j,lv<j->j<5->opAt j s1.tok=none) (g:Reads (.loop lv k) d s1 v):Reads (.chain lv) d s v:=
 Qs5 5 lv hlv (Qh _) (Reads.Qlb h1) hc g
theorem Q0e (hm:s.is minus=false) (hb:s.is bang=false) (h1:Reads .single d s (.ok ([k],s1))) (hl:s1.is lb=false):Reads .front d s (.ok ([k],s1)):=
 Reads.Qjx hm hb (Reads.idx h1 (Reads.Qie hl))
def Xt (e:Ex) (rest:List Tk) (l:List Nd) (h:List Nat):PS:=⟨rest,l++e.out l.length,h++e.hts⟩
def rootOf (e:Ex) (l:List Nd):Int:=((l.length+e.size-1:Nat):Int)
theorem Qhq {x:Nd} {s:PS} {t:Nat} (ht:high s.h x.kids=t) (h2:t<=200):lay x s= .ok ([(s.l.length:Int)],⟨s.r,s.l++[x],s.h++[t]⟩):=by unfold lay;rw [ht,Qd (by omega)]
theorem Wjj {h:List Nat} {a:Nat} (ha:a<h.length):high h [(a:Int)]=max 1 (h.getD a 0+1):=by unfold high;simp only [List.foldl];unfold hstep;rw [Qk ⟨by omega,by omega⟩,Ja]
theorem Q9w {h:List Nat} {a b:Nat} (ha:a<h.length) (hb:b<h.length):high h [(a:Int),(b:Int)]=max (max 1 (h.getD a 0+1)) (h.getD b 0+1):=by unfold high;simp only [List.foldl];unfold hstep;rw [Qk ⟨by omega,by omega⟩,Qk ⟨by omega,by omega⟩,Ja,Ja]
def RdU (e:Ex) (lv:Nat):Prop:= ∀(d:Nat) (l:List Nd) (h:List Nat) (rest:List Tk) (v:Out),h.length=l.length->d+e.need<=200->e.ht<=200->Clean lv (Xt e rest l h).tok->(lv=2->e.st=3->opAt 2 (Xt e rest l h).tok=none)->
 Reads (.loop lv (rootOf e l)) d (Xt e rest l h) v->Reads (.chain lv) d ⟨Qr e.toks++rest,l,h⟩ v
theorem Qtj {e:Ex} (hU:RdU e 0) (hst:0<e.st) (hh:h.length=l.length) (hn:d+(e.need+1)<=200) (ht:e.ht<=200) (rest:List Tk):Reads .single d ⟨Qr (lp::e.toks++[rp])++rest,l,h⟩ (.ok ([rootOf e l],Xt e rest l h)):=by
 rw [show lp::e.toks++[rp]=lp::(e.toks++[rp])from rfl,Wn,Zd];have Tf:(Xt e (Qr [rp]++rest) l h).tok=mkT rp:=rfl;have h1:Reads (.chain 0) (d+1) ⟨Qr e.toks++(Qr [rp]++rest),l,h⟩ (.ok ([rootOf e l],Xt e (Qr [rp]++rest) l h)):=by
  refine hU (d+1) l h (Qr [rp]++rest) _ hh (by omega) ht ?_ (λe=>by cases e) (Reads.Qa7 ?_)
  ·rw [Tf];exact ⟨λj h1 h2=>(by match j,h2 with | 0,_ | 1,_ | 2,_ | 3,_ | 4,_=>rfl),rfl,rfl⟩
  ·rw [Tf];rfl
 exact Reads.Qw2 rfl (Reads.Qcu (a:=lp) (b:=rp) (s:=⟨mkT lp::(Qr e.toks++(Qr [rp]++rest)),l,h⟩) rfl (by omega) h1 rfl)
def RdF (e:Ex):Prop:= ∀(d:Nat) (l:List Nd) (h:List Nat) (rest:List Tk),h.length=l.length->d+e.need<=200->e.ht<=200->sees (Xt e rest l h).tok lb=false->sees (Xt e rest l h).tok lp=false->
 Reads .front d ⟨Qr e.toks++rest,l,h⟩ (.ok ([rootOf e l],Xt e rest l h))
def RdI (e:Ex):Prop:= ∀(d:Nat) (l:List Nd) (h:List Nat) (rest:List Tk) (v:Out),h.length=l.length->d+e.need<=200->e.ht<=200->sees (Xt e rest l h).tok lp=false->
 Reads (.more (rootOf e l)) d (Xt e rest l h) v->Reads .idx d ⟨Qr e.toks++rest,l,h⟩ v
structure Head (e:Ex):Prop where
 rp: ∀(rest:List Tk) (l:List Nd) (h:List Nat),(⟨Qr e.toks++rest,l,h⟩:PS).is rp=false
 mi:7<=e.st-> ∀(rest:List Tk) (l:List Nd) (h:List Nat),(⟨Qr e.toks++rest,l,h⟩:PS).is minus=false/\(⟨Qr e.toks++rest,l,h⟩:PS).is bang=false
structure Zm (e:Ex):Prop where
 u: ∀lv,lv<5->lv<e.st->RdU e lv
 f:6<=e.st->RdF e
 i:e.st=7->RdI e
 hd:Head e
 pos:0<e.st
theorem Et {t:Tk} {a:List UInt8} (h:t.kind=1\/t.kind=2):sees t a=false:=by unfold sees;rcases h with h |h<;>rw [h]<;>rfl
theorem Wfi {t:Tk} (h:t.kind=2):sg t=7:=by unfold sg;have h0: ∀a,sees t a=false:=λa=>Et (.inr h);rw [h0,h0,h0,h0,h0,h0,Qd (by decide),Qd (by decide),Qd (by decide),Qd (by decide),Qd (by decide),Qd (by decide),Qk h]
theorem Q7y {t:Tk} (h:t.kind=1):sg t=8:=by unfold sg;have h0: ∀a,sees t a=false:=λa=>Et (.inl h);rw [h0,h0,h0,h0,h0,h0,Qd (by decide),Qd (by decide),Qd (by decide),Qd (by decide),Qd (by decide),Qd (by decide),Qd (by omega),Qk h]
theorem Qtx {e:Ex} (h:RdF e): ∀lv,lv<5->RdU e lv:=λlv hlv d l hh rest v h1 h2 h3 hc _ g=>Q7o hlv (h d l hh rest h1 h2 h3 hc.lb hc.lp) (λj h4 h5=>hc.op j h4 h5) g
theorem Qyx {e:Ex} (h:RdI e) (hm: ∀(rest:List Tk) (l:List Nd) (h:List Nat),(⟨Qr e.toks++rest,l,h⟩:PS).is minus=false/\(⟨Qr e.toks++rest,l,h⟩:PS).is bang=false):RdF e:=λd l hh rest h1 h2 h3 hb hp=>
 Reads.Qjx (hm rest l hh).1 (hm rest l hh).2 (h d l hh rest _ h1 h2 h3 hp (Reads.Qie hb))
def RdS (e:Ex):Prop:= ∀(d:Nat) (l:List Nd) (h:List Nat) (rest:List Tk),h.length=l.length->d+e.need<=200->e.ht<=200->sees (Xt e rest l h).tok lp=false->
 Reads .single d ⟨Qr e.toks++rest,l,h⟩ (.ok ([rootOf e l],Xt e rest l h))
theorem Qvh {e:Ex} (h7:e.st=7) (h:RdS e) (hd:Head e):Zm e:=by have hI:RdI e:=λd l hh rest v h1 h2 h3 hp g=>Reads.idx (h d l hh rest h1 h2 h3 hp) g;have hF:=Qyx hI (hd.mi (by omega));exact ⟨λlv h1 _=>Qtx hF lv h1,λ_=>hF,λ_=>hI,hd,by omega⟩
theorem Q3a {e:Ex} (H:Zm e) {c:Bool} {lv:Nat} (hlv:lv<5) (hc:c=false->lv<e.st) {d:Nat} {l:List Nd} {h:List Nat} {rest:List Tk} {v:Out} (hh:h.length=l.length) (hn:d+(if c then e.need+1 else e.need)<=200) (ht:e.ht<=200) (hcl:Clean lv (Xt e rest l h).tok) (h3:c=false->lv=2->e.st=3->opAt 2 (Xt e rest l h).tok=none)
  (g:Reads (.loop lv (rootOf e l)) d (Xt e rest l h) v):Reads (.chain lv) d ⟨Qr (brk c lp rp e.toks)++rest,l,h⟩ v:=by
 cases c with
 |true=>
  have h1:=Qtj (H.u 0 (by omega) H.pos) H.pos hh hn ht rest;exact Q7o hlv (Q0e rfl rfl h1 hcl.lb) (λj h4 h5=>hcl.op j h4 h5) g
 |false=>exact H.u lv hlv (hc rfl) d l h rest v hh hn ht hcl (h3 rfl) g
theorem Qy4 {e:Ex} (H:Zm e) {c:Bool} (hc:c=false->6<=e.st) {d:Nat} {l:List Nd} {h:List Nat} {rest:List Tk} (hh:h.length=l.length) (hn:d+(if c then e.need+1 else e.need)<=200) (ht:e.ht<=200) (hb:sees (Xt e rest l h).tok lb=false) (hp:sees (Xt e rest l h).tok lp=false):
  Reads .front d ⟨Qr (brk c lp rp e.toks)++rest,l,h⟩ (.ok ([rootOf e l],Xt e rest l h)):=by
 cases c with
 |true=>exact Q0e rfl rfl (Qtj (H.u 0 (by omega) H.pos) H.pos hh hn ht rest) hb
 |false=>exact H.f (hc rfl) d l h rest hh hn ht hb hp
theorem Q1w: ∀op,op<17->1<=op->opAt (stOp op-1) (mkT (Xu.getD op []))=some op/\(∀j,j<5->j≠stOp op-1->opAt j (mkT (Xu.getD op []))=none)/\sees (mkT (Xu.getD op [])) lb=false/\sees (mkT (Xu.getD op [])) lp=false/\1<=stOp op/\stOp op<=5:=by decide+kernel
theorem Qyo (a:Ex) {h:List Nat} {l:List Nd} (hh:h.length=l.length) (r:List Nat):(h++a.hts++r).getD (l.length+a.size-1) 0=a.ht:=by rw [<-hh];exact Qtf a h r
theorem Q40 {a c:Ex} {K n:Int} {e:Ex} {l:List Nd} {h:List Nat} {rest:List Tk} (hh:h.length=l.length) (ht:e.ht<=200) (hte:e.ht=max a.ht c.ht+1) (hs:e.size=a.size+c.size+1) (ho:e.out l.length=a.out l.length++c.out (l.length+a.size)++[En K [((l.length+a.size-1:Nat):Int),((l.length+a.size+c.size-1:Nat):Int)] n ⟨#[]⟩ 0]) (Vz:e.hts=a.hts++c.hts++[e.ht]):
  lay (En K [rootOf a l,rootOf c (l++a.out l.length)] n ⟨#[]⟩ 0) (Xt c rest (l++a.out l.length) (h++a.hts))= .ok ([rootOf e l],Xt e rest l h):=by
 have e1:(l++a.out l.length).length=l.length+a.size:=by rw [Qf,Kh]
 have pa:=Qlc a;have pc:=Qlc c;have r1:rootOf c (l++a.out l.length)=((l.length+a.size+c.size-1:Nat):Int):=by unfold rootOf;rw [e1]
 rw [r1];have hlen:(h++a.hts++c.hts).length=l.length+a.size+c.size:=by rw [Qf,Qf,Dy,Dy,hh]
 have g1:(h++a.hts++c.hts).getD (l.length+a.size-1) 0=a.ht:=Qyo a hh c.hts;have g2:(h++a.hts++c.hts).getD (l.length+a.size+c.size-1) 0=c.ht:=by have:=Qtf c (h++a.hts) [];rw [Xe,Qf,Dy,hh]at this;exact this
 have hp:=Wqw a;have hH:high (Xt c rest (l++a.out l.length) (h++a.hts)).h (En K [rootOf a l,((l.length+a.size+c.size-1:Nat):Int)] n ⟨#[]⟩ 0).kids=e.ht:=by show high (h++a.hts++c.hts) [((l.length+a.size-1:Nat):Int),((l.length+a.size+c.size-1:Nat):Int)]=e.ht;rw [Q9w (by omega) (by omega),g1,g2,hte];omega
 rw [Qhq hH ht];unfold Xt rootOf;have e2:(l++a.out l.length++c.out (l++a.out l.length).length).length=l.length+e.size-1:=by rw [Qf,e1,Kh];omega
 rw [e2,ho,Vz,e1];simp only [Qy]
theorem Q29 {a:Ex} {K:Int} {e:Ex} {l:List Nd} {h:List Nat} {rest rest':List Tk} (hh:h.length=l.length) (ht:e.ht<=200) (hte:e.ht=a.ht+1) (hs:e.size=a.size+1) (ho:e.out l.length=a.out l.length++[En K [((l.length+a.size-1:Nat):Int)] 0 ⟨#[]⟩ 0]) (Vz:e.hts=a.hts++[e.ht]):
  lay (En K [rootOf a l] 0 ⟨#[]⟩ 0) ⟨rest,l++a.out l.length,h++a.hts⟩= .ok ([rootOf e l],Xt e rest l h):=by
 have e1:(l++a.out l.length).length=l.length+a.size:=by rw [Qf,Kh]
 have pa:=Qlc a;have hlen:(h++a.hts).length=l.length+a.size:=by rw [Qf,Dy,hh]
 have g1:(h++a.hts).getD (l.length+a.size-1) 0=a.ht:=by have:=Qyo a hh [];rw [Xe]at this;exact this
 have hH:high (⟨rest,l++a.out l.length,h++a.hts⟩:PS).h (En K [rootOf a l] 0 ⟨#[]⟩ 0).kids=e.ht:=by show high (h++a.hts) [((l.length+a.size-1:Nat):Int)]=e.ht;rw [Wjj (by omega),g1,hte];omega
 rw [Qhq hH ht];unfold Xt rootOf;rw [show (⟨rest,l++a.out l.length,h++a.hts⟩:PS).l.length=l.length+e.size-1 by show (l++a.out l.length).length=_;omega,ho,Vz];simp only [Qy]
theorem War {op:Nat} (h17:op<17) (h1:1<=op) {lv:Nat} (hlv:stOp op-1<=lv):Clean lv (mkT (Xu.getD op [])):=by obtain ⟨_,h2,h3,h4,h5,h6⟩:=Q1w op h17 h1;exact ⟨λj h7 h8=>h2 j h8 (by omega),h3,h4⟩
theorem Q8c {e:Ex} (H:Head e) (c:Bool) (rest:List Tk) (l:List Nd) (h:List Nat):(⟨Qr (brk c lp rp e.toks)++rest,l,h⟩:PS).is rp=false:=by
 cases c with
 |true=>rfl
 |false=>exact H.rp rest l h
theorem Wjz {op:Nat} {a c:Ex} (h1:1<=op) (h16:op<=16) (ha:Zm a) (hc:Zm c):Zm (.bin op a c):=by
 obtain ⟨o1,o2,o3,o4,o5,o6⟩:=Q1w op (by omega) h1;have hst:(Ex.bin op a c).st=stOp op:=rfl;have key: ∀(d:Nat) (l:List Nd) (h:List Nat) (rest:List Tk) (v:Out),h.length=l.length->d+(Ex.bin op a c).need<=200->(Ex.bin op a c).ht<=200->Clean (stOp op-1) (⟨rest,l,h⟩:PS).tok->(stOp op=3->opAt 2 (⟨rest,l,h⟩:PS).tok=none)->
   Reads (.loop (stOp op-1) (rootOf (.bin op a c) l)) d (Xt (.bin op a c) rest l h) v->Reads (.chain (stOp op-1)) d ⟨Qr (Ex.bin op a c).toks++rest,l,h⟩ v:=by
  intro d l h rest v hh hn ht hcl h3 g;have hn1:d+(if decide (a.st<=Ld op)=true then a.need+1 else a.need)<=200:=by have:=hn;simp only [Ex.need]at this;simp only [Wt];omega
  have hn2:d+(if decide (c.st<=stOp op)=true then c.need+1 else c.need)<=200:=by have:=hn;simp only [Ex.need]at this;simp only [Wt];omega
  have hte:(Ex.bin op a c).ht=max a.ht c.ht+1:=by simp only [Ex.ht]
  rw [show (Ex.bin op a c).toks=brk (decide (a.st<=Ld op)) lp rp a.toks++Xu.getD op []::brk (decide (c.st<=stOp op)) lp rp c.toks by simp only [Ex.toks],Zd,Wn];refine Q3a ha (by omega) ?_ hh hn1 (by omega) ?_ ?_ ?_
  ·intro hf;have hf:=of_decide_eq_false hf;unfold Ld at hf;split at hf<;>omega
  ·exact War (by omega) h1 (Qh _)
  ·intro hf h2 hs;have hf:=of_decide_eq_false hf;unfold Ld at hf;rw [Qk (by omega)]at hf;omega
  ·have Y2:=Q40 (a:=a) (c:=c) (K:=5) (n:=(op:Int)) (e:=.bin op a c) (rest:=rest) hh ht hte (by simp only [Ex.size]) (by simp only [Ex.out]) (by simp only [Ex.hts]);have hl2:(h++a.hts).length=(l++a.out l.length).length:=(by rw [Qf,Qf,Dy,Kh,hh]);have hcc:Reads (.chain (stOp op-1+1)) d ⟨Qr (brk (decide (c.st<=stOp op)) lp rp c.toks)++rest,l++a.out l.length,h++a.hts⟩ (.ok ([rootOf c (l++a.out l.length)],Xt c rest (l++a.out l.length) (h++a.hts))):=by
    by_cases h5:stOp op=5
    ·rw [show stOp op-1+1=5 by omega];refine Reads.Qlb (Qy4 hc ?_ hl2 hn2 (by omega) hcl.lb hcl.lp);intro hf;have hf:=of_decide_eq_false hf;omega
    ·refine Q3a hc (by omega) ?_ hl2 hn2 (by omega) ?_ ?_ ?_
     ·intro hf;have hf:=of_decide_eq_false hf;omega
     ·exact Clean.up (t:=(⟨rest,l,h⟩:PS).tok) hcl (by omega)
     ·intro _ h2 _;exact hcl.op 2 (by omega) (by omega)
     ·exact Reads.Qa7 (hcl.op _ (by omega) (by omega))
   by_cases hs3:stOp op=3
   ·have hv:v= .ok ([rootOf (.bin op a c) l],Xt (.bin op a c) rest l h):=by rw [hs3]at g;exact g.one (Reads.Qa7 (h3 hs3))
    rw [hv];exact Reads.Qno (by omega) o1 hcc Y2
   ·exact Reads.Qly (by omega) o1 hcc Y2 g
 refine ⟨λlv h5 hlt d l h rest v hh hn ht hcl h3 g=> ?_,λh=>by rw [hst]at h;omega,λh=>by rw [hst]at h;omega,⟨λrest l h=> ?_,λh=>by rw [hst]at h;omega⟩,by rw [hst];omega⟩
 ·rw [hst]at hlt h3;by_cases hlv:lv=stOp op-1
  ·subst hlv;exact key d l h rest v hh hn ht hcl (λh=>h3 (by omega) h) g
  ·refine Qs5 (stOp op-1) lv (by omega) (by omega) (key d l h rest _ hh hn ht (Clean.up (t:=(⟨rest,l,h⟩:PS).tok) hcl (by omega)) (λh=>hcl.op 2 (by omega) (by omega)) (Reads.Qa7 (hcl.op _ (by omega) (by omega)))) (λj h6 h7=>hcl.op j h6 (by omega)) g
 ·rw [show (Ex.bin op a c).toks=brk (decide (a.st<=Ld op)) lp rp a.toks++Xu.getD op []::brk (decide (c.st<=stOp op)) lp rp c.toks by simp only [Ex.toks],Zd];exact Q8c ha.hd _ _ _ _
theorem Q8n {a e:Ex} {b:List UInt8} {K:Int} (hb:(b=minus/\K=6)\/(b=bang/\K=7)) (h6:e.st=6) (htk:e.toks=b::brk (decide (a.st<=5)) lp rp a.toks) (hnd:e.need=(if a.st<=5 then a.need+1 else a.need)+1) (hte:e.ht=a.ht+1) (hs:e.size=a.size+1) (ho: ∀n,e.out n=a.out n++[En K [((n+a.size-1:Nat):Int)] 0 ⟨#[]⟩ 0]) (Vz:e.hts=a.hts++[e.ht]) (ha:Zm a):Zm e:=by
 have hF:RdF e:=by
  intro d l h rest hh hn ht hlb hlp;rw [htk,Wn];have hn2:(d+1)+(if decide (a.st<=5)=true then a.need+1 else a.need)<=200:=by rw [hnd]at hn;simp only [Wt];omega
  have hk:=Qy4 ha (c:=decide (a.st<=5)) (λhf=>by have hf:=of_decide_eq_false hf;omega) hh hn2 (by omega) (rest:=rest) hlb hlp;have Y2:=Q29 (a:=a) (K:=K) (e:=e) (rest:=rest) (rest':=rest) hh ht hte hs (ho _) Vz;rcases hb with ⟨rfl,rfl⟩ |⟨rfl,rfl⟩
  ·have h1:=Reads.Qrw (s:=⟨mkT minus::(Qr (brk (decide (a.st<=5)) lp rp a.toks)++rest),l,h⟩) (d:=d) (.inl rfl) (by omega) hk;rw [show (En (if (⟨mkT minus::(Qr (brk (decide (a.st<=5)) lp rp a.toks)++rest),l,h⟩:PS).is minus then 6 else 7) [rootOf a l] 0 ⟨#[]⟩ ((⟨mkT minus::(Qr (brk (decide (a.st<=5)) lp rp a.toks)++rest),l,h⟩:PS).tok.place:Int))=En 6 [rootOf a l] 0 ⟨#[]⟩ 0 from rfl]at h1;have h2:lay (En 6 [rootOf a l] 0 ⟨#[]⟩ 0) (Xt a rest l h)=_:=Y2;rw [h2]at h1;exact h1
  ·have h1:=Reads.Qrw (s:=⟨mkT bang::(Qr (brk (decide (a.st<=5)) lp rp a.toks)++rest),l,h⟩) (d:=d) (.inr rfl) (by omega) hk;rw [show (En (if (⟨mkT bang::(Qr (brk (decide (a.st<=5)) lp rp a.toks)++rest),l,h⟩:PS).is minus then 6 else 7) [rootOf a l] 0 ⟨#[]⟩ ((⟨mkT bang::(Qr (brk (decide (a.st<=5)) lp rp a.toks)++rest),l,h⟩:PS).tok.place:Int))=En 7 [rootOf a l] 0 ⟨#[]⟩ 0 from rfl]at h1;have h2:lay (En 7 [rootOf a l] 0 ⟨#[]⟩ 0) (Xt a rest l h)=_:=Y2;rw [h2]at h1;exact h1
 refine ⟨λlv h1 _=>Qtx hF lv h1,λ_=>hF,λh=>by omega,⟨λrest l h=> ?_,λh=>by omega⟩,by omega⟩;rw [htk,Wn];rcases hb with ⟨rfl,_⟩ |⟨rfl,_⟩<;>rfl
end
section
variable {d lv:Nat}{s s1:PS}{v:Out}{k:Int}{rest:List Tk}{l:List Nd}{h:List Nat}
theorem Whp {x:Nd} {s:PS} (hx:x.kids=[]):lay x s= .ok ([(s.l.length:Int)],⟨s.r,s.l++[x],s.h++[1]⟩):=Qhq (by rw [hx];rfl) (by omega)
theorem Qii {e:Ex} {b:List UInt8} {x:Nd} (h7:e.st=7) (htk:e.toks=[b]) (hs:e.size=1) (ho: ∀n,e.out n=[x]) (Vz:e.hts=[1]) (hx:x.kids=[]) (hm:sees (mkT b) minus=false) (hb:sees (mkT b) bang=false) (hr:sees (mkT b) rp=false)
  (hrd: ∀(d:Nat) (l:List Nd) (h:List Nat) (rest:List Tk),sees (⟨rest,l,h⟩:PS).tok lp=false->Reads .single d ⟨mkT b::rest,l,h⟩ (lay x ⟨rest,l,h⟩)):Zm e:=by
 refine Qvh h7 (λd l h rest hh hn ht hp=> ?_) ⟨λrest l h=> ?_,λ_ rest l h=>⟨?_,?_⟩⟩
 ·rw [htk,Wn];have h1:=hrd d l h rest hp;rw [Whp hx]at h1;unfold Xt rootOf;rw [hs,ho,Vz];exact h1
 ·rw [htk,Wn];exact hr
 ·rw [htk,Wn];exact hm
 ·rw [htk,Wn];exact hb
theorem Wck {n:Nat} (h:(Ex.num n).ok):Zm (.num n):=by have h:(mkT (Lib.itoa (n:Int))).kind=2/\(mkT (Lib.itoa (n:Int))).n=n:=h;refine Qii (x:=En 1 [] (n:Int) ⟨#[]⟩ 0) rfl rfl rfl (λ_=>rfl) rfl rfl (Et (.inr h.1)) (Et (.inr h.1)) (Et (.inr h.1)) (λd l hh rest _=> ?_);have h1:=Reads.Qss (s:=⟨mkT (Lib.itoa (n:Int))::rest,l,hh⟩) (d:=d) (Wfi h.1);rw [show ((⟨mkT (Lib.itoa (n:Int))::rest,l,hh⟩:PS).tok.n:Int)=(n:Int) by show (((mkT (Lib.itoa (n:Int))).n:Nat):Int)=_;rw [h.2]]at h1;exact h1
theorem Wmk (c:Bool):Zm (.bool c):=by
 cases c with
 |true=>exact Qii (b:=Bz) (x:=En 2 [] 1 ⟨#[]⟩ 0) rfl rfl rfl (λ_=>rfl) rfl rfl rfl rfl rfl (λd l hh rest _=>Reads.Qsj (s:=⟨mkT Bz::rest,l,hh⟩) (d:=d) rfl)
 |false=>exact Qii (b:=Cv) (x:=En 2 [] 0 ⟨#[]⟩ 0) rfl rfl rfl (λ_=>rfl) rfl rfl rfl rfl rfl (λd l hh rest _=>Reads.Qs1 (s:=⟨mkT Cv::rest,l,hh⟩) (d:=d) rfl)
theorem Wnd:Zm .nil:=Qii (b:=Di) (x:=En 3 [] 0 ⟨#[]⟩ 0) rfl rfl rfl (λ_=>rfl) rfl rfl rfl rfl rfl (λd l hh rest _=>Reads.Qrl (s:=⟨mkT Di::rest,l,hh⟩) (d:=d) rfl)
theorem Woo {t:List UInt8} (h:(mkT t).kind=1):Zm (.var t):=Qii (b:=t) (x:=En 4 [] 0 ⟨t.toArray⟩ 0) rfl rfl rfl (λ_=>rfl) rfl rfl (Et (.inl h)) (Et (.inl h)) (Et (.inl h)) (λd l hh rest hp=>Reads.Qmz (s:=⟨mkT t::rest,l,hh⟩) (d:=d) (Q7y h) hp)
theorem Wjc {a:Ex} (ha:Zm a):Zm (.neg a):=Q8n (b:=minus) (K:=6) (.inl ⟨rfl,rfl⟩) rfl (by simp only [Ex.toks]) (by simp only [Ex.need]) (by simp only [Ex.ht]) (by simp only [Ex.size]) (λn=>by simp only [Ex.out]) (by simp only [Ex.hts]) ha
theorem Wa9 {a:Ex} (ha:Zm a):Zm (.not a):=Q8n (b:=bang) (K:=7) (.inr ⟨rfl,rfl⟩) rfl (by simp only [Ex.toks]) (by simp only [Ex.need]) (by simp only [Ex.ht]) (by simp only [Ex.size]) (λn=>by simp only [Ex.out]) (by simp only [Ex.hts]) ha
theorem Q7a: ∀j,j<5->opAt j (mkT rb)=none:=λj h=>(by match j,h with | 0,_ | 1,_ | 2,_ | 3,_ | 4,_=>rfl)
theorem Qwb: ∀j,j<5->opAt j (mkT rp)=none:=λj h=>(by match j,h with | 0,_ | 1,_ | 2,_ | 3,_ | 4,_=>rfl)
theorem Qw7: ∀j,j<5->opAt j (mkT comma)=none:=λj h=>(by match j,h with | 0,_ | 1,_ | 2,_ | 3,_ | 4,_=>rfl)
theorem Wbw: ∀j,j<5->opAt j (mkT semi)=none:=λj h=>(by match j,h with | 0,_ | 1,_ | 2,_ | 3,_ | 4,_=>rfl)
theorem Wn7: ∀j,j<5->opAt j (mkT lc)=none:=λj h=>(by match j,h with | 0,_ | 1,_ | 2,_ | 3,_ | 4,_=>rfl)
theorem Qcb {e:Ex} (H:Zm e) {d:Nat} {l:List Nd} {h:List Nat} {rest:List Tk} (hh:h.length=l.length) (hn:d+e.need<=200) (ht:e.ht<=200) (hcl: ∀j,j<5->opAt j (⟨rest,l,h⟩:PS).tok=none) (hb:sees (⟨rest,l,h⟩:PS).tok lb=false) (hp:sees (⟨rest,l,h⟩:PS).tok lp=false):
  Reads (.chain 0) d ⟨Qr e.toks++rest,l,h⟩ (.ok ([rootOf e l],Xt e rest l h)):=
 H.u 0 (by omega) H.pos d l h rest _ hh hn ht ⟨λj _ h2=>hcl j h2,hb,hp⟩ (λe=>by cases e) (Reads.Qa7 (hcl 0 (by omega)))
theorem Wfm {a c:Ex} (ha:Zm a) (hc:Zm c):Zm (.index a c):=by
 have htk:(Ex.index a c).toks=brk (decide (a.st<=6)) lp rp a.toks++lb::(c.toks++[rb]):=by simp only [Ex.toks];simp
 have hst:(Ex.index a c).st=7:=rfl;have Wpy: ∀e:Ex,e.st<=7:=λe=>by
  cases e with
  |bin op a b=>
   show stOp op<=7;unfold stOp;by_cases h:op<17
   ·exact (by decide: ∀op,op<17->[0,1,2,3,3,3,3,3,3,4,4,4,4,5,5,5,5].getD op 0<=7) op h
   ·rw [Yc,Qbz (by simp;omega)];exact Vh _
  |neg a=>exact (by decide:(6:Nat)<=7)
  |not a=>exact (by decide:(6:Nat)<=7)
  |_=>exact Qh _
 have hI:RdI (.index a c):=by
  intro d l h rest v hh hn ht hp g;have hn0:=hn;simp only [Ex.need]at hn0;have hte:(Ex.index a c).ht=max a.ht c.ht+1:=by simp only [Ex.ht]
  rw [htk,Zd,Wn,Zd];have hl2:(h++a.hts).length=(l++a.out l.length).length:=by rw [Qf,Qf,Dy,Kh,hh]
  have Y2:=Q40 (a:=a) (c:=c) (K:=8) (n:=0) (e:=.index a c) (rest:=rest) hh ht hte (by simp only [Ex.size]) (by simp only [Ex.out]) (by simp only [Ex.hts]);have hin:Reads (.inner lb rb) d ⟨mkT lb::(Qr c.toks++(Qr [rb]++rest)),l++a.out l.length,h++a.hts⟩ (.ok ([rootOf c (l++a.out l.length)],Xt c rest (l++a.out l.length) (h++a.hts))):=
   Reads.Qcu (a:=lb) (b:=rb) (s:=⟨mkT lb::(Qr c.toks++(Qr [rb]++rest)),l++a.out l.length,h++a.hts⟩) rfl (by omega) (Qcb hc hl2 (by omega) (by omega) Q7a rfl rfl) rfl;have hm:Reads (.more (rootOf a l)) d ⟨mkT lb::(Qr c.toks++(Qr [rb]++rest)),l++a.out l.length,h++a.hts⟩ v:=Reads.Qa0 rfl hin Y2 g;cases hb:decide (a.st<=6)with
  |true=>
   have h1:=Qtj (ha.u 0 (by omega) ha.pos) ha.pos hh (d:=d) (by have:=of_decide_eq_true hb;rw [Qk this]at hn0;omega) (by omega) (mkT lb::(Qr c.toks++(Qr [rb]++rest)));exact Reads.idx h1 hm
  |false=>
   have h6:=of_decide_eq_false hb;have h7:=Wpy a;exact ha.i (by omega) d l h (mkT lb::(Qr c.toks++(Qr [rb]++rest))) v hh (by rw [Qd h6]at hn0;omega) (by omega) rfl hm
 have hd:Head (.index a c):=by
  refine ⟨λrest l h=> ?_,λ_ rest l h=> ?_⟩
  ·rw [htk,Zd];exact Q8c ha.hd _ _ _ _
  ·rw [htk,Zd];cases hb:decide (a.st<=6)with
   |true=>exact ⟨rfl,rfl⟩
   |false=>
    have h6:=of_decide_eq_false hb;exact ha.hd.mi (by omega) _ _ _
 have hF:=Qyx hI (hd.mi (by rw [hst];omega));exact ⟨λlv h1 _=>Qtx hF lv h1,λ_=>hF,λ_=>hI,hd,by rw [hst];omega⟩
theorem Q4p {a e:Ex} {b:List UInt8} {j:Nat} (hj:(b=Ky/\j=5)\/(b=Ah/\j=6)) (h7:e.st=7) (htk:e.toks=b::lp::(a.toks++[rp])) (hnd:e.need=a.need+1) (hte:e.ht=a.ht+1) (hs:e.size=a.size+1) (ho: ∀n,e.out n=a.out n++[En (Qbu j) [((n+a.size-1:Nat):Int)] 0 ⟨#[]⟩ 0]) (Vz:e.hts=a.hts++[e.ht]) (ha:Zm a):Zm e:=by
 refine Qvh h7 (λd l h rest hh hn ht hp=> ?_) ⟨λrest l h=> ?_,λ_ rest l h=> ?_⟩
 ·rw [htk,Wn,Wn,Zd];have hin:Reads (.inner lp rp) d ⟨mkT lp::(Qr a.toks++(Qr [rp]++rest)),l,h⟩ (.ok ([rootOf a l],⟨rest,l++a.out l.length,h++a.hts⟩)):=
   Reads.Qcu (a:=lp) (b:=rp) (s:=⟨mkT lp::(Qr a.toks++(Qr [rp]++rest)),l,h⟩) rfl (by omega) (Qcb ha hh (by omega) (by omega) Qwb rfl rfl) rfl;have Y2:=Q29 (a:=a) (K:=Qbu j) (e:=e) (rest:=rest) (rest':=rest) hh ht hte hs (ho _) Vz;rcases hj with ⟨rfl,rfl⟩ |⟨rfl,rfl⟩
  ·have h1:=Reads.Qfb (j:=5) (s:=⟨mkT Ky::mkT lp::(Qr a.toks++(Qr [rp]++rest)),l,h⟩) (d:=d) (.inl rfl) rfl hin;have h2:lay (En (Qbu 5) [rootOf a l] 0 ⟨#[]⟩ (((⟨mkT Ky::mkT lp::(Qr a.toks++(Qr [rp]++rest)),l,h⟩:PS).tok.place:Nat):Int)) ⟨rest,l++a.out l.length,h++a.hts⟩=_:=Y2;rw [h2]at h1;exact h1
  ·have h1:=Reads.Qfb (j:=6) (s:=⟨mkT Ah::mkT lp::(Qr a.toks++(Qr [rp]++rest)),l,h⟩) (d:=d) (.inr rfl) rfl hin;have h2:lay (En (Qbu 6) [rootOf a l] 0 ⟨#[]⟩ (((⟨mkT Ah::mkT lp::(Qr a.toks++(Qr [rp]++rest)),l,h⟩:PS).tok.place:Nat):Int)) ⟨rest,l++a.out l.length,h++a.hts⟩=_:=Y2;rw [h2]at h1;exact h1
 ·rw [htk,Wn];rcases hj with ⟨rfl,_⟩ |⟨rfl,_⟩<;>rfl
 ·rw [htk,Wn];rcases hj with ⟨rfl,_⟩ |⟨rfl,_⟩<;>exact ⟨rfl,rfl⟩
theorem Wg9 {a:Ex} (ha:Zm a):Zm (.len a):=Q4p (b:=Ky) (j:=5) (.inl ⟨rfl,rfl⟩) rfl (by simp only [Ex.toks];rfl) (by simp only [Ex.need]) (by simp only [Ex.ht]) (by simp only [Ex.size]) (λn=>by simp only [Ex.out];rfl) (by simp only [Ex.hts]) ha
theorem Q9k {a:Ex} (ha:Zm a):Zm (.new a):=Q4p (b:=Ah) (j:=6) (.inr ⟨rfl,rfl⟩) rfl (by simp only [Ex.toks];rfl) (by simp only [Ex.need]) (by simp only [Ex.ht]) (by simp only [Ex.size]) (λn=>by simp only [Ex.out];rfl) (by simp only [Ex.hts]) ha
theorem Wpx (a:Ex) (xs:List Ex):Vo false (a::xs)=comma::Vo true (a::xs):=by simp only [Vo];rfl
theorem Qvl (a:Ex) (xs:List Ex):Vo true (a::xs)=a.toks++Vo false xs:=by simp only [Vo];rfl
theorem Qx2: ∀(xs:List Ex) (a:Ex) (d:Nat) (l:List Nd) (h:List Nat) (acc:List Int) (rest:List Tk),(∀x∈a::xs,Zm x)->h.length=l.length->d+needs (a::xs)<=200->Bh (a::xs)<=200->acc.length+(a::xs).length<=8->
  Reads (.args acc) d ⟨Qr (Vo true (a::xs))++(mkT rp::rest),l,h⟩ (.ok (acc++roots (a::xs) l.length,⟨mkT rp::rest,l++outs (a::xs) l.length,h++Kn (a::xs)⟩))
 | [],a,d,l,h,acc,rest,hx,hh,hn,ht,h8=>by
  simp only [needs,Bh]at hn ht;have h1:=Qcb (hx a (by simp)) (rest:=mkT rp::rest) hh (d:=d) (by omega) (by omega) Qwb rfl rfl;have h2:=Reads.Q2k (acc:=acc) (by simp at h8;omega) h1 rfl;rw [Qvl,show Vo false []=[] by simp only [Vo],Xe];have e1:roots [a] l.length=[rootOf a l]:=by simp only [roots];rfl
  have e2:outs [a] l.length=a.out l.length:=by simp only [outs,Xe]
  have e3:Kn [a]=a.hts:=by simp only [Kn,Xe]
  rw [e1,e2,e3];exact h2
 |b::xs,a,d,l,h,acc,rest,hx,hh,hn,ht,h8=>by
  have hn0:=hn;have ht0:=ht;rw [show needs (a::b::xs)=max a.need (needs (b::xs)) by simp only [needs]]at hn;rw [show Bh (a::b::xs)=max a.ht (Bh (b::xs)) by simp only [Bh]]at ht;rw [Qvl,Wpx,Zd,Wn];have h1:=Qcb (hx a (by simp)) (rest:=mkT comma::(Qr (Vo true (b::xs))++(mkT rp::rest))) hh (d:=d) (by omega) (by omega) Qw7 rfl rfl;have hl2:(h++a.hts).length=(l++a.out l.length).length:=by rw [Qf,Qf,Dy,Kh,hh]
  have h2:=Qx2 xs b d (l++a.out l.length) (h++a.hts) (acc++[rootOf a l]) rest (λx hm=>hx x (Iy _ hm)) hl2 (by omega) (by omega) (by rw [Qf];simp at h8 ⊢;omega);have h3:=Reads.Qwl (acc:=acc) (by simp at h8;omega) h1 rfl h2;have e0:(l++a.out l.length).length=l.length+a.size:=by rw [Qf,Kh]
  have e1:roots (a::b::xs) l.length=rootOf a l::roots (b::xs) (l.length+a.size):=by rw [roots];rfl
  have e2:outs (a::b::xs) l.length=a.out l.length++outs (b::xs) (l.length+a.size):=by rw [outs]
  have e3:Kn (a::b::xs)=a.hts++Kn (b::xs):=by rw [Kn]
  rw [e0]at h3;rw [e1,e2,e3,<-Qy,<-Qy,show acc++rootOf a l::roots (b::xs) (l.length+a.size)=acc++[rootOf a l]++roots (b::xs) (l.length+a.size) by simp];exact h3
theorem Q5u: ∀(xs:List Ex) (pre post:List Nat) (a:Nat),1<=a->(roots xs pre.length).foldl (hstep (pre++Kn xs++post)) a=max a (Bh xs+1)
 | [],pre,post,a,ha=>by simp only [roots,Bh,List.foldl];omega
 |x::xs,pre,post,a,ha=>by
  have e1:roots (x::xs) pre.length=((pre.length+x.size-1:Nat):Int)::roots xs (pre++x.hts).length:=by rw [roots,Qf,Dy]
  have e2:pre++Kn (x::xs)++post=(pre++x.hts)++Kn xs++post:=by rw [Kn];simp only [Qy]
  have e3:Bh (x::xs)=max x.ht (Bh xs):=by rw [Bh]
  rw [e1,e2,List.foldl_cons];have hp:=Qlc x;have hlen:pre.length+x.size-1<((pre++x.hts)++Kn xs++post).length:=by rw [Qf,Qf,Qf,Dy];omega
  have hg:((pre++x.hts)++Kn xs++post).getD (pre.length+x.size-1) 0=x.ht:=by rw [Qy];exact Qtf x pre (Kn xs++post)
  have hs:hstep ((pre++x.hts)++Kn xs++post) a ((pre.length+x.size-1:Nat):Int)=max a (x.ht+1):=by unfold hstep;rw [Qk ⟨by omega,by omega⟩,Ja,hg]
  rw [hs,Q5u xs (pre++x.hts) post (max a (x.ht+1)) (by omega),e3];omega
theorem Qw4 {t:List UInt8} {xs:List Ex} (hk:(mkT t).kind=1) (h8:xs.length<=8) (hx: ∀x∈xs,Zm x) {d:Nat} {l:List Nd} {h:List Nat} (hh:h.length=l.length) (hn0:d+(needs xs+1)<=200) (ht0:Bh xs+1<=200) (rest:List Tk):
  Reads (.call ⟨t.toArray⟩ 0) d ⟨mkT lp::(Qr (Vo true xs)++mkT rp::rest),l,h⟩ (.ok ([rootOf (.call t xs) l],Xt (.call t xs) rest l h)):=by
 have hout:(Ex.call t xs).out l.length=outs xs l.length++[En 11 (roots xs l.length) 0 ⟨t.toArray⟩ 0]:=by simp only [Ex.out]
 have Vz:(Ex.call t xs).hts=Kn xs++[Bh xs+1]:=by simp only [Ex.hts,Ex.ht]
 have hsz:(Ex.call t xs).size=sizes xs+1:=by simp only [Ex.size]
 have hhigh:high (h++Kn xs) (roots xs l.length)=Bh xs+1:=by have:=Q5u xs h [] 1 (Qh _);rw [Xe,hh]at this;unfold high;rw [this];omega
 have Y2:lay (En 11 (roots xs l.length) 0 ⟨t.toArray⟩ 0) ⟨rest,l++outs xs l.length,h++Kn xs⟩= .ok ([rootOf (.call t xs) l],Xt (.call t xs) rest l h):=by
  rw [Qhq (show high (⟨rest,l++outs xs l.length,h++Kn xs⟩:PS).h (En 11 (roots xs l.length) 0 ⟨t.toArray⟩ 0).kids=Bh xs+1 from hhigh) ht0];unfold Xt rootOf;rw [hout,Vz,hsz];have e0:(l++outs xs l.length).length=l.length+sizes xs:=by rw [Qf,Qgl]
  rw [show (⟨rest,l++outs xs l.length,h++Kn xs⟩:PS).l.length=l.length+(sizes xs+1)-1 by show (l++outs xs l.length).length=_;omega];simp only [Qy]
 cases xs with
 |nil=>
  have h1:=Reads.Q1y (nm:=⟨t.toArray⟩) (at_:=0) (s:=⟨mkT lp::mkT rp::rest,l,h⟩) (d:=d) rfl (by omega) rfl;have h2:lay (En 11 [] 0 ⟨t.toArray⟩ ((0:Nat):Int)) ⟨rest,l,h⟩= .ok ([rootOf (.call t []) l],Xt (.call t []) rest l h):=by have e1:roots [] l.length=[]:=(by rw [roots]);have e2:outs [] l.length=[]:=(by rw [outs]);have e3:Kn []=[]:=(by rw [Kn]);rw [e1,e2,e3,Xe,Xe]at Y2;exact Y2
  have h3:Reads (.call ⟨t.toArray⟩ 0) d ⟨mkT lp::mkT rp::rest,l,h⟩ (lay (En 11 [] 0 ⟨t.toArray⟩ ((0:Nat):Int)) ⟨rest,l,h⟩):=h1;rw [h2]at h3;have e4:Vo true []=[]:=by rw [Vo]
  rw [e4];exact h3
 |cons a xs=>
  have hargs:=Qx2 xs a (d+1) l h [] rest hx hh (by omega) (by omega) (by simpa using h8);rw [Xk]at hargs;have hne:(⟨Qr (Vo true (a::xs))++(mkT rp::rest),l,h⟩:PS).is rp=false:=by rw [Qvl,Zd];exact (hx a (by simp)).hd.rp _ _ _
  have h1:=Reads.Q2b (nm:=⟨t.toArray⟩) (at_:=0) (s:=⟨mkT lp::(Qr (Vo true (a::xs))++(mkT rp::rest)),l,h⟩) (d:=d) rfl (by omega) hne hargs rfl;have h2:Reads (.call ⟨t.toArray⟩ 0) d ⟨mkT lp::(Qr (Vo true (a::xs))++(mkT rp::rest)),l,h⟩ (lay (En 11 (roots (a::xs) l.length) 0 ⟨t.toArray⟩ 0) ⟨rest,l++outs (a::xs) l.length,h++Kn (a::xs)⟩):=h1;rw [Y2]at h2;exact h2
theorem Q9z {t:List UInt8} {xs:List Ex} (hk:(mkT t).kind=1) (h8:xs.length<=8) (hx: ∀x∈xs,Zm x):Zm (.call t xs):=by
 have htk:(Ex.call t xs).toks=t::lp::(Vo true xs++[rp]):=by simp only [Ex.toks];rfl
 refine Qvh rfl (λd l h rest hh hn ht hp=> ?_) ⟨λrest l h=> ?_,λ_ rest l h=> ?_⟩
 ·have hn0:d+(needs xs+1)<=200:=by simp only [Ex.need]at hn;exact hn
  have ht0:Bh xs+1<=200:=by simp only [Ex.ht]at ht;exact ht
  rw [htk,Wn,Wn,Zd];exact Reads.Qza (s:=⟨mkT t::mkT lp::(Qr (Vo true xs)++(Qr [rp]++rest)),l,h⟩) (Q7y hk) rfl (Qw4 hk h8 hx hh hn0 ht0 rest)
 ·rw [htk,Wn];exact Et (.inl hk)
 ·rw [htk,Wn];exact ⟨Et (.inl hk),Et (.inl hk)⟩
mutual
theorem Dw: ∀e:Ex,e.ok->Zm e
 | .num n,h=>Wck h
 | .bool c,_=>Wmk c
 | .nil,_=>Wnd
 | .var t,h=>Woo (by simpa only [Ex.ok] using h)
 | .bin op a c,h=>by simp only [Ex.ok]at h;exact Wjz h.1 h.2.1 (Dw a h.2.2.1) (Dw c h.2.2.2)
 | .neg a,h=>Wjc (Dw a (by simpa only [Ex.ok] using h))
 | .not a,h=>Wa9 (Dw a (by simpa only [Ex.ok] using h))
 | .index a c,h=>by simp only [Ex.ok]at h;exact Wfm (Dw a h.1) (Dw c h.2)
 | .len a,h=>Wg9 (Dw a (by simpa only [Ex.ok] using h))
 | .new a,h=>Q9k (Dw a (by simpa only [Ex.ok] using h))
 | .call t xs,h=>by simp only [Ex.ok]at h;exact Q9z h.1 h.2.1 (Qpq xs h.2.2)
theorem Qpq: ∀xs:List Ex,oks xs-> ∀x∈xs,Zm x
 | [],_=>λx hx=>absurd hx (Ef)
 |a::xs,h=>by
  simp only [oks]at h;intro x hx;rcases List.mem_cons.1 hx with hx |hx
  ·rw [hx];exact Dw a h.1
  ·exact Qpq xs h.2 x hx
end
end
end Go.Proofs.YtdncpkkhkbijfaaGreatDoor
