import Derived.Test.YtdncpkkhkbijfaaDoorTe3
import Derived.Test.YtdncpkkhkbijfaaDoorTe9
set_option linter.all false
set_option maxHeartbeats 0
set_option maxRecDepth 100000
namespace Go.Proofs.YtdncpkkhkbijfaaDoor
inductive Ex where
 |num (n:Nat)
 |bool (b:Bool)
 |nil
 |var (s:List UInt8)
 |bin (op:Nat) (a b:Ex)
 |neg (a:Ex)
 |not (a:Ex)
 |index (a b:Ex)
 |len (a:Ex)
 |new (a:Ex)
 |call (s:List UInt8) (xs:List Ex)
def stOp (op:Nat):Nat:=[0,1,2,3,3,3,3,3,3,4,4,4,4,5,5,5,5].getD op 0
def Ex.st:Ex->Nat
 | .bin op _ _=>stOp op
 | .neg _=>6
 | .not _=>6
 |_=>7
def Ec (op:Nat):Nat:=if stOp op=3 then 3 else stOp op-1
def brk {α:Type} (c:Bool) (x y:α) (t:List α):List α:=if c then x::t++[y]else t
mutual
def Ex.size:Ex->Nat
 | .bin _ a b=>a.size+b.size+1
 | .neg a=>a.size+1
 | .not a=>a.size+1
 | .index a b=>a.size+b.size+1
 | .len a=>a.size+1
 | .new a=>a.size+1
 | .call _ xs=>sizes xs+1
 |_=>1
def sizes:List Ex->Nat
 | []=>0
 |a::xs=>a.size+sizes xs
end
mutual
def Ex.toks:Ex->List (List UInt8)
 | .num n=>[Lib.itoa (n:Int)]
 | .bool b=>[if b then Qcw else Qca]
 | .nil=>[Qfg]
 | .var s=>[s]
 | .bin op a b=>brk (decide (a.st<=Ec op)) lp rp a.toks++Aw.getD op []::brk (decide (b.st<=stOp op)) lp rp b.toks
 | .neg a=>minus::brk (decide (a.st<=5)) lp rp a.toks
 | .not a=>bang::brk (decide (a.st<=5)) lp rp a.toks
 | .index a b=>brk (decide (a.st<=6)) lp rp a.toks++lb::b.toks++[rb]
 | .len a=>Ij::lp::a.toks++[rp]
 | .new a=>Hf::lp::a.toks++[rp]
 | .call s xs=>s::lp::Qc7 true xs++[rp]
def Qc7:Bool->List Ex->List (List UInt8)
 |_,[]=>[]
 |f,a::xs=>(if f then []else [comma])++a.toks++Qc7 false xs
end
mutual
def Ex.ht:Ex->Nat
 | .bin _ a b=>max a.ht b.ht+1
 | .neg a=>a.ht+1
 | .not a=>a.ht+1
 | .index a b=>max a.ht b.ht+1
 | .len a=>a.ht+1
 | .new a=>a.ht+1
 | .call _ xs=>Fp xs+1
 |_=>1
def Fp:List Ex->Nat
 | []=>0
 |a::xs=>max a.ht (Fp xs)
end
mutual
def Ex.out:Ex->Nat->List Nd
 | .num n,_=>[En 1 [] (n:Int) ⟨#[]⟩ 0]
 | .bool c,_=>[En 2 [] (if c then 1 else 0) ⟨#[]⟩ 0]
 | .nil,_=>[En 3 [] 0 ⟨#[]⟩ 0]
 | .var s,_=>[En 4 [] 0 ⟨s.toArray⟩ 0]
 | .bin op a c,b=>a.out b++c.out (b+a.size)++[En 5 [((b+a.size-1:Nat):Int),((b+a.size+c.size-1:Nat):Int)] (op:Int) ⟨#[]⟩ 0]
 | .neg a,b=>a.out b++[En 6 [((b+a.size-1:Nat):Int)] 0 ⟨#[]⟩ 0]
 | .not a,b=>a.out b++[En 7 [((b+a.size-1:Nat):Int)] 0 ⟨#[]⟩ 0]
 | .index a c,b=>a.out b++c.out (b+a.size)++[En 8 [((b+a.size-1:Nat):Int),((b+a.size+c.size-1:Nat):Int)] 0 ⟨#[]⟩ 0]
 | .len a,b=>a.out b++[En 9 [((b+a.size-1:Nat):Int)] 0 ⟨#[]⟩ 0]
 | .new a,b=>a.out b++[En 10 [((b+a.size-1:Nat):Int)] 0 ⟨#[]⟩ 0]
 | .call s xs,b=>outs xs b++[En 11 (roots xs b) 0 ⟨s.toArray⟩ 0]
def outs:List Ex->Nat->List Nd
 | [],_=>[]
 |a::xs,b=>a.out b++outs xs (b+a.size)
def roots:List Ex->Nat->List Int
 | [],_=>[]
 |a::xs,b=>((b+a.size-1:Nat):Int)::roots xs (b+a.size)
end
mutual
def Ex.hts:Ex->List Nat
 | .bin op a c=>a.hts++c.hts++[(Ex.bin op a c).ht]
 | .neg a=>a.hts++[(Ex.neg a).ht]
 | .not a=>a.hts++[(Ex.not a).ht]
 | .index a c=>a.hts++c.hts++[(Ex.index a c).ht]
 | .len a=>a.hts++[(Ex.len a).ht]
 | .new a=>a.hts++[(Ex.new a).ht]
 | .call s xs=>Qbo xs++[(Ex.call s xs).ht]
 |_=>[1]
def Qbo:List Ex->List Nat
 | []=>[]
 |a::xs=>a.hts++Qbo xs
end
structure Part where
 size:Nat
 out:Nat->List Nd
 hts:List Nat
 ht:Nat
def Y0:List Part->Nat
 | []=>0
 |p::ps=>p.size+Y0 ps
def Qd3:List Part->Nat->List Nd
 | [],_=>[]
 |p::ps,b=>p.out b++Qd3 ps (b+p.size)
def Qf6:List Part->Nat->List Int
 | [],_=>[]
 |p::ps,b=>((b+p.size-1:Nat):Int)::Qf6 ps (b+p.size)
def Qf9:List Part->List Nat
 | []=>[]
 |p::ps=>p.hts++Qf9 ps
def Dc:List Part->Nat
 | []=>0
 |p::ps=>max p.ht (Dc ps)
def node (K n:Int) (s:List UInt8) (ps:List Part):Part:=⟨Y0 ps+1,λb=>Qd3 ps b++[En K (Qf6 ps b) n ⟨s.toArray⟩ 0],Qf9 ps++[Dc ps+1],Dc ps+1⟩
def Ex.part (e:Ex):Part:=⟨e.size,e.out,e.hts,e.ht⟩
inductive St where
 |let_ (s:List UInt8) (e:Ex)
 |set (s:List UInt8) (e:Ex)
 |put (s:List UInt8) (i e:Ex)
 |if_ (e:Ex) (b:List St)
 |Kt (e:Ex) (b c:List St)
 |Kn (e:Ex) (b:List St)
 |for_ (s:List UInt8) (a b:Ex) (c:List St)
 |brk
 |cont
 |ret (e:Ex)
 |print (e:Ex)
 |do_ (s:List UInt8) (xs:List Ex)
mutual
def St.toks:St->List (List UInt8)
 | .let_ s e=>Ja::s::eqs::(e.toks++[semi])
 | .set s e=>s::eqs::(e.toks++[semi])
 | .put s i e=>s::lb::(i.toks++rb::eqs::(e.toks++[semi]))
 | .if_ e b=>X8::(e.toks++lc::(Gl b++[rc]))
 | .Kt e b c=>X8::(e.toks++lc::(Gl b++rc::Jc::lc::(Gl c++[rc])))
 | .Kn e b=>V9::(e.toks++lc::(Gl b++[rc]))
 | .for_ s a b c=>V8::s::eqs::(a.toks++comma::(b.toks++lc::(Gl c++[rc])))
 | .brk=>[Jt,semi]
 | .cont=>[Jq,semi]
 | .ret e=>Vy::(e.toks++[semi])
 | .print e=>Je::(e.toks++[semi])
 | .do_ s xs=>(Ex.call s xs).toks++[semi]
def Gl:List St->List (List UInt8)
 | []=>[]
 |a::xs=>a.toks++Gl xs
end
mutual
def St.part:St->Part
 | .let_ s e=>node 12 0 s [e.part]
 | .set s e=>node 13 0 s [e.part]
 | .put s i e=>node 14 0 s [i.part,e.part]
 | .if_ e b=>node 15 0 [] [e.part,node 23 0 [] (Vg b)]
 | .Kt e b c=>node 15 0 [] [e.part,node 23 0 [] (Vg b),node 23 0 [] (Vg c)]
 | .Kn e b=>node 16 0 [] [e.part,node 23 0 [] (Vg b)]
 | .for_ s a b c=>node 17 0 s [a.part,b.part,node 23 0 [] (Vg c)]
 | .brk=>node 18 0 [] []
 | .cont=>node 19 0 [] []
 | .ret e=>node 20 0 [] [e.part]
 | .print e=>node 21 0 [] [e.part]
 | .do_ s xs=>node 22 0 [] [(Ex.call s xs).part]
def Vg:List St->List Part
 | []=>[]
 |a::xs=>a.part::Vg xs
end
def Ee (b:List St):Part:=node 23 0 [] (Vg b)
section
structure Wd where
 name:List UInt8
 ps:List (List UInt8×Nat)
 k:Nat
 body:List St
def Zz (k:Nat):List UInt8:=G9.getD k []
def J6 (p:List UInt8×Nat):Part:=node 24 (p.2:Int) p.1 []
def Wd.parts (f:Wd):List Part:=f.ps.map J6++[Ee f.body]
def Wd.part (f:Wd):Part:=node 25 (f.k:Int) f.name f.parts
def Dv (fs:List Wd):Part:=node 26 0 [] (fs.map Wd.part)
end
def Zb (c:Bool) (t:List UInt8):List UInt8:=if c then 40::(t++[41])else t
mutual
def Ex.txt:Ex->List UInt8
 | .num n=>Lib.itoa (n:Int)
 | .bool b=>if b then Qcw else Qca
 | .nil=>Qfg
 | .var s=>s
 | .bin op a b=>Zb (decide (a.st<=Ec op)) a.txt++32::(Aw.getD op []++32::Zb (decide (b.st<=stOp op)) b.txt)
 | .neg a=>45::Zb (decide (a.st<=5)) a.txt
 | .not a=>33::Zb (decide (a.st<=5)) a.txt
 | .index a b=>Zb (decide (a.st<=6)) a.txt++91::(b.txt++[93])
 | .len a=>Ij++40::(a.txt++[41])
 | .new a=>Hf++40::(a.txt++[41])
 | .call s xs=>s++40::(Q8 true xs++[41])
def Q8:Bool->List Ex->List UInt8
 |_,[]=>[]
 |f,a::xs=>(if f then []else [44,32])++(a.txt++Q8 false xs)
end
structure Qpu (b:List UInt8):Prop where
 first: ∃c cs,b=c::cs/\isLt c.toNat=true
 all: ∀c∈b,Qgb c.toNat=true
theorem Qne (u:Nat): ∃c cs,Lib.decDigits u=c::cs:=by
 rw [Lib.decDigits];split
 ·exact ⟨_,_,rfl⟩
 ·cases h:Lib.decDigits (u/10)with
  |nil=>exact ⟨_,_,rfl⟩
  |cons c cs=>exact ⟨_,_,rfl⟩
theorem Qnm (n:Nat):Lib.itoa (n:Int)=Lib.decDigits n:=by unfold Lib.itoa;rw [Q6 (by omega)];simp
structure Y6 (s:List UInt8):Prop where
 word:Qpu s
 short:s.length<=32
 key:isKey s=false
mutual
def Ex.fin:Ex->Prop
 | .num n=>n<=9223372036854775807
 | .bool _=>True
 | .nil=>True
 | .var s=>Y6 s
 | .bin op a b=>1<=op/\op<=16/\a.fin/\b.fin
 | .neg a=>a.fin
 | .not a=>a.fin
 | .index a b=>a.fin/\b.fin
 | .len a=>a.fin
 | .new a=>a.fin
 | .call s xs=>Y6 s/\xs.length<=8/\Eh xs
def Eh:List Ex->Prop
 | []=>True
 |a::xs=>a.fin/\Eh xs
end
theorem Qmu (t:List UInt8):Zb true t=40::(t++[41]):=rfl
theorem Qpa (t:List UInt8):Zb false t=t:=rfl
def tabs (n:Nat):List UInt8:=List.replicate n 9
mutual
def St.txt:St->Nat->List UInt8
 | .let_ s e,_=>Ja++32::(s++32::(eqs++32::(e.txt++[59])))
 | .set s e,_=>s++32::(eqs++32::(e.txt++[59]))
 | .put s i e,_=>s++91::(i.txt++93::32::(eqs++32::(e.txt++[59])))
 | .if_ e b,d=>X8++32::(e.txt++32::123::10::(Y4 b (d+1)++(tabs d++[125])))
 | .Kt e b c,d=>X8++32::(e.txt++32::123::10::(Y4 b (d+1)++(tabs d++125::32::(Jc++32::123::10::(Y4 c (d+1)++(tabs d++[125]))))))
 | .Kn e b,d=>V9++32::(e.txt++32::123::10::(Y4 b (d+1)++(tabs d++[125])))
 | .for_ s a b c,d=>V8++32::(s++32::(eqs++32::(a.txt++44::32::(b.txt++32::123::10::(Y4 c (d+1)++(tabs d++[125]))))))
 | .brk,_=>Jt++[59]
 | .cont,_=>Jq++[59]
 | .ret e,_=>Vy++32::(e.txt++[59])
 | .print e,_=>Je++32::(e.txt++[59])
 | .do_ s xs,_=>(Ex.call s xs).txt++[59]
def Y4:List St->Nat->List UInt8
 | [],_=>[]
 |a::xs,d=>tabs d++(a.txt d++10::Y4 xs d)
end
def Ww (b:List St) (d:Nat):List UInt8:=123::10::(Y4 b (d+1)++(tabs d++[125]))
def Yu:Bool->List (List UInt8×Nat)->List UInt8
 |_,[]=>[]
 |f,p::ps=>(if f then []else [44,32])++(p.1++32::(Zz p.2++Yu false ps))
def Wd.txt (f:Wd):List UInt8:=Fa++32::(f.name++40::(Yu true f.ps++41::32::(Zz f.k++32::(Ww f.body 0++[10]))))
def Yx:List Wd->List UInt8
 | []=>[]
 |f::fs=>f.txt++Yx fs
mutual
def St.fin:St->Prop
 | .let_ s e=>Y6 s/\e.fin
 | .set s e=>Y6 s/\e.fin
 | .put s i e=>Y6 s/\i.fin/\e.fin
 | .if_ e b=>e.fin/\Ku b
 | .Kt e b c=>e.fin/\Ku b/\Ku c
 | .Kn e b=>e.fin/\Ku b
 | .for_ s a b c=>Y6 s/\a.fin/\b.fin/\Ku c
 | .brk=>True
 | .cont=>True
 | .ret e=>e.fin
 | .print e=>e.fin
 | .do_ s xs=>(Ex.call s xs).fin
def Ku:List St->Prop
 | []=>True
 |a::xs=>a.fin/\Ku xs
end
def Gu (p:List UInt8×Nat):Prop:=Y6 p.1/\1<=p.2/\p.2<=3
structure Wd.Fin (f:Wd):Prop where
 name:Y6 f.name
 Qo6: ∀p∈f.ps,Gu p
 few:f.ps.length<=8
 k1:1<=f.k
 k3:f.k<=3
 body:Ku f.body
section
inductive Wz where
 |no
 |ex (e:Ex)
 |st (a:St)
 |blk (b:List St)
 |par (p:List UInt8×Nat)
 |fn (f:Wd)
 |pr (fs:List Wd)
def Wz.e:Wz->Ex
 | .ex e=>e
 |_=>.nil
def Wz.s:Wz->St
 | .st a=>a
 |_=>.brk
def Wz.b:Wz->List St
 | .blk b=>b
 |_=>[]
def Wz.p:Wz->List UInt8×Nat
 | .par p=>p
 |_=>([],0)
def Wz.f:Wz->Wd
 | .fn f=>f
 |_=>⟨[],[],0,[]⟩
def Qic:Ex->St
 | .call s xs=>.do_ s xs
 |_=>.brk
def Zg (ks:List Wz) (i:Nat):Wz:=ks.getD i .no
def Ot (K n:Int) (s:List UInt8) (ks:List Wz):Wz:=
 if K=1 then .ex (.num n.toNat)
 else if K=2 then .ex (.bool (decide (n=1)))
 else if K=3 then .ex .nil
 else if K=4 then .ex (.var s)
 else if K=5 then .ex (.bin n.toNat (Zg ks 0).e (Zg ks 1).e)
 else if K=6 then .ex (.neg (Zg ks 0).e)
 else if K=7 then .ex (.not (Zg ks 0).e)
 else if K=8 then .ex (.index (Zg ks 0).e (Zg ks 1).e)
 else if K=9 then .ex (.len (Zg ks 0).e)
 else if K=10 then .ex (.new (Zg ks 0).e)
 else if K=11 then .ex (.call s (ks.map Wz.e))
 else if K=12 then .st (.let_ s (Zg ks 0).e)
 else if K=13 then .st (.set s (Zg ks 0).e)
 else if K=14 then .st (.put s (Zg ks 0).e (Zg ks 1).e)
 else if K=15 then .st (if ks.length=3 then .Kt (Zg ks 0).e (Zg ks 1).b (Zg ks 2).b else .if_ (Zg ks 0).e (Zg ks 1).b)
 else if K=16 then .st (.Kn (Zg ks 0).e (Zg ks 1).b)
 else if K=17 then .st (.for_ s (Zg ks 0).e (Zg ks 1).e (Zg ks 2).b)
 else if K=18 then .st .brk
 else if K=19 then .st .cont
 else if K=20 then .st (.ret (Zg ks 0).e)
 else if K=21 then .st (.print (Zg ks 0).e)
 else if K=22 then .st (Qic (Zg ks 0).e)
 else if K=23 then .blk (ks.map Wz.s)
 else if K=24 then .par (s,n.toNat)
 else if K=25 then .fn ⟨s,ks.dropLast.map Wz.p,n.toNat,(Zg ks (ks.length-1)).b⟩
 else if K=26 then .pr (ks.map Wz.f)
 else .no
def Uv (x:Nd) (ks:List Wz):Wz:=Ot x.kind x.n x.t ks
def Zv (l:List Nd) (i:Nat):Wz:=val Uv l i
def Ym (K n:Int) (s:List UInt8) (ts:List (List UInt8)):List UInt8:=Ga (En K [] n ⟨s.toArray⟩ 0) ts
theorem Qqx (x:Nd) (ts:List (List UInt8)):Ga x ts=Ym x.kind x.n x.t ts:=rfl
mutual
def Ex.told:Ex->List UInt8
 | .num n=>Ym 1 (n:Int) [] []
 | .bool b=>Ym 2 (if b then 1 else 0) [] []
 | .nil=>Ym 3 0 [] []
 | .var s=>Ym 4 0 s []
 | .bin op a b=>Ym 5 (op:Int) [] [a.told,b.told]
 | .neg a=>Ym 6 0 [] [a.told]
 | .not a=>Ym 7 0 [] [a.told]
 | .index a b=>Ym 8 0 [] [a.told,b.told]
 | .len a=>Ym 9 0 [] [a.told]
 | .new a=>Ym 10 0 [] [a.told]
 | .call s xs=>Ym 11 0 s (tolds xs)
def tolds:List Ex->List (List UInt8)
 | []=>[]
 |a::xs=>a.told::tolds xs
end
mutual
def St.told:St->List UInt8
 | .let_ s e=>Ym 12 0 s [e.told]
 | .set s e=>Ym 13 0 s [e.told]
 | .put s i e=>Ym 14 0 s [i.told,e.told]
 | .if_ e b=>Ym 15 0 [] [e.told,Ym 23 0 [] (Kg b)]
 | .Kt e b c=>Ym 15 0 [] [e.told,Ym 23 0 [] (Kg b),Ym 23 0 [] (Kg c)]
 | .Kn e b=>Ym 16 0 [] [e.told,Ym 23 0 [] (Kg b)]
 | .for_ s a b c=>Ym 17 0 s [a.told,b.told,Ym 23 0 [] (Kg c)]
 | .brk=>Ym 18 0 [] []
 | .cont=>Ym 19 0 [] []
 | .ret e=>Ym 20 0 [] [e.told]
 | .print e=>Ym 21 0 [] [e.told]
 | .do_ s xs=>Ym 22 0 [] [(Ex.call s xs).told]
def Kg:List St->List (List UInt8)
 | []=>[]
 |a::xs=>a.told::Kg xs
end
def Dr (b:List St):List UInt8:=Ym 23 0 [] (Kg b)
def Qem (p:List UInt8×Nat):List UInt8:=Ym 24 (p.2:Int) p.1 []
def Wd.told (f:Wd):List UInt8:=Ym 25 (f.k:Int) f.name (f.ps.map Qem++[Dr f.body])
def Qcd (fs:List Wd):List UInt8:=Ym 26 0 [] (fs.map Wd.told)
structure Qqc (fs:List Wd):Prop where
 fns: ∀f∈fs,f.Fin
 few:fs.length<=200
theorem Qff: ∀xs:List Ex,tolds xs=xs.map Ex.told
 | []=>rfl
 |a::xs=>by rw [tolds,Qff xs];rfl
theorem Qa9: ∀xs:List St,Kg xs=xs.map St.told
 | []=>rfl
 |a::xs=>by rw [Kg,Qa9 xs];rfl
theorem Qc8: ∀xs:List Ex,sizes xs=(xs.map Ex.size).sum
 | []=>rfl
 |a::xs=>by rw [sizes,Qc8 xs];rfl
theorem Qoz: ∀xs:List Ex,Fp xs+1=(xs.map Ex.ht).foldl (λh x=>max h (1+x)) 1:=by
 have H: ∀(xs:List Ex) (a:Nat),1<=a->max a (Fp xs+1)=(xs.map Ex.ht).foldl (λh x=>max h (1+x)) a:=by
  intro xs
  induction xs with
  |nil=>intro a ha;show max a (Fp []+1)=a;rw [Fp];omega
  |cons x xs ih=>
   intro a ha;rw [Yi,List.foldl_cons,<-ih _ (by omega),Fp];omega
 intro xs;rw [<-H xs 1 (Yc 1)];omega
theorem Ib: ∀ps:List Part,Y0 ps=(ps.map Part.size).sum
 | []=>rfl
 |a::xs=>by rw [Y0,Ib xs];rfl
theorem Qof: ∀ps:List Part,Dc ps+1=(ps.map Part.ht).foldl (λh x=>max h (1+x)) 1:=by
 have H: ∀(xs:List Part) (a:Nat),1<=a->max a (Dc xs+1)=(xs.map Part.ht).foldl (λh x=>max h (1+x)) a:=by
  intro xs
  induction xs with
  |nil=>intro a ha;show max a (Dc []+1)=a;rw [Dc];omega
  |cons x xs ih=>
   intro a ha;rw [Yi,List.foldl_cons,<-ih _ (by omega),Dc];omega
 intro xs;rw [<-H xs 1 (Yc 1)];omega
theorem U0: ∀xs:List St,Vg xs=xs.map St.part
 | []=>rfl
 |a::xs=>by rw [Vg,U0 xs];rfl
theorem Qdb: ∀xs:List Ex,Eh xs↔ ∀e∈xs,e.fin
 | []=>by rw [Eh];simp
 |a::xs=>by rw [Eh,Qdb xs];simp
theorem Qgd: ∀xs:List St,Ku xs↔ ∀a∈xs,a.fin
 | []=>by rw [Ku];simp
 |a::xs=>by rw [Ku,Qgd xs];simp
theorem Qoq {t:List UInt8} (h:Y2 t=true):Y6 t:=by
 unfold Y2 at h;simp only [Q7,Qu,Bool.not_eq_true',Cr]at h;obtain ⟨⟨⟨⟨h0,h32⟩,hd⟩,hall⟩,hk⟩:=h;refine ⟨⟨?_,λc hc=>hall c hc⟩,h32,hk⟩;cases t with
 |nil=>simp at h0
 |cons c cs=>
  refine ⟨c,cs,rfl,?_⟩;have h1:=hall c (by simp);have h2:Zc c.toNat=false:=hd;rw [h2,Bool.or_false]at h1;exact h1
variable {l:List Nd}{i:Nat}{k:Int}
structure XE (l:List Nd) (k:Int) (e:Ex):Prop where
 r:Zv l k.toNat= .ex e
 fin:e.fin
 t:e.told=tx l k.toNat
 z:e.size=sz l k.toNat
 h:e.ht=hgt l k.toNat
structure XS (l:List Nd) (k:Int) (a:St):Prop where
 r:Zv l k.toNat= .st a
 fin:a.fin
 t:a.told=tx l k.toNat
 z:a.part.size=sz l k.toNat
 h:a.part.ht=hgt l k.toNat
structure XB (l:List Nd) (k:Int) (b:List St):Prop where
 r:Zv l k.toNat= .blk b
 fin:Ku b
 t:Dr b=tx l k.toNat
 z:(Ee b).size=sz l k.toNat
 h:(Ee b).ht=hgt l k.toNat
structure XP (l:List Nd) (k:Int) (p:List UInt8×Nat):Prop where
 r:Zv l k.toNat= .par p
 fin:Gu p
 t:Qem p=tx l k.toNat
 z:(J6 p).size=sz l k.toNat
 h:(J6 p).ht=hgt l k.toNat
structure XF (l:List Nd) (k:Int) (f:Wd):Prop where
 r:Zv l k.toNat= .fn f
 fin:f.Fin
 t:f.told=tx l k.toNat
 z:f.part.size=sz l k.toNat
 h:f.part.ht=hgt l k.toNat
structure XR (l:List Nd) (k:Int) (fs:List Wd):Prop where
 r:Zv l k.toNat= .pr fs
 fin:Qqc fs
 t:Qcd fs=tx l k.toNat
 z:(Dv fs).size=sz l k.toNat
 h:(Dv fs).ht=hgt l k.toNat
structure Jw (l:List Nd) (i:Nat):Prop where
 ex:Qt (nd l i).kind=true-> ∃e,XE l i e/\((nd l i).kind=11-> ∃s xs,e= .call s xs)
 st:Y9 (nd l i).kind=true-> ∃a,XS l i a
 blk:(nd l i).kind=23-> ∃b,XB l i b
 par:(nd l i).kind=24-> ∃p,XP l i p
 fn:(nd l i).kind=25-> ∃f,XF l i f
 pr:(nd l i).kind=26-> ∃fs,XR l i fs
inductive Xr {α:Type} (P:Int->α->Prop):List Int->List α->Prop where
 |nil:Xr P [] []
 |cons {k:Int} {a:α} {ks:List Int} {ys:List α}:P k a->Xr P ks ys->Xr P (k::ks) (a::ys)
theorem Ck {α:Type} {P:Int->α->Prop}: ∀ks:List Int,(∀k∈ks,∃a,P k a)-> ∃ys:List α,Xr P ks ys
 | [],_=>⟨[],.nil⟩
 |k::ks,h=>by obtain ⟨a,ha⟩:=h k (by simp);obtain ⟨ys,has⟩:=Ck ks λq hq=>h q (Ip _ hq);exact ⟨a::ys,.cons ha has⟩
theorem Vw {α β:Type} {P:Int->α->Prop} {f:Int->β} {g:α->β} {ks:List Int} {ys:List α} (h:Xr P ks ys) (hf: ∀k a,P k a->f k=g a):ks.map f=ys.map g:=by
 induction h with
 |nil=>rfl
 |cons h1 _ ih=>rw [Yi,Yi,ih,hf _ _ h1]
theorem G7 {α:Type} {P:Int->α->Prop} {ks:List Int} {ys:List α} (h:Xr P ks ys): ∀a∈ys,∃k,P k a:=by
 induction h with
 |nil=>intro a ha;cases ha
 |cons h1 _ ih=>
  intro a ha;rcases List.mem_cons.1 ha with rfl |ha
  ·exact ⟨_,h1⟩
  ·exact ih a ha
theorem Cw {α:Type} {P:Int->α->Prop} {ks:List Int} {ys:List α} (h:Xr P ks ys):ks.length=ys.length:=by
 induction h with
 |nil=>rfl
 |cons _ _ ih=>rw [Qf,Qf,ih]
end
section
variable {l:List Nd}{i:Nat}{x:Nd}
theorem Ag (l:List Nd) (x:Nd):(kk l x).length=x.kids.length:=by unfold kk;rw [Cq]
theorem Qgs {α:Type} {ks:List α} (h:ks.length=1): ∃a,ks=[a]:=by
 match ks,h with
 | [a],_=>exact ⟨a,rfl⟩
theorem Us {α:Type} {ks:List α} (h:ks.length=2): ∃a b,ks=[a,b]:=by
 match ks,h with
 | [a,b],_=>exact ⟨a,b,rfl⟩
theorem Qdh {α:Type} {ks:List α} (h:ks.length=3): ∃a b c,ks=[a,b,c]:=by
 match ks,h with
 | [a,b,c],_=>exact ⟨a,b,c,rfl⟩
def Qz (l:List Nd) (k:Int):Int:=(nd l k.toNat).kind
theorem D6 (l:List Nd) (x:Nd):kk l x=x.kids.map (Qz l):=rfl
theorem F6 {K:Int} (hK:K=5\/K=8\/K=14) (h:Qq K (kk l x)=true): ∃a b,x.kids=[a,b]/\Qt (Qz l a)=true/\Qt (Qz l b)=true:=by unfold Qq at h;rw [Wy hK,Q7,Qu,Ag]at h;obtain ⟨a,b,e⟩:=Us h.1;refine ⟨a,b,e,?_⟩;have h2:=h.2;rw [D6,e]at h2;simp [exprs]at h2;exact h2
theorem V6 {K:Int} (hK:K=6\/K=7\/K=9\/K=10\/K=12\/K=13\/K=20\/K=21) (h:Qq K (kk l x)=true): ∃a,x.kids=[a]/\Qt (Qz l a)=true:=by unfold Qq at h;rw [Q6 (by omega),Wy hK,Q7,Qu,Ag]at h;obtain ⟨a,e⟩:=Qgs h.1;refine ⟨a,e,?_⟩;have h2:=h.2;rw [D6,e]at h2;simp [exprs]at h2;exact h2
theorem Qgr (h:Qq 11 (kk l x)=true):x.kids.length<=8/\ ∀a∈x.kids,Qt (Qz l a)=true:=by have h:(decide ((kk l x).length<=8)&&exprs (kk l x) (kk l x).length)=true:=h;rw [Q7,Qu,Ag]at h;refine ⟨h.1,λa ha=> ?_⟩;have h2:=h.2;unfold exprs at h2;rw [Q7,<-Ag l x,List.take_length,Cr]at h2;exact h2.2 _ (List.mem_map_of_mem ha)
theorem Qfw (h:Qq 15 (kk l x)=true):(∃a b,x.kids=[a,b]/\Qt (Qz l a)=true/\Qz l b=23)\/ ∃a b c,x.kids=[a,b,c]/\Qt (Qz l a)=true/\Qz l b=23/\Qz l c=23:=by
 have h:(exprs (kk l x) 1&&decide (2<=(kk l x).length)&&Yp ((kk l x).drop 1) 23 2)=true:=h;rw [Q7,Q7,Qu,Ag]at h;obtain ⟨⟨h1,h2⟩,h3⟩:=h;have hlen:x.kids.length<=3:=by unfold Yp at h3;rw [Q7,Qu,Xt,Ag]at h3;omega
 rcases Xa x.kids.length 3 with hl |hl
 ·obtain ⟨a,b,e⟩:=Us (show x.kids.length=2 by omega);rw [D6,e]at h1 h3;simp [exprs]at h1;simp [Yp]at h3;exact .inl ⟨a,b,e,h1,h3⟩
 ·obtain ⟨a,b,c,e⟩:=Qdh (show x.kids.length=3 by omega);rw [D6,e]at h1 h3;simp [exprs]at h1;simp [Yp]at h3;exact .inr ⟨a,b,c,e,h1,h3⟩
theorem Qgo (h:Qq 16 (kk l x)=true): ∃a b,x.kids=[a,b]/\Qt (Qz l a)=true/\Qz l b=23:=by have h:(exprs (kk l x) 1&&decide ((kk l x).length=2)&&Yp ((kk l x).drop 1) 23 1)=true:=h;rw [Q7,Q7,Qu,Ag]at h;obtain ⟨⟨h1,h2⟩,h3⟩:=h;obtain ⟨a,b,e⟩:=Us h2;rw [D6,e]at h1 h3;simp [exprs]at h1;simp [Yp]at h3;exact ⟨a,b,e,h1,h3⟩
theorem Qbg (h:Qq 17 (kk l x)=true): ∃a b c,x.kids=[a,b,c]/\Qt (Qz l a)=true/\Qt (Qz l b)=true/\Qz l c=23:=by have h:(exprs (kk l x) 2&&decide ((kk l x).length=3)&&Yp ((kk l x).drop 2) 23 1)=true:=h;rw [Q7,Q7,Qu,Ag]at h;obtain ⟨⟨h1,h2⟩,h3⟩:=h;obtain ⟨a,b,c,e⟩:=Qdh h2;rw [D6,e]at h1 h3;simp [exprs]at h1;simp [Yp]at h3;exact ⟨a,b,c,e,h1.1,h1.2,h3⟩
theorem Qfc (h:Qq 22 (kk l x)=true): ∃a,x.kids=[a]/\Qz l a=11:=by have h:(decide ((kk l x).length=1)&&decide ((kk l x).getD 0 0=11))=true:=h;rw [Q7,Qu,Qu,Ag]at h;obtain ⟨a,e⟩:=Qgs h.1;have h2:=h.2;rw [D6,e]at h2;exact ⟨a,e,h2⟩
theorem Qaq (h:Qq 23 (kk l x)=true): ∀a∈x.kids,Y9 (Qz l a)=true:=by have h:(kk l x).all Y9=true:=h;rw [Cr]at h;exact λa ha=>h _ (List.mem_map_of_mem ha)
theorem Qe7 (h:Qq 25 (kk l x)=true): ∃ps b,x.kids=ps++[b]/\ps.length<=8/\(∀a∈ps,Qz l a=24)/\Qz l b=23:=by
 have h:(decide (1<=(kk l x).length)&&Yp ((kk l x).take ((kk l x).length-1)) 24 8&&decide ((kk l x).getD ((kk l x).length-1) 0=23))=true:=h;rw [Q7,Q7,Qu,Qu,Ag]at h;obtain ⟨⟨h1,h2⟩,h3⟩:=h;have hne:x.kids≠[]:=by intro e;rw [e]at h1;simp at h1
 have e:=List.dropLast_concat_getLast hne;have hlen:x.kids.length=x.kids.dropLast.length+1:=by rw [List.length_dropLast];omega
 have hm:kk l x=x.kids.dropLast.map (Qz l)++[Qz l (x.kids.getLast hne)]:=by
  rw [D6]
  conv=>lhs;rw [<-e]
  rw [J9];rfl
 have hl':x.kids.length-1=(x.kids.dropLast.map (Qz l)).length:=by rw [Cq];omega
 rw [hl',hm,List.take_left']at h2
 ·rw [hl',hm]at h3;unfold Yp at h2;rw [Q7,Cr,Qu,Cq]at h2;refine ⟨x.kids.dropLast,x.kids.getLast hne,e.symm,h2.2,λa ha=> ?_,?_⟩
  ·exact eq_of_beq (h2.1 _ (List.mem_map_of_mem ha))
  ·rw [Yh,H8 (Yc _)]at h3;simpa using h3
 ·rfl
theorem Qew (h:Qq 26 (kk l x)=true):x.kids.length<=200/\ ∀a∈x.kids,Qz l a=25:=by have h:Yp (kk l x) 25 200=true:=h;unfold Yp at h;rw [Q7,Cr,Qu,Ag]at h;exact ⟨h.2,λa ha=>eq_of_beq (h.1 _ (List.mem_map_of_mem ha))⟩
theorem Jz {K:Int} (hK:K=1\/K=2\/K=3\/K=4\/K=18\/K=19\/K=24) (h:Qq K (kk l x)=true):x.kids=[]:=by
 have h:(decide ((kk l x).length=0))=true:=by rcases hK with rfl |rfl |rfl |rfl |rfl |rfl |rfl<;>exact h
 rw [Qu,Ag]at h;exact List.length_eq_zero_iff.1 h
end
end Go.Proofs.YtdncpkkhkbijfaaDoor
