/- ProseBack holds for every input: what is put down of a program's tree is read as that tree again, if it is not too long, and is put down as it is. The card is tied: the tables of the packages prose (heads, strengths), tree (rows, limits, makings, signs, kindWords, keyWords), lex (keyWords), expr (signs, strengths, fronts), parse (kindWords) and the library's tables (strconv's uint64pow10, math/bits' deBruijn32tab and deBruijn64tab) hold what the program's text lays. -/
import Derived.Test.YtdncpkkhkbijfaaGreatDoorBa25
import Derived.Test.YtdncpkkhkbijfaaGreatDoorBa36
import Derived.LaidMore
import Derived.ShutString
import Derived.ChangeOld
import Derived.Stop.Joined
import Derived.Test.YtdncpkkhkbijfaaGreatDoorCards
import Derived.Test.YtdncpkkhkbijfaaGreatDoorTie
import Derived.Carry
import Derived.ChangeMaps5
open Go.Proofs.Tryz
set_option linter.all false
set_option maxHeartbeats 0
set_option maxRecDepth 100000
namespace Go.Proofs.YtdncpkkhkbijfaaGreatDoor
section
open Go.RowKit
def Qpm (e:Ending):Prop:= ∀a n c v,e= .returned (.tuple #[.slice a n c,v])->n<=c
theorem Wdn {B n0 n c sz:Nat} {t:TypeId} {w:World} {a:Option Addr} {xs:List Value} (h:w.ownsRow B t sz (.slice a n c) n0 xs):n<=c:=by
 rcases h.2 with ⟨e1,e2⟩ |⟨g,cap,cur,e1,e2,e3,e4,e5,e6,e7⟩
 ·injection e1 with e1 e3 e4
  omega
 ·injection e1 with e1 e5' e6'
  omega
theorem Wq4 {s:ByteArray} {w w':World} {e:Ending} (hs:s.size<=65536) (h:Qqb s.data.toList w e w'):PT s.data.toList w e w'/\Qpm e:=by
 obtain ⟨hb,h⟩:=h;rcases h with h |⟨L,v,Kt,hr,h⟩
 ·refine ⟨⟨hb,.inl h⟩,?_⟩;obtain ⟨x,q,_,he⟩:=h;intro a n c v' h';rw [he]at h';injection h' with h'
  injection h' with h'
  injection h' with h'
  injection h' with h1 _
  injection h1 with h1 h2 h3
  omega
 ·have hlen:s.data.toList.length<=65536:=by rw [Au];exact hs
  have L9:=Qiq Kt hlen;have hLL:=(Qgw Kt).2;have hIT:=Qbp Kt;rcases h with ⟨r,val,hp,he,hg⟩ |⟨x,q,hp,hx,he⟩
  ·match v,hr,hp with
   | .ok (ps,s'),hr,hp=>
    have hp:s'.l=r:=(by injection hp);subst hp;have ht:=Qfa hIT L9.some hr;have hpl:=Qqg hr;have hcap:Qpm e:=by
     obtain ⟨l'',h1,_,_⟩:=hg;intro a n c v' h';rw [he]at h';injection h' with h'
     injection h' with h'
     injection h' with h'
     injection h' with h2 _
     rw [h2]at h1;exact Wdn h1
    obtain ⟨a,c,l',rfl,hN,hb'⟩:=hg.nodes (λx hx=>⟨F7 (ht.2.2.2.1 x hx) (by omega),(ht.2.2.2.2 x hx).1,(ht.2.2.2.2 x hx).2,Qzm ht.1 x hx⟩);refine ⟨⟨hb,.inr ⟨L,_,Kt,hr,.inl ⟨ps,s',l',a,c,rfl,he,hN,hb',?_⟩⟩⟩,hcap⟩;have:=congrArg List.length hb';rw [Zr]at this;omega
  ·match v,hr,hp with
   | .error f,hr,hp=>
    have hp:f=(x,q):=(by injection hp);refine ⟨⟨hb,.inr ⟨L,_,Kt,hr,.inr ⟨x,q,by rw [hp],hx,he⟩⟩⟩,?_⟩;intro a n c v' h';rw [he]at h';injection h' with h'
    injection h' with h'
    injection h' with h'
    injection h' with h1 _
    injection h1 with h1 h2 h3
    omega
theorem Q55 (s:ByteArray) (w:World) (hT:Qaw w) (hs:s.size<=65536):
  Calls prog 9 #[.string s] w λe w'=>PT s.data.toList w e w'/\Qpm e:=
 (Wih s w hT.lex hT.ex hT.kw hs).mono λe w' h=>Wq4 hs h
theorem Q6w (l:List Nd):(l.map bare).map Zf=l.map Zf:=by rw [Ea];rfl
theorem Q7x {fs:List Wm} {t:List UInt8} {L:List Tk} {s':PS} {l':List Nd} (h:Quy fs t L s') (hb:l'.map bare=s'.l):Wh l'/\(∀j,j<l'.length->(nd l' j).n<=9223372036854775807)/\XR l' ((l'.length-1:Nat):Int) fs:=by
 have hlen:l'.length=s'.l.length:=by rw [<-hb,Zr]
 have hR:Rt l':=Q9p (by rw [hb];exact h.right);have hk:(nd l' (l'.length-1)).kind=26:=by have:=h.k26;rw [<-hb,Qdf,Zr]at this;exact this
 have hn: ∀j,j<l'.length->(nd l' j).n<=9223372036854775807:=by intro j hj;have h1:=Qui h.nums j (by rw [<-hlen];exact hj);rw [<-hb,Qdf]at h1;exact h1
 obtain ⟨fs',hx⟩:=Qu4 hR hk hn;have h1:Yb l' (l'.length-1)= .pr fs:=Qri hR.1.2.1 (by rw [<-Q6w,hb];exact h.nodes);have h2:Yb l' (l'.length-1)= .pr fs':=hx.r;rw [h1]at h2;injection h2 with h2
 subst h2;exact ⟨⟨hR,hk⟩,hn,hx⟩
theorem Wf4 {fs:List Wm} {t:List UInt8} {L:List Tk} {s':PS} (h:Quy fs t L s') (hlen:(Xv fs).length<=65536) (S:ByteArray) (hS:S.data.toList=Xv fs) (w:World) (hT:Qaw w):
  Calls prog 9 #[.string S] w λe w'=>Below w.heap.size w w'/\ ∃(l':List Nd) (a:Option Addr) (c n:Nat),e= .returned (.tuple #[.slice a n c,.agg #[.int .i64 0,.int .i64 0]])/\n=l'.length/\n<=c/\n<=100000/\Nodes w' a l'/\l'.map bare=s'.l:=by
 refine (Q55 S w hT (by have h1:S.data.toList.length=S.size:=Au;rw [<-h1,hS];exact hlen)).mono ?_;rintro e w' ⟨⟨hb,hp⟩,hc⟩;refine ⟨hb,?_⟩;rw [hS,h.lex]at hp;rcases hp with ⟨x,q,h1,_⟩ |⟨L',v,h1,hr,hp⟩
 ·cases h1
 ·injection h1 with h1
  subst h1;obtain ⟨ks,hk⟩:=h.reads;have e1:=hk.one hr;subst e1;rcases hp with ⟨ps,s1,l',a,c,h2,he,hN,hb',hl⟩ |⟨x,q,h2,_⟩
  ·injection h2 with h2
   injection h2 with _ h2
   subst h2;exact ⟨l',a,c,l'.length,he,rfl,hc _ _ _ _ he,hl,hN,hb'⟩
  ·cases h2
end
section
open Go.ChangeShapes Go.WideShapes Go.ChangeAt Go.RowKit Go.WideElems
theorem own:ownKnob prog.godebug=none:=by kernel_rfl
theorem Wk7:laidOutB prog=true:=by kernel_rfl
def Bw {H:Type}:List (String×DataW H):=[("math/bits.deBruijn32tab",Rows.laid_math_bits_deBruijn32tab),("math/bits.deBruijn64tab",Rows.laid_math_bits_deBruijn64tab),("internal/strconv.uint64pow10",Rows.laid_internal_strconv_uint64pow10),("balustrade/lex.keyWords",Rows.laid_balustrade_lex_keyWords),("balustrade/expr.signs",Rows.laid_balustrade_expr_signs),("balustrade/expr.strengths",Rows.laid_balustrade_expr_strengths),("balustrade/expr.fronts",Rows.laid_balustrade_expr_fronts),("balustrade/parse.kindWords",Rows.laid_balustrade_parse_kindWords),("balustrade/tree.rows",Rows.laid_balustrade_tree_rows),("balustrade/tree.limits",Rows.laid_balustrade_tree_limits),("balustrade/tree.makings",Rows.laid_balustrade_tree_makings),("balustrade/tree.signs",Rows.laid_balustrade_tree_signs),("balustrade/tree.kindWords",Rows.laid_balustrade_tree_kindWords),("balustrade/tree.keyWords",Rows.laid_balustrade_tree_keyWords),("balustrade/prose.strengths",Rows.laid_balustrade_prose_strengths),("balustrade/prose.heads",Rows.laid_balustrade_prose_heads)]
theorem Woe (os:Os) (args:Array Value):laidMetH prog Bw ((World.doorLaid prog 400 os).forCall (λ_ _=>0) ⟨#[],args,[]⟩).memory:=
 laidMetH_of_parts3 (fuel:=8) (laidMet_of_run' 8 (by kernel_rfl) (by kernel_rfl)) (by kernel_rfl) (by kernel_rfl)
def Qj0 (P:Program):Nat->List Field->Nat->Bool
 |o,[],m=>o==m
 |o,f::r,m=>f.offset==o&&Qj0 P (o+P.cellsOf f.type) r m
def Qgg (P:Program):Nat->TypeId->Bool
 | 0,_=>false
 |g+1,t=>match P.underlying t with
  |some (.int _)=>true
  |some .bool=>true
  |some .string=>true
  |some (.array n e)=>Qgg P g e&&(P.cellsOf t==n*P.cellsOf e)
  |some (.struct fs)=>fs.toList.all (λx=>Qgg P g x.type)&&Qj0 P 0 fs.toList (P.cellsOf t)
  |_=>false
theorem Q70 {H:Type} {c:Nat}: ∀(n:Nat) (cs:List Value) (xs:List (DataW H×List MemPlace)),cs.length=n*c->xs.length=n->
  (∀i y,xs[i]? =some y->(cs.drop (i*c)).take c=flat y.1)->cs=Qcl (xs.map (·.1))
 | 0,cs,xs,h1,h2,_=>by rw [Nat.zero_mul]at h1;rw [List.length_eq_zero_iff.1 h1,List.length_eq_zero_iff.1 h2];rfl
 |n+1,cs,[],h1,h2,_=>by simp at h2
 |n+1,cs,y::r,h1,h2,h=>by
  have h0:=h 0 y rfl;rw [Nat.zero_mul,List.drop_zero]at h0;rw [Nat.add_mul,Nat.one_mul]at h1;have ih:=Q70 (c:=c) n (cs.drop c) r (by rw [Vf];omega) (by simpa using h2) (λi z hz=>by have:=h (i+1) z (by simpa using hz);rw [Nat.add_mul,Nat.one_mul,Nat.add_comm]at this;rw [List.drop_drop];exact this);show cs=flat y.1++Qcl (r.map (·.1));rw [<-ih,<-h0,List.take_append_drop]
theorem Q14 {H:Type} {P:Program} {m:Nat}: ∀(fs:List Field) (o:Nat) (cs:List Value) (xs:List (DataW H×List MemPlace)),cs.length=m->Qj0 P o fs m=true->xs.length=fs.length->
  (∀(i:Nat) (f:Field) (y:DataW H×List MemPlace),fs[i]? =some f->xs[i]? =some y->(cs.drop f.offset).take (P.cellsOf f.type)=flat y.1)->cs.drop o=Qcl (xs.map (·.1))
 | [],o,cs,xs,h1,hc,h2,_=>by
  have hx:xs=[]:=List.length_eq_zero_iff.1 (by simpa using h2);subst hx;have:o=m:=by simpa [Qj0] using hc
  rw [List.drop_eq_nil_iff.2 (by omega)];rfl
 |f::r,o,cs,[],h1,hc,h2,_=>by simp at h2
 |f::r,o,cs,y::q,h1,hc,h2,h=>by simp only [Qj0,Yo,beq_iff_eq]at hc;obtain ⟨ho,hc⟩:=hc;have h0:=h 0 f y rfl rfl;rw [ho]at h0;have ih:=Q14 r (o+P.cellsOf f.type) cs q h1 hc (by simpa using h2) (λi g z hg hz=>h (i+1) g z (by simpa using hg) (by simpa using hz));show cs.drop o=flat y.1++Qcl (q.map (·.1));rw [<-ih,<-h0,<-List.drop_drop,List.take_append_drop]
theorem Qr9 {H:Type} {enc:TypeId×Value->H} {P:Program} {w:World} {base:Nat} {sp:Nat->Bool} {held:Bool}: ∀(g:Nat) (t:TypeId) (fuel:Nat) (cs:List Value) (x:DataW H×List MemPlace),Qgg P g t=true->
  DataW.trod enc P w base sp held fuel t cs=some x->cs=flat x.1
 | 0,t,fuel,cs,x,hp,h=>by simp [Qgg]at hp
 |g+1,t,fuel,cs,x,hp,h=>by
  unfold Qgg at hp;split at hp
  ·rename_i k hk;obtain ⟨n,rfl,rfl,_⟩:=DataW.trod_int hk h;rfl
  ·rename_i hk;obtain ⟨b,rfl,rfl⟩:=DataW.trod_bool hk h;rfl
  ·rename_i hk;obtain ⟨s,rfl,rfl,_⟩:=DataW.trod_string hk h;show [Value.string s]=[Value.string ⟨s.data.toList.toArray⟩];rw [Array.toArray_toList]
  ·rename_i n e hk;rw [Yo,beq_iff_eq]at hp;obtain ⟨xs,m,_,rfl,hl,hlen,hg⟩:=DataW.trod_array hk h;show cs=Qcl _;refine Q70 n cs xs (by rw [hl,hp.2]) hlen (λi y hy=> ?_);obtain ⟨hi,_⟩:=List.getElem?_eq_some_iff.1 hy;have:=hg i (by omega);rw [hy]at this;exact Qr9 g e m _ y hp.1 this
  ·rename_i fs hk;rw [Yo]at hp;obtain ⟨xs,m,_,rfl,hl,hlen,hg⟩:=DataW.trod_struct hk h;show cs=Qcl _;have:=Q14 (P:=P) fs.toList 0 cs xs hl hp.2 (by simpa using hlen) (λi f y hf hy=>by
    have hf':fs[i]? =some f:=(by simpa using hf);have h1:=hg i f hf';rw [hy]at h1;exact Qr9 g f.type m _ y (by have:=List.all_eq_true.1 hp.1 f (List.mem_of_getElem? hf);exact this) h1);simpa using this
  ·cases hp
theorem Q0v {P:Program} {w:World} {n:String} {d:DataW Unit}: ∀{l:List (String×DataW Unit)} {ps:List MemPlace},DataW.LaidVars P w l ps->(n,d)∈l->
  ∃g t cs fuel p,P.globalNamed n=some g/\(P.globals[g]?).map (·.type)=some t/\w.var? P n=some cs/\DataW.trod (λ_=>()) P w 0 (λ_=>true) false fuel t cs.toList=some (d,p)
 | [],_,_,h=>by cases h
 |(m,e)::r,ps,hl,h=>by
  obtain ⟨g,t,cs,fuel,p,q,h1,h2,h3,h4,h5,_⟩:=hl;rcases List.mem_cons.1 h with h' |h'
  ·injection h' with e1 e2
   subst e1 e2;exact ⟨g,t,cs,fuel,p,h1,h2,h3,h4⟩
  ·exact Q0v h5 h'
theorem Mk {w:World} {n:String} {d:DataW Unit} {ps:List MemPlace} {g t:Nat} (h:DataW.LaidVars prog w Bw ps) (hm:(n,d)∈(Bw:List (String×DataW Unit))) (hg:prog.globalNamed n=some g)
  (ht:(prog.globals[g]?).map (·.type)=some t) (hp:Qgg prog 6 t=true): ∃t fr,w.heap[g]? =some (.cells (flat d).toArray t fr):=by
 obtain ⟨g',t',cs,fuel,p,h1,h2,h3,h4⟩:=Q0v h hm;obtain rfl:=Option.some.inj (hg.symm.trans h1);obtain rfl:=Option.some.inj (ht.symm.trans h2);have h5:=Qr9 6 t fuel _ _ hp h4;unfold World.var? at h3;rw [hg]at h3;simp only [Option.bind_some]at h3;split at h3
 ·rename_i cs' t' fr hh;injection h3 with h3
  subst h3;refine ⟨t',fr,?_⟩;rw [hh];have h6:cs'=(flat d).toArray:=by rw [<-h5]
  rw [h6]
 ·cases h3
theorem Qgu {w:World} {g:Nat} {cs ds:Array Value} (h: ∃t fr,w.heap[g]? =some (.cells cs t fr)) (e:cs=ds): ∃t fr,w.heap[g]? =some (.cells ds t fr):=by subst e;exact h
theorem Wrq {W:World} {ps:List MemPlace} (h:DataW.LaidVars prog W Bw ps):Ir W:=by
 refine ⟨⟨?_,?_,?_,?_,?_,?_,?_⟩,?_,?_⟩
 ·exact Mk (g:=6) (t:=138) (n:= "balustrade/tree.rows") (d:=Rows.laid_balustrade_tree_rows) h (by simp [Bw]) (by kernel_rfl) (by kernel_rfl) (by kernel_rfl)
 ·exact Mk (g:=7) (t:=142) (n:= "balustrade/tree.limits") (d:=Rows.laid_balustrade_tree_limits) h (by simp [Bw]) (by kernel_rfl) (by kernel_rfl) (by kernel_rfl)
 ·exact Mk (g:=8) (t:=147) (n:= "balustrade/tree.makings") (d:=Rows.laid_balustrade_tree_makings) h (by simp [Bw]) (by kernel_rfl) (by kernel_rfl) (by kernel_rfl)
 ·exact Mk (g:=3) (t:=124) (n:= "balustrade/tree.signs") (d:=Rows.laid_balustrade_tree_signs) h (by simp [Bw]) (by kernel_rfl) (by kernel_rfl) (by kernel_rfl)
 ·exact Mk (g:=2) (t:=88) (n:= "balustrade/tree.kindWords") (d:=Rows.laid_balustrade_tree_kindWords) h (by simp [Bw]) (by kernel_rfl) (by kernel_rfl) (by kernel_rfl)
 ·exact Mk (g:=11) (t:=132) (n:= "balustrade/tree.keyWords") (d:=Rows.laid_balustrade_tree_keyWords) h (by simp [Bw]) (by kernel_rfl) (by kernel_rfl) (by kernel_rfl)
 ·exact Qgu (Mk (g:=14) (t:=170) (n:= "internal/strconv.uint64pow10") (d:=Rows.laid_internal_strconv_uint64pow10) h (by simp [Bw]) (by kernel_rfl) (by kernel_rfl) (by kernel_rfl)) (by kernel_rfl)
 ·exact Mk (g:=0) (t:=49) (n:= "balustrade/prose.heads") (d:=Rows.laid_balustrade_prose_heads) h (by simp [Bw]) (by kernel_rfl) (by kernel_rfl) (by kernel_rfl)
 ·exact Mk (g:=1) (t:=84) (n:= "balustrade/prose.strengths") (d:=Rows.laid_balustrade_prose_strengths) h (by simp [Bw]) (by kernel_rfl) (by kernel_rfl) (by kernel_rfl)
theorem Wor {W:World} {ps:List MemPlace} (h:DataW.LaidVars prog W Bw ps):Qaw W:=by
 refine ⟨?_,⟨?_,?_,?_⟩,?_⟩
 ·exact Qgu (Mk (g:=4) (t:=132) (n:= "balustrade/lex.keyWords") (d:=Rows.laid_balustrade_lex_keyWords) h (by simp [Bw]) (by kernel_rfl) (by kernel_rfl) (by kernel_rfl)) (by kernel_rfl)
 ·exact Qgu (Mk (g:=9) (t:=153) (n:= "balustrade/expr.strengths") (d:=Rows.laid_balustrade_expr_strengths) h (by simp [Bw]) (by kernel_rfl) (by kernel_rfl) (by kernel_rfl)) (by kernel_rfl)
 ·exact Qgu (Mk (g:=10) (t:=124) (n:= "balustrade/expr.signs") (d:=Rows.laid_balustrade_expr_signs) h (by simp [Bw]) (by kernel_rfl) (by kernel_rfl) (by kernel_rfl)) (by kernel_rfl)
 ·exact Qgu (Mk (g:=13) (t:=160) (n:= "balustrade/expr.fronts") (d:=Rows.laid_balustrade_expr_fronts) h (by simp [Bw]) (by kernel_rfl) (by kernel_rfl) (by kernel_rfl)) (by kernel_rfl)
 ·exact Qgu (Mk (g:=5) (t:=88) (n:= "balustrade/parse.kindWords") (d:=Rows.laid_balustrade_parse_kindWords) h (by simp [Bw]) (by kernel_rfl) (by kernel_rfl) (by kernel_rfl)) (by kernel_rfl)
theorem Wff {W:World} (h:laidMetH prog Bw W):Ir W/\Qaw W:=by rw [MakeChecks.laidMetH_plain _ _ _ (by kernel_rfl)]at h;obtain ⟨ps,h,_⟩:=h;exact ⟨Wrq h,Wor h⟩
end
section
open Go.RowKit
theorem Wfg (a:Option Addr) (n c:Nat) (l:List Nd) (w:World) (hP:Ir w) (hT:Qaw w) (hI:Qha w a n c l):
  Calls prog 3 #[.slice a n c] w λe w'=>e= .returned (.bool true)/\Below w.heap.size w w':=by
 obtain ⟨hl,hcap,hm,hN⟩:=hI;have Zn:Hid (n=l.length):=hl.symm;have HP:=Qa hP;have HT:=Qa hT;have HN:=Qa hN;have Tj:=Qa (Q4c a c n l w hl.symm hN (by unfold maxLen at hm;omega));clear hP hT hN hl;go_enter func3,ntmps3;rw [Qz 3,Qz 7,Qz 9,Qz 10];go_wp2_with fail;refine Tj.out.mono ?_;rintro e w1 ⟨b,rfl,Qja,hw1⟩;rw [hw1];clear hw1 w1;cases b with
 |false=>
  go_wp2_with fail;refine (Ql6 w HP.out).mono ?_;rintro e w2 ⟨rfl,hb⟩;have HB:=Qa hb;clear hb;go_wp2_with fail;go_ret;exact ⟨rfl,HB.out⟩
 |true=>
  have HF:=Qa (Qja rfl);clear Qja;have Wrt:n<=80:=by rw [Zn.out];exact HF.out.1
  go_wp2_with fail;refine (Qt9 a c n l w Zn.out HN.out (by omega)).mono ?_;rintro e w1 ⟨b,rfl,hiff,hb1⟩;have HB1:=Qa hb1;have Ka:=Qa hiff;clear hb1 hiff;cases b with
  |false=>
   go_wp2_with fail;refine (Ql6 w1 (HP.out.below HB1.out)).mono ?_;rintro e w2 ⟨rfl,hb⟩;have HB:Hid (Below w.heap.size w w2):=HB1.out.trans (hb.mono HB1.out.size);clear hb;go_wp2_with fail;go_ret;exact ⟨rfl,HB.out⟩
  |true=>
   have HWH:Hid (Wh l):=Ka.out.1 rfl;have Qdw:Hid (∀j,j<l.length->(nd l j).n<=9223372036854775807):=λj hj=>(HN.out.2 j hj).n1;obtain ⟨fs,hx,hlen,L,s',hag⟩:=Q5f HWH.out.1 HWH.out.2 Qdw.out (by rw [<-Zn.out];exact Wrt);have HX:=Qa hx;have HLEN:=Qa hlen;have HAG:=Qa hag;clear hx hlen hag;obtain ⟨S,hS⟩:=Qb (⟨(Xv fs).toArray⟩:ByteArray);have HS:Hid (S.data.toList=Xv fs):=(by show _=_;rw [hS]);have hsz: ¬(65536:Int)<(S.size:Int):=by have h1:=HLEN.out;have h2:S.size=(Xv fs).length:=(by rw [hS,Ad]);omega
   have Zj:=Qa hS;clear hS;obtain ⟨p,rfl⟩: ∃p,n=p+1:=⟨n-1,by have:=Zn.out;have:=HWH.out.1.1.1;omega⟩;have HPE:Hid (l.length-1=p):=(by show _=_;rw [<-Zn.out,Nat.add_sub_cancel]);go_wp2_with fail;refine Qn ?_;go_wp2_with fail;refine (Q19 a c (p+1) l w1 Zn.out (by omega) hcap (HN.out.below HB1.out) (HP.out.below HB1.out) Qdw.out).mono ?_;rintro e w2 ⟨hb2,hcase⟩;have he:e= .returned (.tuple #[.string S,.bool true]):=by
    rcases hcase with ⟨_,fs',hX,h⟩ |⟨h,_⟩
    ·rw [h,Zj.out,HX.out.one hX]
    ·exact absurd HWH.out h
   subst he;have HB2:Hid (Below w.heap.size w w2):=HB1.out.trans (hb2.mono HB1.out.size);clear hb2 hcase;go_wp2_with fail;refine (Wf4 HAG.out HLEN.out S HS.out w2 (HT.out.below HB2.out)).mono ?_;rintro e w3 ⟨hb3,m,am,cm,nm,rfl,hnm,hcm,hm1,hNm,hbm⟩;have HB3:Hid (Below w.heap.size w w3):=HB2.out.trans (hb3.mono HB2.out.size);have HNM:=Qa hnm;have V9:=Qa hNm;have G7:=Qa (Q7x HAG.out hbm);clear hb3 hnm hNm hbm;go_wp2_with fail;obtain ⟨q,rfl⟩: ∃q,nm=q+1:=⟨nm-1,by have:=HNM.out;have:=G7.out.1.1.1.1;omega⟩;have HQE:Hid (m.length-1=q):=(by show _=_;rw [<-HNM.out,Nat.add_sub_cancel]);obtain ⟨A4,hA4⟩:=Qb w3.heap.size;obtain ⟨w4,hw4⟩:=Qb (w3.alloc (.cells #[.int .i64 0,.int .i64 0] 29));have D6:Hid (Held w4 A4 29 #[.int .i64 0,.int .i64 0]):=(by rw [hw4,hA4];exact Held.new _ _ _);have Qpd:Below w3.heap.size w3 w4:=(by rw [hw4];exact Qag);have Jf:Hid (Below w.heap.size w w4):=HB3.out.trans (Qpd.mono HB3.out.size);have Qkq:=Qa (V9.out.below Qpd);rw [<-hw4,<-hA4];clear hw4 hA4 Qpd;have f0:=D6.out.at_ (j:=0) (v:=.int .i64 0) rfl;obtain ⟨X,hX⟩:=Qb (⟨(Qo4 fs).toArray⟩:ByteArray);have X9:Hid (∀w',Below w.heap.size w w'->Calls prog 10 #[.slice a (p+1) c,.int .i64 (p:Int)] w' λe w''=>e= .returned (.string X)/\Below w'.heap.size w' w''):=λw' hb=>by have h1:=Qta a c (p+1) l w' (p:Int) p Zn.out HWH.out.1 (HN.out.below hb) (by omega) (by rw [<-Zn.out];omega) rfl;have h2:Qo4 fs=tx l p:=(by have:=HX.out.t;rw [HPE.out]at this;exact this);rw [<-h2]at h1;rw [hX];exact h1
   have HTM:Hid (∀w',Below w4.heap.size w4 w'->Calls prog 10 #[.slice am (q+1) cm,.int .i64 (q:Int)] w' λe w''=>e= .returned (.string X)/\Below w'.heap.size w' w''):=λw' hb=>by have h1:=Qta am cm (q+1) m w' (q:Int) q HNM.out G7.out.1.1 (Qkq.out.below hb) (by omega) (by rw [<-HNM.out];omega) rfl;have h2:Qo4 fs=tx m q:=(by have:=G7.out.2.2.t;rw [HQE.out]at this;exact this);rw [<-h2]at h1;rw [hX];exact h1
   clear hX;refine Qn ?_;go_wp2_with fail;refine (Qt9 am cm (q+1) m w4 HNM.out Qkq.out (by omega)).mono ?_;rintro e w5 ⟨b,rfl,hiff,hb5⟩;obtain rfl:b=true:=hiff.2 G7.out.1;have E5:Hid (Below w4.heap.size w4 w5):=hb5;clear hiff hb5 f0;have hqi:IntKind.i64.wrap (q:Int)=(q:Int):=Go.IntWalk.i64_in _ (by omega);have hpi:IntKind.i64.wrap (p:Int)=(p:Int):=Go.IntWalk.i64_in _ (by omega);go_wp2_with fail;refine (HTM.out w5 E5.out).mono ?_;rintro e w6 ⟨rfl,hb6⟩;have Br:Hid (Below w4.heap.size w4 w6):=E5.out.trans (hb6.mono E5.out.size);clear hb6;go_wp2_with fail;refine (X9.out w6 (Jf.out.trans (Br.out.mono Jf.out.size))).mono ?_;rintro e w7 ⟨rfl,M4⟩;have Bv:Hid (Below w4.heap.size w4 w7):=Br.out.trans (M4.mono Br.out.size);have Qm1:Hid (Below w.heap.size w w7):=Jf.out.trans (Bv.out.mono Jf.out.size);clear M4;go_wp2_with fail;refine Qn ?_;go_wp2_with fail;refine (Q19 am cm (q+1) m w7 HNM.out (by omega) hcm (Qkq.out.below Bv.out) (HP.out.below Qm1.out) G7.out.2.1).mono ?_;rintro e w8 ⟨hb8,hcase⟩;have he:e= .returned (.tuple #[.string S,.bool true]):=by
    rcases hcase with ⟨_,fs',hX,h⟩ |⟨h,_⟩
    ·rw [h,Zj.out,G7.out.2.2.one hX]
    ·exact absurd G7.out.1 h
   subst he;have HB8:Hid (Below w.heap.size w w8):=Qm1.out.trans (hb8.mono Qm1.out.size);clear hb8 hcase;go_wp2_with fail;refine Qn ?_;go_wp2_with fail;refine (Ql6 w8 (HP.out.below HB8.out)).mono ?_;rintro e w9 ⟨rfl,Fu⟩;have HB9:Hid (Below w.heap.size w w9):=HB8.out.trans (Fu.mono HB8.out.size);clear Fu;go_wp2_with fail;go_ret;exact ⟨rfl,HB9.out⟩
end
section
open Go.ChangeShapes Go.WideShapes Go.ChangeAt Go.RowKit Go.WideElems
open Go.ChangeMaps (open_string shut_string)
theorem Q9d (a:Option Addr) (n c:Nat) (l:List Nd) (w:World) (hT:Ir w/\Qaw w) (hI:Qha w a n c l):
  Calls prog 3 #[.slice a n c] w λe w'=>e= .returned (.bool true)/\Below w.heap.size w w':=Wfg a n c l w hT.1 hT.2 hI
theorem Qx4 (os:Os) (started:os.Started) (H:Type) (enc:TypeId×Value->H):
  ReturnsInHanded {} Tryz.checked os 3 .any (λw args=>(Rows.proseBackSpec.pre enc prog Tryz.f3 [] false w args/\laidMetH prog Bw w)/\sizedMet enc prog Tryz.f3 (OpenSpec.ofChange Rows.proseBackSpec) false w args)
   (Rows.proseBackSpec.post enc prog Tryz.f3 false true false false):=by
 refine returnsInHanded_of_change_and (C:=Tryz.checked) (X:=λw _=>laidMetH prog Bw w) (λ_ _ _ hh h=>h.of_heap hh) own started (by kernel_rfl) func3
  (ChangeSpec.witness_shaped (enc:=enc) (C:=Tryz.checked) (os:=os) (X:=λw _=>laidMetH prog Bw w) false (World.doorLaid prog 400 os) #[.slice none 0 0] 8 rfl (World.shaped_of_RefB (by kernel_rfl) (by kernel_rfl)) (by kernel_rfl) (by kernel_rfl) (by kernel_rfl) (Woe os _)) ?_;intro W base args ds gs before hval0 hW _ hz hL _;have hT:=Wff hL;have hval: ∀(j:Nat) t v,Tryz.f3.params[j]? =some t->args[j]? =some v->Value.okWide prog W .any base t v:=hval0;have hW':=hW;obtain ⟨p,q,hA0,hV,rfl,hfz,hnd⟩:=hW;have hA:DataW.TrodAll enc prog W 0 (λ_=>true) true Tryz.f3.params.toList args.toList ds p:=hA0;rw [Tryz.params3]at hA hval;obtain ⟨v0,vs0,d0,ds0,p0,q0,hargs,rfl,rfl,h0,r0⟩:=trodAll_cons hA;obtain ⟨rfl,rfl,rfl⟩:=trodAll_nil r0;obtain rfl:args= #[v0]:=by cases args;simp_all
 obtain ⟨rfl,rfl⟩:=trodVars_none hV;obtain ⟨a0,Qwa,cap0,rfl⟩:=okWide_slice underlying22 (hval 0 22 v0 rfl rfl);have k0:=h0;have lt0: ∀x∈p0,x.block<W.heap.size:=by obtain ⟨m,hm⟩:=k0;exact DataW.trod_lt m _ _ _ hm
 have z0: ∀m∈d0.weights prog 22,m<=reachBytes:=λm hm=>by have hm2:=DataW.weights_mem_each (P:=prog) (ts:=Tryz.f3.params.toList++Rows.proseBackSpec.plain.varTypes prog) (ds:=[d0]++[]) (j:=0) (t:=22) (d:=d0) (by kernel_rfl) rfl m hm;have:=List.all_eq_true.1 hz m hm2;simpa using this
 obtain ⟨l0,w0⟩: ∃l,Qha W a0 Qwa cap0 l:=by obtain ⟨fuel,hf⟩:=h0;exact Wfp hf z0
 clear hA0 hval0;refine (Q9d a0 Qwa cap0 l0 W hT w0).mono λe W' ⟨he,Ti⟩=> ?_;subst he;exact ⟨_,rfl,_,_,_,[],_,[],hW',trodAll_mk1 (shut_bool underlying4 _),(trodAll_cons_mk (Below.trod Wk7 (by kernel_rfl) (of_decide_eq_true (by kernel_rfl)) k0 Ti lt0) trodAll_mk0),rfl,Ti.frame _,λh=>by cases h⟩
theorem Wsk:Rows.ProseBackSaid:=
 OpenClaim.holds_of_wide 3 Tryz.f3 rfl rfl rfl rfl rfl rfl rfl ⟨rfl,rfl,rfl,rfl,rfl⟩ rfl rfl rfl rfl rfl (by kernel_rfl) func3 (by kernel_rfl)
  (of_decide_eq_true (by kernel_rfl)) (by unfold Func.isWrapper;first |(rw [Qk (by decide+kernel)];kernel_rfl) |(rw [Qd (by decide+kernel)];exact ⟨rfl,rfl⟩))
  (λos started H enc _=>Qx4 os started H enc)
theorem pback_holds:Rows.ProseBackCardSaid:=
 Claim7.holds_tied_plain_at .later [] [.data,.data,.data,.data,.data,.data,.data,.data,.data,.data,.data,.data,.data,.data,.data,.data] true Rows.proseBackCard.stood.harness false
  Wsk (λ_ h=>by cases h) (by kernel_rfl) (λ_ h=>by cases h) proseBack_row_tie rfl ⟨rfl,rfl⟩ (by kernel_rfl) rfl
  (λf fn hf hfn=>by
   obtain rfl:f=3:=Option.some.inj ((show prog.funcNamed "balustrade/balustradelaw09.ProseBack" =some 3 by kernel_rfl).symm.trans hf) |>.symm;obtain rfl:fn=Tryz.f3:=(Option.some.inj (func3.symm.trans hfn)).symm;exact ⟨by kernel_rfl,λj t ht=>by rw [Tryz.params3]at ht;have hm:t∈[22]:=(by simpa using Array.mem_of_getElem? ht);have hall:([22].all λu=> !prog.wantsStandIn u)=true:=(by kernel_rfl);exact (show prog.wantsStandIn t=false by simpa using List.all_eq_true.1 hall t hm)⟩)
  (by kernel_rfl)
#print axioms pback_holds
end
end Go.Proofs.YtdncpkkhkbijfaaGreatDoor
