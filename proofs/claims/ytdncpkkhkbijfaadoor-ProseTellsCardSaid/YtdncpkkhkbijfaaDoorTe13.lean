import Derived.Test.YtdncpkkhkbijfaaDoorTe12
import Derived.LaidMore
import Derived.ShutString
import Derived.ChangeOld
import Derived.Stop.Joined
open Go.Proofs.Tryd
set_option linter.all false
set_option maxHeartbeats 0
set_option maxRecDepth 100000
namespace Go.Proofs.YtdncpkkhkbijfaaDoor
section
open Go.ChangeShapes Go.WideShapes Go.ChangeAt Go.RowKit Go.WideElems
theorem own:ownKnob prog.godebug=none:=by kernel_rfl
theorem Qdw:laidOutB prog=true:=by kernel_rfl
def Vs {H:Type}:List (String×DataW H):=[("math/bits.deBruijn32tab",Rows.laid_math_bits_deBruijn32tab),("math/bits.deBruijn64tab",Rows.laid_math_bits_deBruijn64tab),("internal/strconv.uint64pow10",Rows.laid_internal_strconv_uint64pow10),("balustrade/tree.rows",Rows.laid_balustrade_tree_rows),("balustrade/tree.limits",Rows.laid_balustrade_tree_limits),("balustrade/tree.makings",Rows.laid_balustrade_tree_makings),("balustrade/tree.signs",Rows.laid_balustrade_tree_signs),("balustrade/tree.kindWords",Rows.laid_balustrade_tree_kindWords),("balustrade/tree.keyWords",Rows.laid_balustrade_tree_keyWords),("balustrade/prose.strengths",Rows.laid_balustrade_prose_strengths),("balustrade/prose.heads",Rows.laid_balustrade_prose_heads)]
theorem Qpq (os:Os) (args:Array Value):laidMetH prog Vs ((World.doorLaid prog 400 os).forCall (λ_ _=>0) ⟨#[],args,[]⟩).memory:=
 laidMetH_of_parts3 (fuel:=8) (laidMet_of_run' 8 (by kernel_rfl) (by kernel_rfl)) (by kernel_rfl) (by kernel_rfl)
def H7 (P:Program):Nat->List Field->Nat->Bool
 |o,[],m=>o==m
 |o,f::r,m=>f.offset==o&&H7 P (o+P.cellsOf f.type) r m
def F7 (P:Program):Nat->TypeId->Bool
 | 0,_=>false
 |g+1,t=>match P.underlying t with
  |some (.int _)=>true
  |some .bool=>true
  |some .string=>true
  |some (.array n e)=>F7 P g e&&(P.cellsOf t==n*P.cellsOf e)
  |some (.struct fs)=>fs.toList.all (λx=>F7 P g x.type)&&H7 P 0 fs.toList (P.cellsOf t)
  |_=>false
theorem Qge {H:Type} {c:Nat}: ∀(n:Nat) (cs:List Value) (xs:List (DataW H×List MemPlace)),cs.length=n*c->xs.length=n->
  (∀i y,xs[i]? =some y->(cs.drop (i*c)).take c=flat y.1)->cs=Dt (xs.map (·.1))
 | 0,cs,xs,h1,h2,_=>by rw [Nat.zero_mul]at h1;rw [List.length_eq_zero_iff.1 h1,List.length_eq_zero_iff.1 h2];rfl
 |n+1,cs,[],h1,h2,_=>by simp at h2
 |n+1,cs,y::r,h1,h2,h=>by
  have h0:=h 0 y rfl;rw [Nat.zero_mul,List.drop_zero]at h0;rw [Nat.add_mul,Nat.one_mul]at h1;have ih:=Qge (c:=c) n (cs.drop c) r (by rw [Xt];omega) (by simpa using h2) (λi z hz=>by have:=h (i+1) z (by simpa using hz);rw [Nat.add_mul,Nat.one_mul,Nat.add_comm]at this;rw [List.drop_drop];exact this);show cs=flat y.1++Dt (r.map (·.1));rw [<-ih,<-h0,List.take_append_drop]
theorem Qgj {H:Type} {P:Program} {m:Nat}: ∀(fs:List Field) (o:Nat) (cs:List Value) (xs:List (DataW H×List MemPlace)),cs.length=m->H7 P o fs m=true->xs.length=fs.length->
  (∀(i:Nat) (f:Field) (y:DataW H×List MemPlace),fs[i]? =some f->xs[i]? =some y->(cs.drop f.offset).take (P.cellsOf f.type)=flat y.1)->cs.drop o=Dt (xs.map (·.1))
 | [],o,cs,xs,h1,hc,h2,_=>by
  have hx:xs=[]:=List.length_eq_zero_iff.1 (by simpa using h2);subst hx;have:o=m:=by simpa [H7] using hc
  rw [List.drop_eq_nil_iff.2 (by omega)];rfl
 |f::r,o,cs,[],h1,hc,h2,_=>by simp at h2
 |f::r,o,cs,y::q,h1,hc,h2,h=>by simp only [H7,Q7,beq_iff_eq]at hc;obtain ⟨ho,hc⟩:=hc;have h0:=h 0 f y rfl rfl;rw [ho]at h0;have ih:=Qgj r (o+P.cellsOf f.type) cs q h1 hc (by simpa using h2) (λi g z hg hz=>h (i+1) g z (by simpa using hg) (by simpa using hz));show cs.drop o=flat y.1++Dt (q.map (·.1));rw [<-ih,<-h0,<-List.drop_drop,List.take_append_drop]
theorem Sl {H:Type} {enc:TypeId×Value->H} {P:Program} {w:World} {base:Nat} {sp:Nat->Bool} {held:Bool}: ∀(g:Nat) (t:TypeId) (fuel:Nat) (cs:List Value) (x:DataW H×List MemPlace),F7 P g t=true->
  DataW.trod enc P w base sp held fuel t cs=some x->cs=flat x.1
 | 0,t,fuel,cs,x,hp,h=>by simp [F7]at hp
 |g+1,t,fuel,cs,x,hp,h=>by
  unfold F7 at hp;split at hp
  ·rename_i k hk;obtain ⟨n,rfl,rfl,_⟩:=DataW.trod_int hk h;rfl
  ·rename_i hk;obtain ⟨b,rfl,rfl⟩:=DataW.trod_bool hk h;rfl
  ·rename_i hk;obtain ⟨s,rfl,rfl,_⟩:=DataW.trod_string hk h;show [Value.string s]=[Value.string ⟨s.data.toList.toArray⟩];rw [Array.toArray_toList]
  ·rename_i n e hk;rw [Q7,beq_iff_eq]at hp;obtain ⟨xs,m,_,rfl,hl,hlen,hg⟩:=DataW.trod_array hk h;show cs=Dt _;refine Qge n cs xs (by rw [hl,hp.2]) hlen (λi y hy=> ?_);obtain ⟨hi,_⟩:=List.getElem?_eq_some_iff.1 hy;have:=hg i (by omega);rw [hy]at this;exact Sl g e m _ y hp.1 this
  ·rename_i fs hk;rw [Q7]at hp;obtain ⟨xs,m,_,rfl,hl,hlen,hg⟩:=DataW.trod_struct hk h;show cs=Dt _;have:=Qgj (P:=P) fs.toList 0 cs xs hl hp.2 (by simpa using hlen) (λi f y hf hy=>by
    have hf':fs[i]? =some f:=(by simpa using hf);have h1:=hg i f hf';rw [hy]at h1;exact Sl g f.type m _ y (by have:=List.all_eq_true.1 hp.1 f (List.mem_of_getElem? hf);exact this) h1);simpa using this
  ·cases hp
theorem Qgw {P:Program} {w:World} {n:String} {d:DataW Unit}: ∀{l:List (String×DataW Unit)} {ps:List MemPlace},DataW.LaidVars P w l ps->(n,d)∈l->
  ∃g t cs fuel p,P.globalNamed n=some g/\(P.globals[g]?).map (·.type)=some t/\w.var? P n=some cs/\DataW.trod (λ_=>()) P w 0 (λ_=>true) false fuel t cs.toList=some (d,p)
 | [],_,_,h=>by cases h
 |(m,e)::r,ps,hl,h=>by
  obtain ⟨g,t,cs,fuel,p,q,h1,h2,h3,h4,h5,_⟩:=hl;rcases List.mem_cons.1 h with h' |h'
  ·injection h' with e1 e2
   subst e1 e2;exact ⟨g,t,cs,fuel,p,h1,h2,h3,h4⟩
  ·exact Qgw h5 h'
theorem Cx {w:World} {n:String} {d:DataW Unit} {ps:List MemPlace} {g t:Nat} (h:DataW.LaidVars prog w Vs ps) (hm:(n,d)∈(Vs:List (String×DataW Unit))) (hg:prog.globalNamed n=some g)
  (ht:(prog.globals[g]?).map (·.type)=some t) (hp:F7 prog 6 t=true): ∃t fr,w.heap[g]? =some (.cells (flat d).toArray t fr):=by
 obtain ⟨g',t',cs,fuel,p,h1,h2,h3,h4⟩:=Qgw h hm;obtain rfl:=Option.some.inj (hg.symm.trans h1);obtain rfl:=Option.some.inj (ht.symm.trans h2);have h5:=Sl 6 t fuel _ _ hp h4;unfold World.var? at h3;rw [hg]at h3;simp only [Option.bind_some]at h3;split at h3
 ·rename_i cs' t' fr hh;injection h3 with h3
  subst h3;refine ⟨t',fr,?_⟩;rw [hh];have h6:cs'=(flat d).toArray:=by rw [<-h5]
  rw [h6]
 ·cases h3
theorem Qnb {w:World} {g:Nat} {cs ds:Array Value} (h: ∃t fr,w.heap[g]? =some (.cells cs t fr)) (e:cs=ds): ∃t fr,w.heap[g]? =some (.cells ds t fr):=by subst e;exact h
theorem Qhg {W:World} {ps:List MemPlace} (h:DataW.LaidVars prog W Vs ps):Jf W:=by
 refine ⟨⟨?_,?_,?_,?_,?_,?_,?_⟩,?_,?_⟩
 ·exact Cx (g:=4) (t:=88) (n:= "balustrade/tree.rows") (d:=Rows.laid_balustrade_tree_rows) h (by simp [Vs]) (by kernel_rfl) (by kernel_rfl) (by kernel_rfl)
 ·exact Cx (g:=5) (t:=92) (n:= "balustrade/tree.limits") (d:=Rows.laid_balustrade_tree_limits) h (by simp [Vs]) (by kernel_rfl) (by kernel_rfl) (by kernel_rfl)
 ·exact Cx (g:=6) (t:=97) (n:= "balustrade/tree.makings") (d:=Rows.laid_balustrade_tree_makings) h (by simp [Vs]) (by kernel_rfl) (by kernel_rfl) (by kernel_rfl)
 ·exact Cx (g:=3) (t:=75) (n:= "balustrade/tree.signs") (d:=Rows.laid_balustrade_tree_signs) h (by simp [Vs]) (by kernel_rfl) (by kernel_rfl) (by kernel_rfl)
 ·exact Cx (g:=2) (t:=60) (n:= "balustrade/tree.kindWords") (d:=Rows.laid_balustrade_tree_kindWords) h (by simp [Vs]) (by kernel_rfl) (by kernel_rfl) (by kernel_rfl)
 ·exact Cx (g:=7) (t:=102) (n:= "balustrade/tree.keyWords") (d:=Rows.laid_balustrade_tree_keyWords) h (by simp [Vs]) (by kernel_rfl) (by kernel_rfl) (by kernel_rfl)
 ·exact Qnb (Cx (g:=9) (t:=112) (n:= "internal/strconv.uint64pow10") (d:=Rows.laid_internal_strconv_uint64pow10) h (by simp [Vs]) (by kernel_rfl) (by kernel_rfl) (by kernel_rfl)) (by kernel_rfl)
 ·exact Cx (g:=0) (t:=46) (n:= "balustrade/prose.heads") (d:=Rows.laid_balustrade_prose_heads) h (by simp [Vs]) (by kernel_rfl) (by kernel_rfl) (by kernel_rfl)
 ·exact Cx (g:=1) (t:=57) (n:= "balustrade/prose.strengths") (d:=Rows.laid_balustrade_prose_strengths) h (by simp [Vs]) (by kernel_rfl) (by kernel_rfl) (by kernel_rfl)
theorem Qru {W:World} (h:laidMetH prog Vs W):Jf W:=by rw [MakeChecks.laidMetH_plain _ _ _ (by kernel_rfl)]at h;obtain ⟨ps,h,_⟩:=h;exact Qhg h
end
section
open Go.RowKit
def Bd (B ob:Nat) (t:List UInt8) (w:World):Prop:=Lib.IsBuilderF 39 5 B ob (Lib.byteCells t) w
theorem Bd.below {B ob:Nat} {t:List UInt8} {w w':World} (h:Bd B ob t w) (hb:Below w.heap.size w w'):Bd B ob t w':=Me h hb
theorem Bd.size {B ob:Nat} {t:List UInt8} {w:World} (h:Bd B ob t w):B<=w.heap.size:=Fg h
theorem Bd.lt {B ob:Nat} {t:List UInt8} {w:World} (h:Bd B ob t w):ob<w.heap.size:=by
 rcases h with h |h
 ·exact h.lt
 ·exact h.lt
structure Qc (B ob:Nat) (w w':World):Prop where
 below:Below B w w'
 kept:Lib.OthersKept 5 (some ob) w w'
theorem Qc.refl (B ob:Nat) (w:World):Qc B ob w w:=⟨Below.refl _ _,Lib.OthersKept.refl _ _ _⟩
theorem Qc.trans {B ob:Nat} {w w1 w2:World} (h:Qc B ob w w1) (g:Qc B ob w1 w2):Qc B ob w w2:=⟨h.below.trans g.below,h.kept.trans g.kept⟩
theorem Qc.of {B ob:Nat} {w w':World} (h:B<=w.heap.size) (hb:Below w.heap.size w w'):Qc B ob w w':=⟨hb.mono h,Hr hb⟩
theorem Qc.held {B ob:Nat} {w w':World} (h:Qc B ob w w') {g:Nat} {T:TypeId} {cs:Array Value} (hh:Held w g T cs) (hg:g≠ob) (hT:T≠5):Held w' g T cs:=
 h.kept _ _ hh (λe=>hg (by injection e)) (λc fz e=>hT (by injection e))
theorem Mj {B ob:Nat} {t:List UInt8} {w:World} (s:ByteArray) (h:Bd B ob t w) (hl:t.length+s.size<=140737488355328):
  Calls prog 15 #[.pointer (some ⟨ob,0,none⟩),.string s] w λe w'=>e= .returned (.tuple #[.int .i64 s.size,.nilIface])/\Bd B ob (t++s.data.toList) w'/\Qc B ob w w':=by
 refine (Tryd.Builder_WriteString_k B ob (Lib.byteCells t) s w h (by rw [Lib.byteCells_length];exact hl) h.size).mono ?_;rintro e w' ⟨he,hb,h1,h2⟩;refine ⟨he,?_,⟨h1,h2⟩⟩;have hb':=hb;rw [Lib.strCells_eq,<-Lib.byteCells_append]at hb';exact .inr hb'
theorem Yb {B ob:Nat} {t:List UInt8} {w:World} (s:List UInt8) (h:Bd B ob t w) (hl:t.length+s.length<=140737488355328):
  Calls prog 15 #[.pointer (some ⟨ob,0,none⟩),.string ⟨s.toArray⟩] w λe w'=>e= .returned (.tuple #[.int .i64 (⟨s.toArray⟩:ByteArray).size,.nilIface])/\Bd B ob (t++s) w'/\Qc B ob w w':=
 Mj ⟨s.toArray⟩ h hl
theorem Xb {B ob:Nat} {t:List UInt8} {w:World} (s:ByteArray) (b:List UInt8) (hs:s.data.toList=b) (h:Bd B ob t w) (hl:t.length+b.length<=140737488355328):
  Calls prog 15 #[.pointer (some ⟨ob,0,none⟩),.string s] w λe w'=>e= .returned (.tuple #[.int .i64 s.size,.nilIface])/\Bd B ob (t++b) w'/\Qc B ob w w':=by
 subst hs;exact Mj s h (by rw [Gw]at hl;exact hl)
structure Pl where
 w0:World
 a:Option Addr
 l:List Nd
 n:Nat
 c:Nat
 ob:Nat
 lb:Nat
 xb:Nat
 bb:Nat
 pb:Nat
def Pl.B (P:Pl):Nat:=P.w0.heap.size
structure Ya (P:Pl) (t:List UInt8) (w:World):Prop where
 nodes:Nodes P.w0 P.a P.l
 len:P.n=P.l.length
 few:P.n<=1000000000
 cap:P.n<=P.c
 tree:Qo P.l
 tabs:Jf P.w0
 below:Below P.B P.w0 w
 bd:Bd P.B P.ob t w
 lc:Held w P.lb 22 #[.slice P.a P.n P.c]
 xc:Held w P.xb 36 #[.pointer (some ⟨P.ob,0,none⟩)]
 bc:Held w P.bb 40 #[.func (.func 34) #[] #[.pointer (some ⟨P.lb,0,none⟩),.pointer (some ⟨P.pb,0,none⟩),.pointer (some ⟨P.xb,0,none⟩)]]
 pc:Held w P.pb 50 #[.func (.func 35) #[] #[.pointer (some ⟨P.lb,0,none⟩),.pointer (some ⟨P.xb,0,none⟩),.pointer (some ⟨P.bb,0,none⟩),.pointer (some ⟨P.pb,0,none⟩)]]
 lo:P.lb≠P.ob
 xo:P.xb≠P.ob
 bo:P.bb≠P.ob
 po:P.pb≠P.ob
theorem Ya.keep {P:Pl} {t t':List UInt8} {w w':World} (h:Ya P t w) (hk:Qc P.B P.ob w w') (hb:Bd P.B P.ob t' w'):Ya P t' w':=
 ⟨h.nodes,h.len,h.few,h.cap,h.tree,h.tabs,h.below.trans hk.below,hb,hk.held h.lc h.lo (by decide),hk.held h.xc h.xo (by decide),hk.held h.bc h.bo (by decide),hk.held h.pc h.po (by decide),h.lo,h.xo,h.bo,h.po⟩
theorem Ya.since {P:Pl} {t:List UInt8} {w w':World} (h:Ya P t w) (hb:Below w.heap.size w w'):Ya P t w':=h.keep (.of h.bd.size hb) (h.bd.below hb)
def U6 (P:Pl) (t:List UInt8) (w:World) (e:Ending) (w':World):Prop:=e= .returned (.tuple #[])/\Ya P t w'/\Qc P.B P.ob w w'
def Yr (P:Pl) (q:Nat) (e:Ex):Prop:= ∀(t:List UInt8) (w:World),Ya P t w->t.length+e.txt.length<=140737488355328->
 Calls prog 35 #[.int .i64 (q:Int),.pointer (some ⟨P.lb,0,none⟩),.pointer (some ⟨P.xb,0,none⟩),.pointer (some ⟨P.bb,0,none⟩),.pointer (some ⟨P.pb,0,none⟩)] w (U6 P (t++e.txt) w)
theorem O8 (t:List UInt8):Zb true t=[40]++t++[41]:=rfl
theorem Qi8 (t:List UInt8):Zb false t=t:=rfl
theorem Qig {P:Pl} {q m:Nat} {x:Ex} {t:List UInt8} {w:World} (hq:q<P.l.length) (hx:XE P.l (q:Int) x) (hk:Qt (nd P.l q).kind=true) (hput:Yr P q x) (hE:Ya P t w) (hl:t.length+(Zb (decide (x.st<m)) x.txt).length<=140737488355328):
  Calls prog 34 #[.int .i64 (q:Int),.int .i64 (m:Int),.pointer (some ⟨P.lb,0,none⟩),.pointer (some ⟨P.pb,0,none⟩),.pointer (some ⟨P.xb,0,none⟩)] w (U6 P (t++Zb (decide (x.st<m)) x.txt) w):=by
 have HST:=Qa (hE.tree.st hq hk hx);have HE:=Qa hE;have Xq:=Qa hput;have HL:=Qa hl;have D9:(q:Int)<(P.n:Int):=by have:=hE.len;omega
 clear hE hput hl hx hk;have cL:=HE.out.lc.at_ (j:=0) rfl;obtain ⟨nb,no,ha,hnb,c0,c1,c2,c3,c4⟩:=(HE.out.nodes.below HE.out.below).at_ hq;rw [ha]at cL;obtain ⟨y,hy⟩:=Qb (nd P.l q);rw [<-hy]at c0 c1 c2 c3 c4 HST;have Zf:=Qa (Vq y.kind y.n y.ka y.kids.length y.kc y.s y.at_ w ⟨HE.out.tabs.tabs.below HE.out.below,Wm HE.out.tabs.heads HE.out.below,Wm HE.out.tabs.strs HE.out.below⟩);rw [HST.out]at Zf;clear hy ha HST;obtain ⟨k,hk⟩:=Qb x.st;rw [<-hk]at Zf HL ⊢;clear hk;by_cases hkm:k<m
 ·have hge: ¬(m:Int)<=(k:Int):=by omega
  rw [decide_eq_true hkm]at HL ⊢;clear hkm;go_enter func34,ntmps34;go_wp2_with fail;refine Zf.out.mono ?_;rintro e w1 ⟨rfl,hb1⟩;have Qi:=Qa (HE.out.since hb1);have Y3:Hid (Qc P.B P.ob w w1):=.of HE.out.bd.size hb1;clear hb1 c0 c1 c2 c3 c4 cL;have cX:=Qi.out.xc.at_ (j:=0) rfl;go_wp2_with fail;refine (Mj _ Qi.out.bd (by have h1:=HL.out;rw [O8,Qd,Qd]at h1;show _+1<=_;have e1:[(40:UInt8)].length=1:=rfl;omega)).mono ?_;rintro e w2 ⟨rfl,hb2,hk2⟩;have Ws:Hid (Qc P.B P.ob w w2):=Y3.out.trans hk2;have HE2:=Qa (Qi.out.keep hk2 hb2);clear hb2 hk2 cX;have cP:=HE2.out.pc.at_ (j:=0) rfl;have hp:=Xq.out _ w2 HE2.out (by have h1:=HL.out;rw [O8,Qd,Qd]at h1;rw [Qd];show _+1+_<=_;have e1:[(40:UInt8)].length=1:=rfl;omega);have HP:=Qa hp;clear hp;go_wp2_with fail;refine HP.out.mono ?_;rintro e w3 ⟨rfl,Qy,hk3⟩;have Wn:Hid (Qc P.B P.ob w w3):=Ws.out.trans hk3;have Qj:=Qa Qy;clear Qy hk3 cP;have cX:=Qj.out.xc.at_ (j:=0) rfl;go_wp2_with fail;refine (Mj _ Qj.out.bd (by have h1:=HL.out;rw [O8,Qd,Qd]at h1;rw [Qd,Qd];show _+1+_+1<=_;have e1:[(40:UInt8)].length=1:=rfl;have e2:[(41:UInt8)].length=1:=rfl;omega)).mono ?_;rintro e w4 ⟨rfl,hb4,hk4⟩;have Yd:Hid (Qc P.B P.ob w w4):=Wn.out.trans hk4;have Qw:=Qa (Qj.out.keep hk4 hb4);clear hb4 hk4;go_wp2_with fail;go_end0;refine ⟨rfl,?_,Yd.out⟩;have h:=Qw.out;rw [O8,<-Yg,<-Yg];exact h
 ·have hge:(m:Int)<=(k:Int):=by omega
  rw [decide_eq_false hkm,Qi8]at HL ⊢;clear hkm;go_enter func34,ntmps34;go_wp2_with fail;refine Zf.out.mono ?_;rintro e w1 ⟨rfl,hb1⟩;have Qi:=Qa (HE.out.since hb1);have Y3:Hid (Qc P.B P.ob w w1):=.of HE.out.bd.size hb1;clear hb1 c0 c1 c2 c3 c4 cL;have cP:=Qi.out.pc.at_ (j:=0) rfl;have hp:=Xq.out _ w1 Qi.out HL.out;have HP:=Qa hp;clear hp;go_wp2_with fail;refine HP.out.mono ?_;rintro e w3 ⟨rfl,Qy,hk3⟩;have Wn:Hid (Qc P.B P.ob w w3):=Y3.out.trans hk3;have Qj:=Qa Qy;clear Qy hk3;go_wp2_with fail;go_end0;exact ⟨rfl,Qj.out,Wn.out⟩
theorem Ed {P:Pl} {q m:Nat} {x:Ex} {t:List UInt8} {w:World} {c:Bool} (hc:c=decide (x.st<m)) (hq:q<P.l.length) (hx:XE P.l (q:Int) x) (hk:Qt (nd P.l q).kind=true) (hput:Yr P q x) (hE:Ya P t w) (hl:t.length+(Zb c x.txt).length<=140737488355328):
  Calls prog 34 #[.int .i64 (q:Int),.int .i64 (m:Int),.pointer (some ⟨P.lb,0,none⟩),.pointer (some ⟨P.pb,0,none⟩),.pointer (some ⟨P.xb,0,none⟩)] w (U6 P (t++Zb c x.txt) w):=by
 subst hc;exact Qig hq hx hk hput hE hl
theorem Uj (x:Nd):x.s=⟨x.t.toArray⟩:=by show x.s=⟨x.s.data.toList.toArray⟩;rw [Array.toArray_toList]
structure Qoe (P:Pl) (i:Nat) (K n:Int) (s:List UInt8) (ks:List Int) (nb no:Nat) (ka:Option Addr) (kc:Nat) (at_:Int):Prop where
 base:P.a=some ⟨nb,no,none⟩
 cells: ∀(t:List UInt8) (w:World),Ya P t w->w.cell? ⟨nb,no+i*5,none⟩=some (.int .i64 K)/\w.cell? ⟨nb,no+i*5+1,none⟩=some (.slice ka ks.length kc)/\w.cell? ⟨nb,no+i*5+2,none⟩=some (.int .i64 n)/\w.cell? ⟨nb,no+i*5+3,none⟩=some (.string ⟨s.toArray⟩)/\w.cell? ⟨nb,no+i*5+4,none⟩=some (.int .i64 at_)
 cap:ks.length<=kc
 kids:0<ks.length-> ∃kb ko,ka=some ⟨kb,ko,none⟩/\ ∀(t:List UInt8) (w:World),Ya P t w-> ∀j v,ks[j]? =some v->w.cell? ⟨kb,ko+j,none⟩=some (.int .i64 v)
theorem Zx {P:Pl} {t:List UInt8} {w:World} (hE:Ya P t w) {i:Nat} {K n:Int} {s:List UInt8} {ks:List Int} (h:Qg P.l i K n s ks): ∃nb no ka kc at_,Qoe P i K n s ks nb no ka kc at_:=by
 obtain ⟨nb,no,ha,hnb,hc⟩:=hE.nodes.at_ h.hi;have hok:=hE.nodes.2 i h.hi;refine ⟨nb,no,(nd P.l i).ka,(nd P.l i).kc,(nd P.l i).at_,ha,?_,?_,?_⟩
 ·intro t' w' hE';obtain ⟨d0,d1,d2,d3,d4⟩:=hc.below hE'.below hnb;rw [h.k]at d0;rw [h.ks]at d1;rw [h.n]at d2;rw [Uj,h.t]at d3;exact ⟨d0,d1,d2,d3,d4⟩
 ·rw [<-h.ks];exact hok.cap
 ·intro hp;obtain ⟨kb,ko,hka,hkb,hkc⟩:=hok.rows (by rw [h.ks];exact hp);refine ⟨kb,ko,hka,λt' w' hE' j v hj=> ?_⟩;have hjl:j<ks.length:=(List.getElem?_eq_some_iff.1 hj).1;have h1:=hkc j (by rw [h.ks];exact hjl);rw [hE'.below.cell (p:=⟨kb,ko+j,none⟩) hkb,h1];show some (Value.int .i64 ((nd P.l i).kids.getD j 0))=_;rw [h.ks,Yh,hj];rfl
theorem Iw {α:Type} {d:α} {xs:List α} {j:Nat} (hj:j<xs.length):xs.take (j+1)=xs.take j++[xs.getD j d]:=by rw [List.take_add_one,Za hj,Yh,Za hj];rfl
def Zd (f:Bool) (n:Nat):List UInt8:=if f=true/\n=0 then []else [44,32]
theorem Qf4 (a:Ex): ∀(f:Bool) (xs:List Ex),Q8 f (xs++[a])=Q8 f xs++(Zd f xs.length++a.txt)
 |true,[]=>by simp [Q8,Zd]
 |false,[]=>by simp [Q8,Zd]
 |f,x::xs=>by
  have h:Zd f (x::xs).length=[44,32]:=by unfold Zd;rw [Q6 (by simp)]
  have h2:Zd false xs.length=[44,32]:=rfl;show (if f then []else [44,32])++(x.txt++Q8 false (xs++[a]))=(if f then []else [44,32])++(x.txt++Q8 false xs)++_;rw [Qf4 a false xs,h,h2];simp only [Yg]
theorem Om {xs:List Ex} {j:Nat} (hj:j<xs.length):Q8 true (xs.take (j+1))=Q8 true (xs.take j)++Zd true j++(xs.getD j .nil).txt:=by rw [Iw (d:=Ex.nil) hj,Qf4,Vr,Nat.min_eq_left (by omega),Yg]
theorem Iu: ∀(f:Bool) (xs:List Ex) (j:Nat),(Q8 f (xs.take j)).length<=(Q8 f xs).length
 |f,[],j=>by rw [List.take_nil];exact Yc _
 |f,x::xs,0=>by rw [List.take_zero];exact Kr _
 |f,x::xs,j+1=>by have:=Iu false xs j;show ((if f then []else [44,32])++(x.txt++Q8 false (xs.take j))).length<=((if f then []else [44,32])++(x.txt++Q8 false xs)).length;simp only [Qd];omega
end
theorem Bu (c:Bool) (t:List UInt8):(Zb c t).length<=t.length+2:=by
 cases c with
 |true=>rw [Qmu,Qf,Qd];simp
 |false=>rw [Qpa];omega
theorem Ql3 (op:Nat):(Aw.getD op []).length<=2:=by
 rcases Xa op 17 with h |h
 ·exact (by decide: ∀op,op<17->(Aw.getD op []).length<=2) op h
 ·rw [Yh,Ox (by show 17<=op;exact h)];exact Kr _
mutual
theorem Xi: ∀e:Ex,e.fin->e.txt.length+4<=48*e.size
 | .num n,h=>by rw [Ex.fin]at h;have:=Lib.itoa_length_le (n:Int) (by omega) (by omega);rw [Ex.txt,show (Ex.num n).size=1 from rfl];omega
 | .bool b,h=>by rw [Ex.txt,show (Ex.bool b).size=1 from rfl];cases b<;>decide
 | .nil,h=>by rw [Ex.txt,show Ex.nil.size=1 from rfl];decide
 | .var s,h=>by rw [Ex.fin]at h;have:=h.short;rw [Ex.txt,show (Ex.var s).size=1 from rfl];omega
 | .bin op a b,h=>by rw [Ex.fin]at h;have h1:=Xi a h.2.2.1;have h2:=Xi b h.2.2.2;have h3:=Ql3 op;have h4:=Bu (decide (a.st<=Ec op)) a.txt;have h5:=Bu (decide (b.st<=stOp op)) b.txt;rw [Ex.txt,Ex.size,Qd,Qf,Qd,Qf];omega
 | .neg a,h=>by rw [Ex.fin]at h;have h1:=Xi a h;have h4:=Bu (decide (a.st<=5)) a.txt;rw [Ex.txt,Ex.size,Qf];omega
 | .not a,h=>by rw [Ex.fin]at h;have h1:=Xi a h;have h4:=Bu (decide (a.st<=5)) a.txt;rw [Ex.txt,Ex.size,Qf];omega
 | .index a b,h=>by rw [Ex.fin]at h;have h1:=Xi a h.1;have h2:=Xi b h.2;have h4:=Bu (decide (a.st<=6)) a.txt;rw [Ex.txt,Ex.size,Qd,Qf,Qd,Ef];omega
 | .len a,h=>by rw [Ex.fin]at h;have h1:=Xi a h;rw [Ex.txt,Ex.size,Qd,Qf,Qd,Ef,show Ij.length=3 from rfl];omega
 | .new a,h=>by rw [Ex.fin]at h;have h1:=Xi a h;rw [Ex.txt,Ex.size,Qd,Qf,Qd,Ef,show Hf.length=3 from rfl];omega
 | .call s xs,h=>by rw [Ex.fin]at h;have h1:=Qg1 xs h.2.2 true;have:=h.1.short;rw [Ex.txt,Ex.size,Qd,Qf,Qd,Ef];omega
theorem Qg1: ∀xs:List Ex,Eh xs-> ∀f:Bool,(Q8 f xs).length<=48*sizes xs
 | [],_,f=>by rw [Q8];exact Kr _
 |a::xs,h,f=>by
  rw [Eh]at h;have h1:=Xi a h.1;have h2:=Qg1 xs h.2 false;have h3:((if f=true then []else [44,32]:List UInt8)).length<=2:=by cases f<;>decide
  rw [Q8,sizes,Qd,Qd];omega
end
def Af (b:List St):Nat:=Y0 (Vg b)+1
theorem Qmx (e:Ex) (b:List St):(St.if_ e b).part.size=e.size+(Af b+0)+1:=by rw [St.part];rfl
theorem Qhy (e:Ex) (b c:List St):(St.Kt e b c).part.size=e.size+(Af b+(Af c+0))+1:=by rw [St.part];rfl
theorem Qqq (e:Ex) (b:List St):(St.Kn e b).part.size=e.size+(Af b+0)+1:=by rw [St.part];rfl
theorem Qq1 (s:List UInt8) (a b:Ex) (c:List St):(St.for_ s a b c).part.size=a.size+(b.size+(Af c+0))+1:=by rw [St.part];rfl
theorem Qim (s:List UInt8) (e:Ex):(St.let_ s e).part.size=e.size+0+1:=by rw [St.part];rfl
theorem Qsb (s:List UInt8) (e:Ex):(St.set s e).part.size=e.size+0+1:=by rw [St.part];rfl
theorem Qph (s:List UInt8) (i e:Ex):(St.put s i e).part.size=i.size+(e.size+0)+1:=by rw [St.part];rfl
theorem Qi2 (e:Ex):(St.ret e).part.size=e.size+0+1:=by rw [St.part];rfl
theorem Qmk (e:Ex):(St.print e).part.size=e.size+0+1:=by rw [St.part];rfl
theorem Qhu (s:List UInt8) (xs:List Ex):(St.do_ s xs).part.size=(Ex.call s xs).size+0+1:=by rw [St.part];rfl
theorem Qc9 (a:St) (b:List St):Y0 (Vg (a::b))=a.part.size+Y0 (Vg b):=by rw [Vg];rfl
theorem Cc (n:Nat):(tabs n).length=n:=List.length_replicate
theorem Kk {B n:Nat} (h:48<=B):48*n<=B*n:=Nat.mul_le_mul_right n h
mutual
theorem Qj6: ∀(a:St) (d K B:Nat),a.fin->d+a.part.size<=K->B=2*K+60->(a.txt d).length+d+2<=B*a.part.size
 | .let_ s e,d,K,B,h,hK,hB=>by rw [St.fin]at h;have h1:=Xi e h.2;have h2:=h.1.short;have h3:=Kk (B:=B) (n:=e.size) (by omega);rw [Qim]at hK ⊢;rw [St.txt,Xo,Xo];simp only [Qd,Qf,Qk,show Ja.length=3 from rfl,show eqs.length=1 from rfl];omega
 | .set s e,d,K,B,h,hK,hB=>by rw [St.fin]at h;have h1:=Xi e h.2;have h2:=h.1.short;have h3:=Kk (B:=B) (n:=e.size) (by omega);rw [Qsb]at hK ⊢;rw [St.txt,Xo,Xo];simp only [Qd,Qf,Qk,show eqs.length=1 from rfl];omega
 | .put s i e,d,K,B,h,hK,hB=>by rw [St.fin]at h;have h1:=Xi e h.2.2;have h0:=Xi i h.2.1;have h2:=h.1.short;have h3:=Kk (B:=B) (n:=e.size) (by omega);have h4:=Kk (B:=B) (n:=i.size) (by omega);rw [Qph]at hK ⊢;rw [St.txt,Xo,Xo,Xo];simp only [Qd,Qf,Qk,show eqs.length=1 from rfl];omega
 | .if_ e b,d,K,B,h,hK,hB=>by rw [St.fin]at h;rw [Qmx,Af]at hK ⊢;have h1:=Xi e h.1;have h2:=Di b (d+1) K B h.2 (by omega) hB;have h3:=Kk (B:=B) (n:=e.size) (by omega);rw [St.txt,Xo,Xo,Xo,Xo];simp only [Qd,Qf,Qk,show X8.length=2 from rfl,Cc];omega
 | .Kt e b c,d,K,B,h,hK,hB=>by rw [St.fin]at h;rw [Qhy,Af,Af]at hK ⊢;have h1:=Xi e h.1;have h2:=Di b (d+1) K B h.2.1 (by omega) hB;have h4:=Di c (d+1) K B h.2.2 (by omega) hB;have h3:=Kk (B:=B) (n:=e.size) (by omega);rw [St.txt];simp only [Xo,Qd,Qf,Qk,show X8.length=2 from rfl,show Jc.length=4 from rfl,Cc];omega
 | .Kn e b,d,K,B,h,hK,hB=>by rw [St.fin]at h;rw [Qqq,Af]at hK ⊢;have h1:=Xi e h.1;have h2:=Di b (d+1) K B h.2 (by omega) hB;have h3:=Kk (B:=B) (n:=e.size) (by omega);rw [St.txt];simp only [Xo,Qd,Qf,Qk,show V9.length=5 from rfl,Cc];omega
 | .for_ s a b c,d,K,B,h,hK,hB=>by rw [St.fin]at h;rw [Qq1,Af]at hK ⊢;have h0:=h.1.short;have h1:=Xi a h.2.1;have h5:=Xi b h.2.2.1;have h2:=Di c (d+1) K B h.2.2.2 (by omega) hB;have h3:=Kk (B:=B) (n:=a.size) (by omega);have h4:=Kk (B:=B) (n:=b.size) (by omega);rw [St.txt];simp only [Xo,Qd,Qf,Qk,show V8.length=3 from rfl,show eqs.length=1 from rfl,Cc];omega
 | .brk,d,K,B,h,hK,hB=>by rw [show St.brk.part.size=1 by rw [St.part];rfl]at hK ⊢;rw [St.txt];simp only [Qd,Qf,Qk,show Jt.length=5 from rfl];omega
 | .cont,d,K,B,h,hK,hB=>by rw [show St.cont.part.size=1 by rw [St.part];rfl]at hK ⊢;rw [St.txt];simp only [Qd,Qf,Qk,show Jq.length=8 from rfl];omega
 | .ret e,d,K,B,h,hK,hB=>by rw [St.fin]at h;have h1:=Xi e h;have h3:=Kk (B:=B) (n:=e.size) (by omega);rw [Qi2]at hK ⊢;rw [St.txt];simp only [Xo,Qd,Qf,Qk,show Vy.length=6 from rfl];omega
 | .print e,d,K,B,h,hK,hB=>by rw [St.fin]at h;have h1:=Xi e h;have h3:=Kk (B:=B) (n:=e.size) (by omega);rw [Qmk]at hK ⊢;rw [St.txt];simp only [Xo,Qd,Qf,Qk,show Je.length=5 from rfl];omega
 | .do_ s xs,d,K,B,h,hK,hB=>by rw [St.fin]at h;have h1:=Xi (.call s xs) h;have h3:=Kk (B:=B) (n:=(Ex.call s xs).size) (by omega);rw [Qhu]at hK ⊢;rw [St.txt,Xo,Xo,Qd,Ef];omega
theorem Di: ∀(b:List St) (d K B:Nat),Ku b->d+Y0 (Vg b)<=K->B=2*K+60->(Y4 b d).length<=B*Y0 (Vg b)
 | [],d,K,B,h,hK,hB=>by rw [Y4];exact Kr _
 |a::b,d,K,B,h,hK,hB=>by rw [Ku]at h;rw [Qc9]at hK ⊢;have h1:=Qj6 a d K B h.1 (by omega) hB;have h2:=Di b d K B h.2 (by omega) hB;rw [Y4];simp only [Xo,Qd,Qf,Cc];omega
end
theorem Nq (k:Nat):(Zz k).length<=4:=by
 rcases Xa k 4 with h |h
 ·exact (by decide: ∀k,k<4->(Zz k).length<=4) k h
 ·unfold Zz;rw [Yh,Ox (by show 4<=k;exact h)];exact Kr _
theorem M0: ∀(ps:List (List UInt8×Nat)),(∀p∈ps,Gu p)-> ∀f:Bool,(Yu f ps).length<=48*Y0 (ps.map J6)
 | [],_,f=>Kr _
 |p::ps,h,f=>by
  have h1:=(h p (by simp)).1.short;have h2:=M0 ps (λq hq=>h q (Ip _ hq)) false;have h3:((if f=true then []else [44,32]:List UInt8)).length<=2:=by cases f<;>decide
  have h4:=Nq p.2;have h5:Y0 ((p::ps).map J6)=1+Y0 (ps.map J6):=rfl;rw [Yu,h5];simp only [Qd,Qf];omega
theorem Qpj (ps qs:List Part):Y0 (ps++qs)=Y0 ps+Y0 qs:=by rw [Ib,Ib,Ib,J9,List.sum_append]
theorem Qn4 (f:Wd):f.part.size=Y0 (f.ps.map J6)+(Af f.body+0)+1:=by show Y0 f.parts+1=_;unfold Wd.parts;rw [Qpj];rfl
theorem Qj8 {f:Wd} (h:f.Fin) {K B:Nat} (hK:f.part.size<=K) (hB:B=2*K+60):f.txt.length<=B*f.part.size:=by rw [Qn4,Af]at hK ⊢;have h1:=Di f.body (0+1) K B h.body (by omega) hB;have h2:=M0 f.ps h.Qo6 true;have h3:=Kk (B:=B) (n:=Y0 (f.ps.map J6)) (by omega);have h4:=h.name.short;have h5:=Nq f.k;unfold Wd.txt Ww;simp only [Xo,Qd,Qf,Qk,show Fa.length=2 from rfl,Cc];omega
theorem Uu: ∀(fs:List Wd) (K B:Nat),(∀f∈fs,f.Fin)->Y0 (fs.map Wd.part)<=K->B=2*K+60->(Yx fs).length<=B*Y0 (fs.map Wd.part)
 | [],K,B,_,_,_=>Kr _
 |f::fs,K,B,h,hK,hB=>by have e:Y0 ((f::fs).map Wd.part)=f.part.size+Y0 (fs.map Wd.part):=rfl;rw [e]at hK ⊢;have h1:=Qj8 (h f (by simp)) (K:=K) (by omega) hB;have h2:=Uu fs K B (λq hq=>h q (Ip _ hq)) (by omega) hB;rw [Yx,Qd,Xo];omega
end Go.Proofs.YtdncpkkhkbijfaaDoor
