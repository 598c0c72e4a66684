import Derived.Test.YtdncpkkhkbijfaaDoorTe7
import Derived.Test.YtdncpkkhkbijfaaDoorShelf
import Derived.IntWalk
import Derived.Deep.RegionWith
import Derived.Laws.IdiomStrings
open Go.Proofs.Tryd
set_option linter.all false
set_option maxHeartbeats 0
set_option maxRecDepth 100000
namespace Go.Proofs.YtdncpkkhkbijfaaDoor
section
open Go.RowKit
theorem Qrj (w:World) (k:Nat) (os:Array Obj):Below w.heap.size w (Sort.grow (w.drewN k) os):=
 ⟨rfl,rfl,rfl,by simp [Sort.grow,World.drewN],λj hj=>by simp [Sort.grow,World.drewN,Array.getElem?_append,hj]⟩
theorem Qhr (x:Nd) (w:World) (hT:Xp w) (h1:1<=x.kind) (h2:x.kind<=26) (n0: -9223372036854775808<=x.n) (n1:x.n<=9223372036854775807):
  Calls prog 67 #[x.v] w λe w'=>e= .returned (txt (Xk x))/\Below w.heap.size w w':=by
 obtain ⟨K,ka,kc,ks,n,s,at_⟩:=x;obtain ⟨m,hm⟩:=Qb ks.length;have HV:Hid (Nd.v ⟨K,ka,kc,ks,n,s,at_⟩= .agg #[.int .i64 K,.slice ka m kc,.int .i64 n,.string s,.int .i64 at_]):=by rw [hm];rfl
 rw [HV.out];simp only at h1 h2 n0 n1;have HT:=Qa hT;have HB:Hid (Below w.heap.size w (w.alloc (.cells #[.int .i64 K,.slice ka m kc,.int .i64 n,.string s,.int .i64 at_] 25))):=Qn;have HT1:=Qa (HT.out.below HB.out);clear hT HV;by_cases k1:K=1
 ·subst k1;have HW:Hid (Xk ⟨1,ka,kc,ks,n,s,at_⟩=Lib.itoa n):=rfl;rw [HW.out];clear HW hm;go_enter func67,ntmps67;go_wp2_with fail;refine (Tryd.strconv_Itoa n n0 n1 _ HT1.out.tab).mono ?_;rintro e w1 ⟨rfl,k,os,hw1⟩;have HB1:Hid (Below w.heap.size w w1):=by rw [hw1];exact HB.out.trans ((Qrj _ k os).mono HB.out.size)
  clear hw1;go_wp2_with fail;go_ret;exact ⟨rfl,HB1.out⟩
 by_cases k2:K=2
 ·subst k2;have HW:Hid (Xk ⟨2,ka,kc,ks,n,s,at_⟩=Lib.formatBool (n==1)):=rfl;rw [HW.out];clear HW hm;obtain ⟨b,hb⟩:=Qb (n==1);rw [<-hb];have hb':=hb.symm;clear hb;go_enter func67,ntmps67;go_wp2_with fail;refine (Tryd.strconv_FormatBool b _).mono ?_;rintro e w1 ⟨rfl,hw1⟩;rw [hw1];clear hw1 w1;go_wp2_with fail;go_ret;exact ⟨rfl,HB.out⟩
 by_cases k5:K=5
 ·subst k5;have HW:Hid (Xk ⟨5,ka,kc,ks,n,s,at_⟩=C8 n):=rfl;rw [HW.out];clear HW hm;go_enter func67,ntmps67;go_wp2_with fail;refine (Uw n _ HT1.out).mono ?_;rintro e w1 ⟨rfl,hw1⟩;rw [hw1];clear hw1 w1;unfold txt;go_wp2_with fail;go_ret;exact ⟨rfl,HB.out⟩
 ·obtain ⟨k,rfl⟩: ∃k:Nat,K=k:=⟨K.toNat,by omega⟩;have HW:Hid (Xk ⟨(k:Int),ka,kc,ks,n,s,at_⟩=M8 k):=by show Xk _=_;unfold Xk;simp only;rw [Q6 k1,Q6 k2,Q6 k5,Jo];rfl
  rw [HW.out];clear HW hm;have t0:=Wv HT1.out.rows (Qdc k (by omega));unfold txt at t0 ⊢;obtain ⟨W,hW⟩:=Qb (M8 k);rw [<-hW]at t0 ⊢;clear hW;have e1:((k:Int)==1)=false:=by simpa using k1
  have e2:((k:Int)==2)=false:=by simpa using k2
  have e5:((k:Int)==5)=false:=by simpa using k5
  have Bt:(k:Int)<27:=by omega
  clear k1 k2 k5;go_enter func67,ntmps67;go_wp2_with fail;go_ret;exact ⟨rfl,HB.out⟩
theorem Qq4: ∀k:Fin 27,numOf k.val=4↔((k.val:Int)=24\/(k.val:Int)=25):=by decide+kernel
theorem Qmg (x:Nd) (w:World) (hT:Xp w) (h1:1<=x.kind) (h2:x.kind<=26):
  Calls prog 68 #[x.v] w λe w'=>e= .returned (txt (Xj x))/\Below w.heap.size w w':=by
 obtain ⟨K,ka,kc,ks,n,s,at_⟩:=x;simp only at h1 h2;obtain ⟨k,rfl⟩: ∃k:Nat,K=k:=⟨K.toNat,by omega⟩;obtain ⟨m,hm⟩:=Qb ks.length;have HV:Hid (Nd.v ⟨(k:Int),ka,kc,ks,n,s,at_⟩= .agg #[.int .i64 (k:Int),.slice ka m kc,.int .i64 n,.string s,.int .i64 at_]):=by rw [hm];rfl
 rw [HV.out];have HT:=Qa hT;have HB:Hid (Below w.heap.size w (w.alloc (.cells #[.int .i64 (k:Int),.slice ka m kc,.int .i64 n,.string s,.int .i64 at_] 25))):=Qn;have HT1:=Qa (HT.out.below HB.out);have Bt:(k:Int)<27:=by omega
 have t0:=Wv HT1.out.rows (Qea k (by omega));have h4:=Qq4 ⟨k,by omega⟩;simp only at h4;clear hT HV;by_cases hk:(k:Int)=24\/(k:Int)=25
 ·rw [h4.2 hk]at t0;have HW:Hid (Xj ⟨(k:Int),ka,kc,ks,n,s,at_⟩=Kz n):=by show Xj _=_;unfold Xj;simp only;rw [Wy hk]
  rw [HW.out];clear HW hm hk h4;go_enter func68,ntmps68;go_wp2_with fail;refine (P5 n _ HT1.out).mono ?_;rintro e w1 ⟨rfl,hw1⟩;rw [hw1];clear hw1 w1;unfold txt;go_wp2_with fail;go_ret;exact ⟨rfl,HB.out⟩
 ·have hne: ¬numOf k=4:=λh=>hk (h4.1 h);obtain ⟨u,hu⟩:=Qb (numOf k);rw [<-hu]at t0 hne;have hne':((u:Int) != 4)=true:=by simp;omega
  have HW:Hid (Xj ⟨(k:Int),ka,kc,ks,n,s,at_⟩=[]):=by show Xj _=_;unfold Xj;simp only;rw [Q6 hk]
  rw [HW.out];clear HW hm hk h4 hu hne;go_enter func68,ntmps68;go_wp2_with fail;go_ret;exact ⟨rfl,HB.out⟩
theorem Qls: ∀k:Fin 17,(Aw.getD k.val []).length<=2:=by decide+kernel
theorem Qmr: ∀k:Fin 27,(Qad.getD k.val []).length<=8:=by decide+kernel
theorem Qqu: ∀k:Fin 4,(G9.getD k.val []).length<=4:=by decide+kernel
theorem Qlr (x:Nd) (n0: -9223372036854775808<=x.n) (n1:x.n<=9223372036854775807):(Xk x).length<=21:=by
 unfold Xk;split
 ·exact Lib.itoa_length_le x.n n0 n1
 ·split
  ·cases (x.n==1)<;>decide
  ·split
   ·unfold C8;split
    ·have:=Qls ⟨x.n.toNat,by omega⟩;simp only at this;omega
    ·simp
   ·rcases Xa x.kind.toNat 27 with h |h
    ·have:=Qmr ⟨x.kind.toNat,h⟩;simp only at this;omega
    ·rw [Yh,Ox (by exact h)];simp
theorem Qjs (x:Nd):(Xj x).length<=4:=by
 unfold Xj;split
 ·unfold Kz;split
  ·have:=Qqu ⟨x.n.toNat,by omega⟩;simp only at this;omega
  ·simp
 ·simp
def three (x:Nd):List (List UInt8):=[Xk x,x.t,Xj x]
def ne (t:List UInt8):Bool:= !t.isEmpty
theorem Qdm (x:Nd):hd x=Lib.join ((three x).filter ne) [32]:=rfl
theorem Qr4: ∀(ls:List (List UInt8)),(Lib.join ls [32]).length<=(ls.map List.length).sum+ls.length
 | []=>by simp [Lib.join_nil]
 |x::r=>by
  rw [Lib.join_cons];have h: ∀r:List (List UInt8),(Lib.joinTail [32] r).length=(r.map List.length).sum+r.length:=by
   intro r
   induction r with
   |nil=>rfl
   |cons y q ih=>
    unfold Lib.joinTail at ih ⊢;simp only [Yi,List.flatten_cons,Qd,ih,List.sum_cons,Qf,Qk];omega
  rw [Qd,h];simp;omega
theorem Qee (p:List UInt8->Bool): ∀ls:List (List UInt8),((ls.filter p).map List.length).sum<=(ls.map List.length).sum/\(ls.filter p).length<=ls.length
 | []=>by simp
 |x::r=>by
  have ih:=Qee p r;rw [List.filter_cons];split
  ·simp;omega
  ·simp;omega
theorem Sn (x:Nd) (n0: -9223372036854775808<=x.n) (n1:x.n<=9223372036854775807):(hd x).length<=x.t.length+28:=by rw [Qdm];have h1:=Qr4 ((three x).filter ne);have h2:=Qee ne (three x);have h3:=Qlr x n0 n1;have h4:=Qjs x;have h5:((three x).map List.length).sum=(Xk x).length+(x.t.length+((Xj x).length+0)):=rfl;have h6:(three x).length=3:=rfl;omega
theorem Qhq (A B C:List UInt8): ∀(j:Nat),j<3-> ∀(w:World),(Instr.index 99 (.agg #[txt A,txt B,txt C]) (.int .i64 (j:Int))).run prog w= .ok (txt ([A,B,C].getD j [])) w
 | 0,_,w=>by kernel_rfl
 | 1,_,w=>by kernel_rfl
 | 2,_,w=>by kernel_rfl
 |n+3,h,_=>by omega
theorem Qoy:(prog.info? 9).map (λi=>(i.zero,i.size,i.bytes))=some (some (.string ⟨#[]⟩),1,16):=by kernel_rfl
theorem Qmv (x:Nd) (w:World) (hT:Xp w) (h1:1<=x.kind) (h2:x.kind<=26) (hx:Ok w x):
  Calls prog 53 #[x.v] w λe w'=>e= .returned (txt (hd x))/\Below w.heap.size w w':=by
 obtain ⟨w1,hw1⟩:=Qb (w.alloc (.cells x.cs 25));have HB:Hid (Below w.heap.size w w1):=by rw [hw1];exact Qn
 have HH:Hid (Held w1 w.heap.size 25 x.cs):=by rw [hw1];exact Held.new w _ _
 have HT:=Qa (hT.below HB.out);have cW: ∀d os,Calls prog 67 #[x.v] (Sort.grow (redrawn w1 d) os) λe w''=>e= .returned (txt (Xk x))/\ ∃q:Regrown,w''=Sort.grow (redrawn w1 q.d) q.os:=λd os=>Calls.regrown_of (Qhr x _ (HT.out.below (below_regrown w1 d os)) h1 h2 hx.n0 hx.n1);have cK: ∀d os,Calls prog 68 #[x.v] (Sort.grow (redrawn w1 d) os) λe w''=>e= .returned (txt (Xj x))/\ ∃q:Regrown,w''=Sort.grow (redrawn w1 q.d) q.os:=λd os=>Calls.regrown_of (Qmg x _ (HT.out.below (below_regrown w1 d os)) h1 h2);have F3:Hid ((hd x).length<=140737488355328):=by have a1:=Sn x hx.n0 hx.n1;have a2:=hx.s;have a3:x.t.length=x.s.size:=Kw x.s;show _<=_;omega
 have Bl:=Qa (Qdm x);have Fy:Hid (three x=[Xk x,x.t,Xj x]):=rfl;have Oq:Hid (Value.string x.s=txt x.t):=Qn8 x.s;obtain ⟨R,hR⟩:=Qb (hd x);obtain ⟨A,hA⟩:=Qb (Xk x);obtain ⟨C,hC⟩:=Qb (Xj x);obtain ⟨Bb,hBb⟩:=Qb x.t;rw [<-hR]at F3 Bl ⊢;rw [<-hA]at cW Fy;rw [<-hC]at cK Fy;rw [<-hBb]at Oq Fy;obtain ⟨L,hL⟩:=Qb (three x);rw [<-hL]at Fy Bl;clear hR hA hC hBb hL hT;obtain ⟨K,ka,kc,ks,n,s,at_⟩:=x;obtain ⟨m,hm⟩:=Qb ks.length;have HV:Hid (Nd.v ⟨K,ka,kc,ks,n,s,at_⟩= .agg #[.int .i64 K,.slice ka m kc,.int .i64 n,.string s,.int .i64 at_]):=by rw [hm];rfl
 have Tz:Hid (Nd.cs ⟨K,ka,kc,ks,n,s,at_⟩= #[.int .i64 K,.slice ka m kc,.int .i64 n,.string s,.int .i64 at_]):=by rw [hm];rfl
 simp only at Oq;rw [Oq.out]at HV Tz;rw [HV.out]at cW cK ⊢;rw [Tz.out]at HH hw1;clear hm HV Tz hx h1 h2 Oq;unfold txt at cW cK hw1 HH ⊢;go_enter func53,ntmps53;go_wp2_with fail;rw [<-hw1];obtain ⟨g,hg⟩:=Qb w.heap.size;rw [<-hg]at HH ⊢;clear hw1 hg;have k0:=cell_regrown (HH.out.at_ (j:=0) rfl);have k1:=cell_regrown (HH.out.at_ (j:=1) rfl);have k2:=cell_regrown (HH.out.at_ (j:=2) rfl);have k3:=cell_regrown (HH.out.at_ (j:=3) rfl);have k4:=cell_regrown (HH.out.at_ (j:=4) rfl);refine wp_region_quiet_below (by kernel_rfl) (by kernel_rfl) ?_
 repeat (any_goals (first |go_big_quiet_step (first |exact cW _ _ |exact cK _ _) |quiet_step (first |exact cW _ _ |exact cK _ _)))
 refine wpQuiet_nil ?_;intro _ hw';obtain ⟨⟨dq,osq⟩,hw''⟩:=hw';obtain ⟨w2,hw2⟩:=Qb (Sort.grow (redrawn w1 dq) osq);have HB2:Hid (Below w.heap.size w w2):=by rw [hw2];exact HB.out.trans ((below_regrown w1 dq osq).mono HB.out.size)
 rw [hw'',<-hw2];clear hw2 hw'' k0 k1 k2 k3 k4 cW cK HH;have hix:=Qhq A Bb C;unfold txt at hix;have HIX:=Qa hix;clear hix;go_wp2_with fail;go_loopw [3,5,13] (λv _ t wr=> ∃i q:Nat,i<=3/\t= .int .i64 (i:Int)/\q<=i/\Hid (q=((L.take i).filter ne).length)/\Hid (Vj 9 1 w2 wr v q (((L.take i).filter ne).map txt))) (λ_ _ t _=>3-(intOf t).toNat)
 case atStart=>exact ⟨0,0,by omega,rfl,by omega,(by show _=_;simp),(by show Vj _ _ _ _ _ _ _;simp;exact Vj.nil _ _ _)⟩
 case round=>
  obtain ⟨i,q,hi,rfl,hq,HQ,Bn⟩:=hrel;by_cases hi3:i<3
  ·have Qjj:=HIX.out i hi3;obtain ⟨c,hc⟩:=Qb ([A,Bb,C].getD i []);rw [<-hc]at Qjj;have Lg:Hid (L.take (i+1)=L.take i++[c]):=by show _=_;rw [Fy.out,hc];rcases (show i=0\/i=1\/i=2 by omega)with rfl |rfl |rfl<;>rfl
   clear hc;have htc:(⟨c.toArray⟩:ByteArray).toList=c:=Qju c;by_cases hce:c=[]
   ·have HN:Hid ((L.take (i+1)).filter ne=(L.take i).filter ne):=by show _=_;rw [Lg.out,hce,List.filter_append];simp [ne]
    subst hce;go_wp2_with fail;go_roundw
    case rel=>exact ⟨i+1,q,by omega,by go_num,by omega,(by show _=_;rw [HN.out];exact HQ.out),(by show Vj _ _ _ _ _ _ _;rw [HN.out];exact Bn.out)⟩
    case measure=>simp [intOf];omega
   ·have HN:Hid ((L.take (i+1)).filter ne=(L.take i).filter ne++[c]):=by show _=_;have:ne c=true:=(by unfold ne;simpa using hce);rw [Lg.out,List.filter_append];simp [this]
    have Qsu:c.isEmpty=false:=(by rw [List.isEmpty_eq_false_iff];exact hce);have HVN:=Qa (Bn.out);go_wp2_with (at_builtin;refine Qps rfl (.tmp 18) (.tmp 20) 55 9 (.string ⟨#[]⟩) 1 16 underlying55 Qoy rfl (by decide) (by omega) rfl w2 _ _ q _ [.string ⟨c.toArray⟩] _ rfl rfl Bn.out (by omega) rfl rfl (by intro u hu;simp at hu;subst hu;rfl) ?_;intro v1 w3 hv3);have Ms:=Qa hv3;clear hv3;go_wp2_with fail;go_roundw
    case rel=>exact ⟨i+1,q+1,by omega,by go_num,by omega,(by show _=_;rw [HN.out,Qd,<-HQ.out];rfl),(by show Vj _ _ _ _ _ _ _;rw [HN.out,J9];exact Ms.out)⟩
    case measure=>simp [intOf];omega
  ·obtain rfl:i=3:=(by omega);have HLT:Hid (L.take 3=L):=(by show _=_;rw [Fy.out];rfl);rw [HLT.out]at HQ Bn;rcases Nat.eq_zero_or_pos q with h0 |h0
   ·subst h0;have HE:Hid (R=[]):=by show _=_;rw [Bl.out,List.length_eq_zero_iff.1 HQ.out.symm];rfl
    obtain ⟨va,vc,hv,_⟩:=Bn.out.shape;subst hv;go_wp2_with fail;refine (Tryd.strings_Join_none va vc _ wr).mono ?_;rintro e w3 ⟨rfl,hw3⟩;rw [hw3];clear hw3 w3;go_wp2_with fail;go_ret;exact ⟨by rw [HE.out];rfl,HB2.out.trans (Bn.out.2.mono HB2.out.size)⟩
   ·obtain ⟨va,vc,hv,Lf,hcell⟩:=Bn.out.shape;obtain ⟨g,hg,Oe,hcc⟩:=hcell h0;subst hv hg;obtain ⟨F,hF⟩:=Qb (L.filter ne);rw [<-hF]at HQ Bn hcc Bl;have Kl:Hid ((F.map (λb=>(⟨b.toArray⟩:ByteArray))).length=q):=(by show _=_;rw [Cq];exact HQ.out.symm);have Io:Hid ((F.map (λb=>(⟨b.toArray⟩:ByteArray))).map (·.data.toList)=F):=by show _=_;rw [K7];exact List.map_id F
    have hj:=Tryd.strings_Join g 0 vc (F.map (λb=>(⟨b.toArray⟩:ByteArray))) ⟨#[32]⟩ wr (λj y hy=>by
      rw [Fw];refine hcc j _ ?_;rw [Gc]at hy ⊢;cases hfj:F[j]? with
      |none=>rw [hfj]at hy;cases hy
      |some b=>
       rw [hfj]at hy;injection hy with hy
       rw [<-hy];rfl) Oe (by rw [Kl.out];omega) (by rw [Kl.out];exact Lf) (by rw [Io.out];have:=F3.out;rw [Bl.out]at this;exact this);rw [Kl.out,Io.out]at hj;have HJ:=Qa hj;clear hj hcc hF;go_wp2_with fail;refine HJ.out.mono ?_;rintro e w3 ⟨he,hb3⟩;have he':e= .returned (.string ⟨R.toArray⟩):=(by rw [Bl.out];exact he);subst he';clear he;have HB3:=Qa hb3;clear hb3;go_wp2_with fail;go_ret;exact ⟨rfl,(HB2.out.trans (Bn.out.2.mono HB2.out.size)).trans (HB3.out.mono (HB2.out.trans (Bn.out.2.mono HB2.out.size)).size)⟩
theorem Hr {e:TypeId} {b:Option Nat} {w w':World} (h:Below w.heap.size w w'):Lib.OthersKept e b w w':=by intro k o hk _ _;have hlt:k<w.heap.size:=(Array.getElem?_eq_some_iff.1 hk).1;rw [h.block k hlt];exact hk
theorem Qb0 {T e:TypeId} {B b:Nat} {p:Value} {bs:List Value} {w w':World} (h:Lib.BuilderAtF T e B b p bs w) (hb:Below w.heap.size w w'):Lib.BuilderAtF T e B b p bs w':=by
 obtain ⟨hB,v,hv,hown,hne⟩:=h;refine ⟨hB,v,?_,⟨hown.1,?_⟩,hne⟩
 ·rw [hb.block b (Array.getElem?_eq_some_iff.1 hv).1];exact hv
 ·rcases hown.2 with h1 |⟨g,cap,cur,fz,h1,h2,h3,r⟩
  ·exact .inl h1
  ·exact .inr ⟨g,cap,cur,fz,h1,h2,(hb.block g (Array.getElem?_eq_some_iff.1 h3).1).trans h3,r⟩
theorem Me {T e:TypeId} {B b:Nat} {bs:List Value} {w w':World} (h:Lib.IsBuilderF T e B b bs w) (hb:Below w.heap.size w w'):Lib.IsBuilderF T e B b bs w':=
 h.elim (λx=>.inl (Qb0 x hb)) (λx=>.inr (Qb0 x hb))
theorem Fg {T e:TypeId} {B b:Nat} {bs:List Value} {w:World} (h:Lib.IsBuilderF T e B b bs w):B<=w.heap.size:=by
 rcases h with h |h
 ·have:=h.lt;have:=h.1;omega
 ·have:=h.lt;have:=h.1;omega
structure H9 (w0 w:World) (a:Option Addr) (l:List Nd) (n c ob pb lb:Nat):Prop where
 nodes:Nodes w0 a l
 tabs:Xp w0
 below:Below w0.heap.size w0 w
 old:w0.heap.size<=ob
 pc:w.heap[pb]? =some (.cells #[.func (.func 52) #[] #[.pointer (some ⟨ob,0,none⟩),.pointer (some ⟨pb,0,none⟩),.pointer (some ⟨lb,0,none⟩)]] 73 (0,0))
 lc:w.heap[lb]? =some (.cells #[.slice a n c] 22 (0,0))
 po:pb≠ob
 lo:lb≠ob
theorem H9.keep {w0 w w':World} {a:Option Addr} {l:List Nd} {n c ob pb lb:Nat} (h:H9 w0 w a l n c ob pb lb) (hb:Below w0.heap.size w w') (hk:Lib.OthersKept 5 (some ob) w w'):H9 w0 w' a l n c ob pb lb:=by
 refine ⟨h.nodes,h.tabs,h.below.trans hb,h.old,hk _ _ h.pc (λe=>h.po (by injection e)) (λc fz e=> ?_),hk _ _ h.lc (λe=>h.lo (by injection e)) (λc fz e=> ?_),h.po,h.lo⟩
 ·injection e with _ e2;cases e2
 ·injection e with _ e2;cases e2
def Ie (T:List UInt8) (B ob:Nat) (bs:List Value) (w:World) (e:Ending) (w':World):Prop:=
 e= .returned (.tuple #[])/\Lib.IsBuilderF 39 5 B ob (bs++Lib.byteCells T) w'/\Below B w w'/\Lib.OthersKept 5 (some ob) w w'
def Vi (l:List Nd) (i j:Nat):List UInt8:=[40]++hd (nd l i)++((nd l i).kids.take j).flatMap (λk=>32::tx l k.toNat)
theorem Qk7 (l:List Nd) (i:Nat):Vi l i 0=[40]++hd (nd l i):=by simp [Vi]
theorem Qcz {l:List Nd} {i j q:Nat} (hj:j<(nd l i).kids.length) (hq:(nd l i).kids.getD j 0=(q:Int)):Vi l i (j+1)=Vi l i j++[32]++tx l q:=by unfold Vi;rw [Ic hj,hq,List.flatMap_append];simp
theorem Sv {l:List Nd} (hA:Ahead l) {i:Nat} (hi:i<l.length) (hk:(nd l i).kind<=4):tx l i=hd (nd l i):=by rw [Qaa hA hi];unfold Ga;rw [Wy hk]
theorem Sw {l:List Nd} (hA:Ahead l) {i:Nat} (hi:i<l.length) (hk: ¬(nd l i).kind<=4):tx l i=Vi l i (nd l i).kids.length++[41]:=by rw [Qaa hA hi];unfold Ga Vi;rw [Q6 hk,List.take_length,List.flatMap_map]
theorem Qgu {l:List Nd} (hA:Ahead l) {i:Nat} (hi:i<l.length): ∀(d j:Nat),j+d<=(nd l i).kids.length->(Vi l i j).length<=(Vi l i (j+d)).length
 | 0,j,_=>Yc _
 |d+1,j,h=>by have ih:=Qgu hA hi d j (by omega);obtain ⟨q,hq,_,_⟩:=Cj hA hi (show j+d<(nd l i).kids.length by omega);rw [<-Gg,Qcz (by omega) hq];simp;omega
theorem Qd1 {l:List Nd} (hA:Ahead l) {i j:Nat} (hi:i<l.length) (hk: ¬(nd l i).kind<=4) (hj:j<=(nd l i).kids.length):(Vi l i j).length+1<=(tx l i).length:=by have:=Qgu hA hi ((nd l i).kids.length-j) j (by omega);rw [show j+((nd l i).kids.length-j)=(nd l i).kids.length by omega]at this;rw [Sw hA hi hk,Qd];simp;omega
theorem Ie.of {T:List UInt8} {B ob:Nat} {bs:List Value} {w w':World} {e:Ending} {cs:List Value} (he:e= .returned (.tuple #[])) (hb:Lib.IsBuilderF 39 5 B ob cs w') (hc:cs=bs++Lib.byteCells T) (h1:Below B w w') (h2:Lib.OthersKept 5 (some ob) w w'):Ie T B ob bs w e w':=by subst hc;exact ⟨he,hb,h1,h2⟩
theorem Qkx (A B:List UInt8):((⟨A.toArray⟩:ByteArray)++⟨B.toArray⟩).data.toList=A++B:=by simp
theorem Qra (w0:World) (a:Option Addr) (l:List Nd) (n c ob pb lb:Nat) (hA:Ahead l) (hn:n=l.length) (hll:n<=1000000000) (hK: ∀i,i<l.length->1<=(nd l i).kind/\(nd l i).kind<=26): ∀(N i:Nat),i<N->i<l.length-> ∀(bs:List Value) (w:World),H9 w0 w a l n c ob pb lb->Lib.IsBuilderF 39 5 w0.heap.size ob bs w->bs.length+(tx l i).length<=140737488355328->
  Calls prog 52 #[(nd l i).v,.pointer (some ⟨ob,0,none⟩),.pointer (some ⟨pb,0,none⟩),.pointer (some ⟨lb,0,none⟩)] w (Ie (tx l i) w0.heap.size ob bs w):=by
 intro N
 induction N with
 |zero=>intro i h;omega
 |succ N ih=>
  intro i Cv hil bs w hE hBl hlen;have HE:=Qa hE;have Oj:=Qa hBl;have HA:=Qa hA;have Q0:=Qa hn;have HK:=Qa hK;have IH:=Qa ih;have Wx:=Qa hil;have hk:=hK i hil;have X7:Hid (w0.heap.size<=w.heap.size):=HE.out.below.size;clear hE hBl ih hA hn hK;have Ve:=Qa ((HE.out.nodes.below HE.out.below).2 i Wx.out);have HT:=Qa (HE.out.tabs.below HE.out.below);obtain ⟨B,hB⟩:=Qb w0.heap.size;rw [<-hB]at Oj X7 ⊢;have X3:=Qa hB;clear hB;obtain ⟨x,hx⟩:=Qb (nd l i);rw [<-hx]at Ve hk ⊢;have HX:=Qa hx;clear hx;have HV:Hid (x.v= .agg #[.int .i64 x.kind,.slice x.ka x.kids.length x.kc,.int .i64 x.n,.string x.s,.int .i64 x.at_]):=rfl;rw [HV.out];have hkl:=Ve.out.len;obtain ⟨w1,hw1⟩:=Qb (w.alloc (.cells #[.int .i64 x.kind,.slice x.ka x.kids.length x.kc,.int .i64 x.n,.string x.s,.int .i64 x.at_] 25));have HB1:Hid (Below w.heap.size w w1):=by rw [hw1];exact Qn
  have Bl:Hid (Held w1 w.heap.size 25 #[.int .i64 x.kind,.slice x.ka x.kids.length x.kc,.int .i64 x.n,.string x.s,.int .i64 x.at_]):=by rw [hw1];exact Held.new w _ _
  have hhead:=Qmv x w1 (HT.out.below HB1.out) hk.1 hk.2 (Ve.out.below HB1.out);rw [HV.out]at hhead;have Rh:=Qa hhead;clear hhead;have Nb:=Qa hlen;obtain ⟨H,hH⟩:=Qb (hd x);rw [<-hH]at Rh;have HHH:=Qa hH;have hHl:H.length<=140737488351232+28:=by have a1:=Sn x Ve.out.n0 Ve.out.n1;have a2:=Ve.out.s;have a3:x.t.length=x.s.size:=Kw x.s;rw [hH];omega
  clear hH hlen;by_cases hk4:x.kind<=4
  ·have Qe:Hid (tx l i=H):=by show _=_;rw [Sv HA.out Wx.out (by rw [<-HX.out];exact hk4),HHH.out,HX.out]
   go_enter func52,ntmps52;go_wp2_with fail;rw [<-hw1];refine Rh.out.mono ?_;rintro e w2 ⟨rfl,hb2⟩;have HB2:Hid (Below w.heap.size w w2):=HB1.out.trans (hb2.mono HB1.out.size);have Il:=Qa (Me Oj.out HB2.out);clear hb2 hw1;unfold txt;go_wp2_with fail;refine (Tryd.Builder_WriteString_k B ob bs ⟨H.toArray⟩ w2 Il.out (by have:=Nb.out;rw [Qe.out]at this;exact this) (Fg Il.out)).mono ?_;rintro e w3 ⟨rfl,hb3,Hq,hk3⟩;have HB3:=Qa hb3;have Sz:=Qa Hq;have Wn:=Qa hk3;clear hb3 Hq hk3;go_wp2_with fail;go_end0;exact Ie.of rfl (.inr HB3.out) (by rw [Qe.out];rfl) ((HB2.out.mono X7.out).trans Sz.out) ((Hr HB2.out).trans Wn.out)
  ·have HZ:=Qa (Qk7 l i);have Yw:=Qa (Qd1 HA.out (j:=0) Wx.out (by rw [<-HX.out];exact hk4) (by omega));go_enter func52,ntmps52;go_wp2_with fail;rw [<-hw1];refine Rh.out.mono ?_;rintro e w2 ⟨rfl,hb2⟩;have HB2:Hid (Below w.heap.size w w2):=HB1.out.trans (hb2.mono HB1.out.size);have Il:=Qa (Me Oj.out HB2.out);have Qnl:=Qa (Bl.out.since hb2);clear hb2 hw1;unfold txt;have hsz:(⟨H.toArray⟩:ByteArray).size<=140737488355328:=(by rw [Wj];omega);have HC0:Hid (Lib.strCells ((⟨#[40]⟩:ByteArray)++⟨H.toArray⟩)=Lib.byteCells (Vi l i 0)):=by show _=_;rw [Lib.strCells_eq,HZ.out,<-HX.out,<-HHH.out];exact congrArg Lib.byteCells (Qkx [40] H)
   have Ri:Hid (((⟨#[40]⟩:ByteArray)++⟨H.toArray⟩).size=(Vi l i 0).length):=by show _=_;have:=congrArg List.length HC0.out;rw [Lib.strCells_length,Lib.byteCells_length]at this;exact this
   go_wp2_with fail;refine (Tryd.Builder_WriteString_k B ob bs _ w2 Il.out (by have h1:=Nb.out;have h2:=Yw.out;rw [Ri.out];omega) (Fg Il.out)).mono ?_;rintro e w3 ⟨rfl,hb3,Hq,hk3⟩;rw [HC0.out]at hb3;have HB3:=Qa hb3;have Sz:Hid (Below B w w3):=(HB2.out.mono X7.out).trans Hq;have Wn:Hid (Lib.OthersKept 5 (some ob) w w3):=(Hr HB2.out).trans hk3;have Qtc:ob<w.heap.size:=by
    rcases Oj.out with h |h
    ·exact h.lt
    ·exact h.lt
   have Qsa:Hid (Held w3 w.heap.size 25 #[.int .i64 x.kind,.slice x.ka x.kids.length x.kc,.int .i64 x.n,.string x.s,.int .i64 x.at_]):=
    hk3 _ _ Qnl.out (λe=>by injection e;omega) (λc fz e=>by injection e with _ e2;cases e2);clear hb3 Hq hk3 hsz;have ck:=Qsa.out.at_ (j:=1) rfl;go_wp2_with fail;go_loopw [6,20] (λ_ t wr=> ∃j:Nat,j<=x.kids.length/\t= .int .i64 (j:Int)/\Hid (Lib.IsBuilderF 39 5 B ob (bs++Lib.byteCells (Vi l i j)) wr)/\Hid (Below B w wr)/\Hid (Lib.OthersKept 5 (some ob) w wr)) (λ_ t _=>x.kids.length-(intOf t).toNat)
   case atStart=>exact ⟨0,by omega,rfl,.inr HB3.out,Sz,Wn⟩
   case round=>
    obtain ⟨j,hj,rfl,M6,R7,Sc⟩:=hrel;have HEj:=Qa (HE.out.keep (by rw [<-X3.out];exact R7.out) Sc.out);by_cases hjm:j<x.kids.length
    ·have Bp:(j:Int)<(x.kids.length:Int):=(by omega);have hjk:Hid (j<(nd l i).kids.length):=(by show j<_;rw [<-HX.out];exact hjm);obtain ⟨q,hq,hqi,_⟩:=Cj HA.out Wx.out hjk.out;have Tg:=HE.out.nodes.2 i Wx.out;rw [<-HX.out]at Tg;obtain ⟨kb,ko,hka,hkb,hkc⟩:=(Tg.rows.below HEj.out.below) (by omega);have hc:=hkc j hjm;simp only at hc;rw [HX.out,hq]at hc;rw [hka];have HQ:=Qa hq;clear hkc hq Tg hka;have W9:=Qa (Qcz hjk.out HQ.out);have F3:=Qa (Qd1 HA.out (j:=j+1) Wx.out (by rw [<-HX.out];omega) hjk.out);have HLX:Hid (bs.length+(Vi l i j).length+1+(tx l q).length<=140737488355328):=by have h1:=Nb.out;have h2:=F3.out;rw [W9.out,Qd,Qd]at h2;simp at h2;show _<=_;omega
     go_wp2_with fail;refine (Tryd.Builder_WriteString_k B ob _ _ wr M6.out (by rw [Qd,Lib.byteCells_length];have h1:=HLX.out;show _+1<=_;omega) (Fg M6.out)).mono ?_;rintro e w4 ⟨rfl,hb4,I9,Lb⟩;have Vd:Hid (Lib.IsBuilderF 39 5 B ob (bs++Lib.byteCells (Vi l i j++[32])) w4):=by refine .inr ?_;rw [Lib.byteCells_append,<-Yg];exact hb4
     have Ak:Hid (Below B w w4):=R7.out.trans I9;have Yd:Hid (Lib.OthersKept 5 (some ob) w w4):=Sc.out.trans Lb;clear hb4 I9 Lb;have Qw:=Qa (HE.out.keep (by rw [<-X3.out];exact Ak.out) Yd.out);have cP:=Held.at_ (show Held w4 pb 73 _ from Qw.out.pc) (j:=0) rfl;have cL:=Held.at_ (show Held w4 lb 22 _ from Qw.out.lc) (j:=0) rfl;have Vm:q<l.length:=(by have:=Wx.out;omega);obtain ⟨nb,no,rfl,hnb,c0,c1,c2,c3,c4⟩:=(Qw.out.nodes.below Qw.out.below).at_ Vm;have D9:(q:Int)<(n:Int):=(by have:=Q0.out;omega);have Lj:Hid ((nd l q).v= .agg #[.int .i64 (nd l q).kind,.slice (nd l q).ka (nd l q).kids.length (nd l q).kc,.int .i64 (nd l q).n,.string (nd l q).s,.int .i64 (nd l q).at_]):=rfl;obtain ⟨y,hy⟩:=Qb (nd l q);rw [<-hy]at c0 c1 c2 c3 c4 Lj;have HY:=Qa hy;clear hy;go_wp2_with fail;go_still_tail 5,(by kernel_rfl);change wpList _ _ _ _ _ w4.drew;obtain ⟨w5,Jd⟩:=Qb w4.drew;have HD5:Hid (Below w4.heap.size w4 w5):=(by rw [Jd];exact Q5 w4 1 _);rw [<-Jd];have Qgv:Hid (Below B w w5):=Ak.out.trans (HD5.out.mono (Fg Vd.out));have Z5:Hid (Lib.OthersKept 5 (some ob) w w5):=Yd.out.trans (Hr HD5.out);have hput:=IH.out q (by omega) Vm (bs++Lib.byteCells (Vi l i j++[32])) w5 (HE.out.keep (by rw [<-X3.out];exact Qgv.out) Z5.out) (by rw [<-X3.out];exact Me Vd.out HD5.out) (by rw [Qd,Lib.byteCells_length,Qd];have:=HLX.out;simp;omega);rw [<-X3.out,<-HY.out,Lj.out]at hput;have Xq:=Qa hput;clear hput Jd c0 c1 c2 c3 c4 cP cL;go_wp2_with fail;refine Xq.out.mono ?_;rintro e w6 ⟨rfl,hb6,Hw,Ze⟩;have Cm:Hid (Lib.IsBuilderF 39 5 B ob (bs++Lib.byteCells (Vi l i (j+1))) w6):=by show Lib.IsBuilderF _ _ _ _ _ _;rw [W9.out,Lib.byteCells_append _ (tx l q),<-Yg];exact hb6
     have Im:Hid (Below B w w6):=Qgv.out.trans Hw;have Km:Hid (Lib.OthersKept 5 (some ob) w w6):=Z5.out.trans Ze;clear hb6 Hw Ze;go_wp2_with fail;go_roundw
     case rel=>exact ⟨j+1,by omega,by go_num,Cm,Im,Km⟩
     case measure=>simp [intOf];omega
    ·have HJ:Hid (j=x.kids.length):=(by show _=_;omega);have Qe:Hid (tx l i=Vi l i j++[41]):=by show _=_;rw [Sw HA.out Wx.out (by rw [<-HX.out];omega),<-HX.out,HJ.out]
     go_wp2_with fail;refine (Tryd.Builder_WriteString_k B ob _ _ wr M6.out (by rw [Qd,Lib.byteCells_length];have h1:=Nb.out;rw [Qe.out,Qd]at h1;simp at h1;show _+1<=_;omega) (Fg M6.out)).mono ?_;rintro e w4 ⟨rfl,hb4,I9,Lb⟩;have Vd:=Qa hb4;have Ak:Hid (Below B w w4):=R7.out.trans I9;have Yd:Hid (Lib.OthersKept 5 (some ob) w w4):=Sc.out.trans Lb;clear hb4 I9 Lb;go_wp2_with fail;go_end0;exact Ie.of rfl (.inr Vd.out) (by rw [Qe.out,Lib.byteCells_append,Yg];rfl) Ak.out Yd.out
end
def sumTo (f:Nat->Nat):Nat->Nat
 | 0=>0
 |n+1=>sumTo f n+f n
theorem Qe9 (f:Int->Nat) {x:Int}: ∀{l:List Int},x∈l->(l.map f).sum=f x+((l.erase x).map f).sum
 | [],h=>by cases h
 |y::r,h=>by
  by_cases e:y=x
  ·subst e;simp
  ·have hx:x∈r:=by
    rcases List.mem_cons.1 h with h' |h'
    ·exact absurd h'.symm e
    ·exact h'
   have ih:=Qe9 f hx;rw [List.erase_cons_tail (by simpa using e)];simp only [Yi,List.sum_cons];omega
theorem P9 (f:Nat->Nat): ∀(n:Nat) (l:List Int),l.Nodup->(∀x∈l,0<=x/\x<(n:Int))->(l.map (λx=>f x.toNat)).sum<=sumTo f n
 | 0,[],_,_=>Yc _
 | 0,x::r,_,h=>by have:=h x (by simp);omega
 |n+1,l,hn,h=>by
  by_cases hm:(n:Int)∈l
  ·have h1:=P9 f n (l.erase (n:Int)) (hn.erase _) (λx hx=>by have h2:=(List.Nodup.mem_erase_iff hn).1 hx;have h3:=h x h2.2;have:=h2.1;omega);rw [Qe9 (λx=>f x.toNat) hm];simp only [sumTo,Jo];omega
  ·have h1:=P9 f n l hn (λx hx=>by have h3:=h x hx;have:x≠(n:Int):=λe=>hm (e▸hx);omega);simp only [sumTo];omega
theorem Qb3 {l:List Nd} (hA:Ahead l): ∀i,i<=l.length->sumTo (sz l) i=i+((Zt l i).map (λx=>sz l x.toNat)).sum
 | 0,_=>by simp [sumTo,Zt]
 |i+1,h=>by have ih:=Qb3 hA i (by omega);rw [He (by omega),J9,List.sum_append];simp only [sumTo];rw [ih,Og hA (by omega)];omega
theorem O9 {l:List Nd} (h:Y5 l):sz l (l.length-1)<=l.length:=by
 obtain ⟨h0,hA,hN,hL⟩:=h;have h1:=Qb3 hA l.length (Yc _);have hr: ∀x∈Zt l l.length,0<=x/\x<((l.length-1:Nat):Int):=by intro x hx;obtain ⟨y,hy,hxy⟩:=List.mem_flatMap.1 hx;obtain ⟨q,hq,rfl⟩:=List.mem_iff_getElem.1 hy;rw [Vr]at hq;rw [List.getElem_take,<-Gd (by omega)]at hxy;have:=hA q (by omega) x hxy;omega
 have h2:=P9 (sz l) (l.length-1) _ hN hr;have h3:sumTo (sz l) l.length=sumTo (sz l) (l.length-1)+sz l (l.length-1):=by obtain ⟨p,hp⟩: ∃p,l.length=p+1:=⟨l.length-1,by omega⟩;rw [hp,Nat.add_sub_cancel];rfl
 omega
theorem Qk6 {xs:List Nat} {x:Nat} (h:x∈xs):x<=xs.sum:=by
 induction xs with
 |nil=>cases h
 |cons y r ih=>
  rw [List.sum_cons];rcases List.mem_cons.1 h with rfl |h'
  ·omega
  ·have:=ih h';omega
theorem Qsg {l:List Nd} (hA:Ahead l) {i:Nat} (hi:i<l.length) {k:Int} (hk:k∈(nd l i).kids):sz l k.toNat<sz l i:=by rw [Og hA hi];have:=Qk6 (List.mem_map.2 ⟨k,hk,rfl⟩:sz l k.toNat∈(nd l i).kids.map (λk=>sz l k.toNat));omega
theorem Qif {l:List Nd} (hA:Ahead l) {i j:Nat} (h:Under l i j):i<l.length->sz l j<=sz l i:=by
 induction h with
 |refl i=>intro _;exact Yc _
 |step hk _ ih=>
  intro hi;have h1:=hA _ hi _ hk;have h2:=ih (by omega);have h3:=Qsg hA hi hk;omega
theorem Nw {l:List Nd} (h:Y5 l) {i:Nat} (hi:i<l.length):sz l i<=l.length:=by have h1:=Qif h.2.1 (Py h (l.length-1-i) i (Yc _) hi) (by omega);have h2:=O9 h;omega
theorem Qjz {x:Nd} (h:ownB x=true):x.t.length<=32:=by
 unfold ownB at h;simp only [Q7]at h;have h1:=h.1.2;split at h1
 ·unfold Y2 at h1;simp only [Q7,Qu]at h1;exact h1.1.1.1.2
 ·rw [Qu]at h1;rw [h1];simp
theorem Qp3 {x:Nd} (h:ownB x=true) (n1:x.n<=9223372036854775807): -9223372036854775808<=x.n:=by
 unfold ownB Ko at h;simp only [Q7]at h;have h1:=h.2;split at h1
 ·simp at h1;omega
 ·split at h1
  ·simp at h1;omega
  ·split at h1
   ·simp at h1;omega
   ·split at h1
    ·simp at h1;omega
    ·simp at h1;omega
theorem Qes {l:List Nd} {C:Nat}: ∀(ks:List Int),(∀k∈ks,(tx l k.toNat).length+1<=C*sz l k.toNat)->(ks.flatMap (λk=>32::tx l k.toNat)).length<=C*(ks.map (λk=>sz l k.toNat)).sum
 | [],_=>by simp
 |k::r,h=>by have h1:=h k (by simp);have ih:=Qes r (λk hk=>h k (Ip _ hk));simp only [List.flatMap_cons,Qd,Qf,Yi,List.sum_cons,Xo];omega
theorem Ql8 {l:List Nd} (hA:Ahead l) (hO: ∀i,i<l.length->ownB (nd l i)=true) (hn: ∀i,i<l.length->(nd l i).n<=9223372036854775807): ∀(N i:Nat),i<N->i<l.length->(tx l i).length+1<=64*sz l i:=by
 intro N
 induction N with
 |zero=>intro i h;omega
 |succ N ih=>
  intro i Cv hi;have h1:=Qjz (hO i hi);have h2:=Sn (nd l i) (Qp3 (hO i hi) (hn i hi)) (hn i hi);have h3:=Og hA hi;by_cases hk:(nd l i).kind<=4
  ·rw [Sv hA hi hk];omega
  ·rw [Sw hA hi hk];have h4:=Qes (l:=l) (C:=64) (nd l i).kids (λk hk'=>by have:=hA i hi k hk';exact ih k.toNat (by omega) (by omega));unfold Vi;rw [List.take_length];simp only [Qd,Qf,Qk];omega
theorem Qo5 {l:List Nd} (h:Fits l) {i:Nat} (hi:i<l.length):ownB (nd l i)=true:=by have:=h i hi;unfold Xc at this;rw [Q7]at this;exact this.1
theorem Qqk {l:List Nd} (h:Fits l) {i:Nat} (hi:i<l.length):1<=(nd l i).kind/\(nd l i).kind<=26:=Qck (h i hi)
theorem Qmz {l:List Nd} (h:Y5 l) (hF:Fits l) (hn: ∀i,i<l.length->(nd l i).n<=9223372036854775807) {i:Nat} (hi:i<l.length):(tx l i).length<=64*l.length:=by have h1:=Ql8 h.2.1 (λi hi=>Qo5 hF hi) hn (i+1) i (by omega) hi;have h2:=Nw h hi;omega
section
open Go.RowKit
def Qlg (l:List Nd) (w:World) (e:Ending) (w':World):Prop:=
 Below w.heap.size w w'/\((Rt l/\e= .returned (txt (tx l (l.length-1))))\/(¬Rt l/\e= .returned (txt [])))
theorem Qrv (a:Option Addr) (c n:Nat) (l:List Nd) (w:World) (hn:n=l.length) (A8:Xp w) (hN:Nodes w a l) (hll:n<=1000000000):
  Calls prog 36 #[.slice a n c] w (Qlg l w):=by
 have Q0:=Qa hn;have HN:=Qa hN;have Gj:=Qa A8;clear hn hN A8;obtain ⟨w1,hw1⟩:=Qb (w.alloc (.cells #[.slice a n c] 22));have HB1:Hid (Below w.heap.size w w1):=by rw [hw1];exact Qn
 have HL1:Hid (Held w1 w.heap.size 22 #[.slice a n c]):=by rw [hw1];exact Held.new w _ _
 have hright:=U1 a c l w1 (Gj.out.below HB1.out) (HN.out.below HB1.out) (by rw [<-Q0.out];exact hll);rw [<-Q0.out]at hright;have HR:=Qa hright;clear hright;go_enter func36,ntmps36;rw [Vk 5];go_wp2_with fail;rw [<-hw1];refine HR.out.mono ?_;rintro e w2 ⟨b,rfl,hiff,hb2⟩;have HB2:Hid (Below w.heap.size w w2):=HB1.out.trans (hb2.mono HB1.out.size);have HL2:=Qa (HL1.out.since hb2);have Zr:=Qa hiff;clear hb2 hiff hw1;cases b with
 |false=>
  go_wp2_with fail;go_ret;exact ⟨HB2.out,.inr ⟨(λh=>by cases Zr.out.2 h),rfl⟩⟩
 |true=>
  have Vn:Hid (Rt l):=Zr.out.1 rfl;have hpos:0<n:=by rw [Q0.out];exact Vn.out.1.1
  go_wp2_with fail;obtain ⟨B,hB⟩:=Qb w2.heap.size;obtain ⟨lb,hlb⟩:=Qb w.heap.size;rw [<-hB,<-hlb];rw [<-hlb]at HL2;have Sk:=Qa hlb;obtain ⟨w3,hw3⟩:=Qb ((w2.alloc (.cells #[.pointer none,.slice none 0 0] 39)).alloc (.cells #[.nilFunc] 73));rw [<-hw3];have Qs7:lb<B:=by rw [hB];exact HL2.out.lt
  have HH0:Hid (Held w3 B 39 #[.pointer none,.slice none 0 0]):=by rw [hw3,hB];exact (Held.new w2 _ _).alloc _
  have Qs:Hid (Held w3 (B+1) 73 #[.nilFunc]):=by have h:=Held.new (w2.alloc (.cells #[.pointer none,.slice none 0 0] 39)) 73 #[.nilFunc];have e:(w2.alloc (.cells #[.pointer none,.slice none 0 0] 39)).heap.size=B+1:=(by rw [hB];simp);rw [e]at h;rw [hw3];exact h
  have HB3:Hid (Below w2.heap.size w2 w3):=by rw [hw3];exact Qn.alloc (by simp) _
  have Ob:=Qa (HL2.out.since HB3.out);have X3:=Qa hB;clear hB hlb hw3;have cr:=Qs.out.at_ (j:=0) (v:=.nilFunc) rfl;have fr:=Qs.out.frozen 0;refine Vp ?_;go_wp2_with fail;obtain ⟨w4,hw4⟩:=Qb (w3.setCell ⟨B+1,0,none⟩ (.func (.func 52) #[] #[.pointer (some ⟨B,0,none⟩),.pointer (some ⟨B+1,0,none⟩),.pointer (some ⟨lb,0,none⟩)]));rw [<-hw4];have Vd:Hid (Below w2.heap.size w2 w4):=by rw [hw4];exact HB3.out.setCell (p:=⟨B+1,0,none⟩) (by show _<=B+1;rw [X3.out];omega) _
  have HE:Hid (H9 w2 w4 a l n c B (B+1) lb):=by
   refine ⟨HN.out.below HB2.out,Gj.out.below HB2.out,Vd.out,by rw [X3.out];exact Yc _,?_,?_,by omega,by omega⟩
   ·rw [hw4];exact Qs.out.set 0 _
   ·rw [hw4];exact Ob.out.off (g':=B+1) (by omega) 0 _
  have Zn:Hid (Lib.IsBuilderF 39 5 w2.heap.size B [] w4):=by refine .inl ⟨by rw [X3.out];exact Yc _,.slice none 0 0,?_,⟨rfl,.inl ⟨rfl,rfl⟩⟩,by simp [Value.ownBlock]⟩;rw [hw4];exact HH0.out.off (g':=B+1) (by omega) 0 _
  clear hw4 cr fr HH0 Qs Ob Zr;have cP:=Held.at_ (show Held w4 (B+1) 73 _ from HE.out.pc) (j:=0) rfl;have cL:=Held.at_ (show Held w4 lb 22 _ from HE.out.lc) (j:=0) rfl;obtain ⟨p,rfl⟩: ∃p,n=p+1:=⟨n-1,by omega⟩;have hpl:p<l.length:=by rw [<-Q0.out];omega
  obtain ⟨nb,no,rfl,hnb,c0,c1,c2,c3,c4⟩:=(HE.out.nodes.below HE.out.below).at_ hpl;have Lj:Hid ((nd l p).v= .agg #[.int .i64 (nd l p).kind,.slice (nd l p).ka (nd l p).kids.length (nd l p).kc,.int .i64 (nd l p).n,.string (nd l p).s,.int .i64 (nd l p).at_]):=rfl;have HTS:Hid ((tx l p).length<=64*l.length):=Qmz Vn.out.1 Vn.out.2.1 (λi hi=>(HN.out.2 i hi).n1) hpl;obtain ⟨y,hy⟩:=Qb (nd l p);rw [<-hy]at c0 c1 c2 c3 c4 Lj;have HY:=Qa hy;clear hy;have hwp:IntKind.i64.wrap (p:Int)=(p:Int):=Go.IntWalk.i64_in _ (by omega);have hpi:(p:Int)<(p:Int)+1:=by omega
  go_wp2_with fail;go_still_tail 7,(by kernel_rfl);change wpList _ _ _ _ _ w4.drew;obtain ⟨w5,Jd⟩:=Qb w4.drew;have HD5:Hid (Below w4.heap.size w4 w5):=by rw [Jd];exact Q5 w4 1 _
  rw [<-Jd];have hput:=Qra w2 (some ⟨nb,no,none⟩) l (p+1) c B (B+1) lb Vn.out.1.2.1 Q0.out hll (λi hi=>Qqk Vn.out.2.1 hi) (p+1) p (by omega) hpl [] w5 (HE.out.keep (HD5.out.mono Vd.out.size) (Hr HD5.out)) (Me Zn.out HD5.out) (by have h1:=HTS.out;have h2:=Q0.out;simp;omega);rw [<-HY.out,Lj.out]at hput;have Xq:=Qa hput;clear hput Jd c0 c1 c2 c3 c4 cP cL;go_wp2_with fail;refine Xq.out.mono ?_;rintro e w6 ⟨rfl,hb6,Hw,Ze⟩;have Cm:=Qa hb6;have Im:Hid (Below w.heap.size w w6):=by have h1:Below w2.heap.size w2 w6:=(Vd.out.trans (HD5.out.mono Vd.out.size)).trans Hw;exact HB2.out.trans (h1.mono HB2.out.size)
  clear hb6 Hw Ze;rw [Ba]at Cm;go_wp2_with fail;refine (Tryd.Builder_String_any_k w2.heap.size B (tx l p) w6 Cm.out (Fg Cm.out)).mono ?_;rintro e w7 ⟨rfl,_,hb7,_⟩;have HB7:Hid (Below w.heap.size w w7):=Im.out.trans (hb7.mono HB2.out.size);clear hb7;go_wp2_with fail;go_ret;refine ⟨HB7.out,.inl ⟨Vn.out,?_⟩⟩;have e:l.length-1=p:=by rw [<-Q0.out,Nat.add_sub_cancel]
  rw [e];rfl
def decs (u:Nat):List UInt8:=if u=0 then []else Lib.decDigits u
theorem Qou {u:Nat} (h:u≠0):decs u=decs (u/10)++[UInt8.ofNat (48+u%10)]:=by
 unfold decs;rw [Q6 h,Lib.decDigits];by_cases h10:u<10
 ·rw [dif_pos h10,Wy (by omega),Nat.mod_eq_of_lt h10];rfl
 ·rw [dif_neg h10,Q6 (by omega)]
theorem Qhm (W:World) (u:Nat) (hu:u<256):(convert 37 9 (.slice (some ⟨W.heap.size,0,none⟩) 1 1)).run prog (W.alloc (.cells #[.int .u8 (u:Int)] 5))=
  .ok (.string ⟨#[UInt8.ofNat u]⟩) (W.alloc (.cells #[.int .u8 (u:Int)] 5)):=by
 refine run_convert_bytes_back (P:=prog) (W.alloc (.cells #[.int .u8 (u:Int)] 5)) 37 9 5 ⟨W.heap.size,0,none⟩ 1 [UInt8.ofNat u] underlying37 underlying5 underlying9 ?_;intro j hj;have hj0:j=0:=by simp at hj;exact hj
 subst hj0;have h:=(Held.new W 5 #[.int .u8 (u:Int)]).at_ (j:=0) (v:=.int .u8 (u:Int)) rfl;rw [show (⟨W.heap.size,0,none⟩:Addr).add 0=⟨W.heap.size,0,none⟩from rfl,h];have:(UInt8.ofNat u).toNat=u:=by simp [UInt8.toNat_ofNat'];omega
 simp [this]
theorem Qm6 (n:Nat) (w:World) (hn:n<=9223372036854775807):
  Calls prog 25 #[.int .i64 (n:Int)] w λe w'=>e= .returned (txt (Lib.itoa (n:Int)))/\Below w.heap.size w w':=by
 have HLEN:=Qa (Lib.itoa_length_le (n:Int) (by omega) (by omega));by_cases h0:n=0
 ·subst h0;have HI:Hid (Lib.itoa ((0:Nat):Int)=[48]):=by show _=_;rw [show Lib.itoa ((0:Nat):Int)=Lib.decDigits 0 from rfl,Lib.decDigits,dif_pos (by omega)];rfl
  rw [HI.out];go_enter func25,ntmps25;go_wp2_with fail;go_ret;exact ⟨rfl,Below.refl _ _⟩
 ·have HI:Hid (Lib.itoa (n:Int)=decs n):=by show _=_;unfold Lib.itoa decs;rw [Q6 (by omega),Q6 h0,Jo]
  rw [HI.out]at HLEN ⊢;have hne:((n:Int)==0)=false:=by simp;omega
  obtain ⟨D0,hD0⟩:=Qb (decs n);rw [<-hD0]at HLEN HI ⊢;have HD0:=Qa hD0;clear hD0;go_enter func25,ntmps25;go_wp2_with fail;go_loopw [3,4] (λt3 t4 wr=> ∃(u:Nat) (D:List UInt8),u<=n/\t4= .int .i64 (u:Int)/\t3= .string ⟨D.toArray⟩/\D.length<=21/\Hid (D0=decs u++D)/\Hid (Below w.heap.size w wr)) (λ_ t4 _=>(intOf t4).toNat)
  case atStart=>exact ⟨n,[],by omega,rfl,rfl,by simp,(by show _=_;rw [HD0.out,Js]),Below.refl _ _⟩
  case round=>
   obtain ⟨u,D,hu,rfl,rfl,hD,HD,HB⟩:=hrel;by_cases hu0:u=0
   ·subst hu0;go_wp2_with fail;go_ret;refine ⟨?_,HB.out⟩;rw [HD.out];rfl
   ·have Qsy:((u:Int) != 0)=true:=(by simp;omega);have W9:=Qa (Qou hu0);obtain ⟨R,hR⟩:=Qb (u%10);obtain ⟨Q,hQ⟩:=Qb (u/10);rw [<-hR,<-hQ]at W9;have Qtj:R<10:=(by omega);have e1:(u:Int).tmod 10=(R:Int):=(by rw [Int.tmod_eq_emod_of_nonneg (by omega)];omega);have e2:(u:Int).tdiv 10=(Q:Int):=(by rw [Int.tdiv_eq_ediv_of_nonneg (by omega)];omega);have hQu:Q<u:=(by omega);clear hR hQ;have Cu:=Qhm wr (48+R) (by omega);rw [show ((48+R:Nat):Int)=48+(R:Int) by omega]at Cu;have F3:Hid (D.length+1<=21):=by have h1:=HLEN.out;rw [HD.out,W9.out]at h1;simp at h1;show _<=_;omega
    have Xu:Hid (Below w.heap.size w (wr.alloc (.cells #[.int .u8 (48+(R:Int))] 5))):=HB.out.alloc HB.out.size _;go_wp2_with fail;go_roundw
    case rel=>exact ⟨Q,UInt8.ofNat (48+R)::D,by omega,by go_num,(by congr 1;apply ByteArray.ext;simp),F3.out,(by show _=_;rw [HD.out,W9.out];simp),Xu.out⟩
    case measure=>simp [intOf];omega
def Nh:Array Value:=((Aw.drop 1).map txt).toArray
theorem Qr2 (w:World):
  Calls prog 27 #[] w λe w'=>e= .returned (.slice (some ⟨w.heap.size,0,none⟩) 16 16)/\w'=w.alloc (.cells Nh 9):=by
 go_enter func27,ntmps27;go_wp2;go_ret;exact ⟨rfl,rfl⟩
end
end Go.Proofs.YtdncpkkhkbijfaaDoor
