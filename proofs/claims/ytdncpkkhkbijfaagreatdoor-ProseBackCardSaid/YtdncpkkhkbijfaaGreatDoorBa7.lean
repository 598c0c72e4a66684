import Derived.Test.YtdncpkkhkbijfaaGreatDoorBa6
import Derived.Test.YtdncpkkhkbijfaaGreatDoorShelf
import Derived.IntWalk
import Derived.Deep.RegionWith
import Derived.Laws.IdiomStrings
open Go.Proofs.Tryz
set_option linter.all false
set_option maxHeartbeats 0
set_option maxRecDepth 100000
namespace Go.Proofs.YtdncpkkhkbijfaaGreatDoor
section
open Go.RowKit
theorem Wp8 (w:World) (k:Nat) (os:Array Obj):Below w.heap.size w (Sort.grow (w.drewN k) os):=
 ⟨rfl,rfl,rfl,by simp [Sort.grow,World.drewN],λj hj=>by simp [Sort.grow,World.drewN,Array.getElem?_append,hj]⟩
theorem Wb1 (x:Nd) (w:World) (hT:Dp w) (h1:1<=x.kind) (h2:x.kind<=26) (n0: -9223372036854775808<=x.n) (n1:x.n<=9223372036854775807):
  Calls prog 140 #[x.v] w λe w'=>e= .returned (txt (Cw x))/\Below w.heap.size w w':=by
 obtain ⟨K,ka,kc,ks,n,s,at_⟩:=x;obtain ⟨m,hm⟩:=Qb ks.length;have HV:Hid (Nd.v ⟨K,ka,kc,ks,n,s,at_⟩= .agg #[.int .i64 K,.slice ka m kc,.int .i64 n,.string s,.int .i64 at_]):=by rw [hm];rfl
 rw [HV.out];simp only at h1 h2 n0 n1;have HT:=Qa hT;have HB:Hid (Below w.heap.size w (w.alloc (.cells #[.int .i64 K,.slice ka m kc,.int .i64 n,.string s,.int .i64 at_] 37))):=Qag;have HT1:=Qa (HT.out.below HB.out);clear hT HV;by_cases k1:K=1
 ·subst k1;have HW:Hid (Cw ⟨1,ka,kc,ks,n,s,at_⟩=Lib.itoa n):=rfl;rw [HW.out];clear HW hm;go_enter func140,ntmps140;go_wp2_with fail;refine (Tryz.strconv_Itoa n n0 n1 _ HT1.out.tab).mono ?_;rintro e w1 ⟨rfl,k,os,hw1⟩;have HB1:Hid (Below w.heap.size w w1):=by rw [hw1];exact HB.out.trans ((Wp8 _ k os).mono HB.out.size)
  clear hw1;go_wp2_with fail;go_ret;exact ⟨rfl,HB1.out⟩
 by_cases k2:K=2
 ·subst k2;have HW:Hid (Cw ⟨2,ka,kc,ks,n,s,at_⟩=Lib.formatBool (n==1)):=rfl;rw [HW.out];clear HW hm;obtain ⟨b,hb⟩:=Qb (n==1);rw [<-hb];have hb':=hb.symm;clear hb;go_enter func140,ntmps140;go_wp2_with fail;refine (Tryz.strconv_FormatBool b _).mono ?_;rintro e w1 ⟨rfl,hw1⟩;rw [hw1];clear hw1 w1;go_wp2_with fail;go_ret;exact ⟨rfl,HB.out⟩
 by_cases k5:K=5
 ·subst k5;have HW:Hid (Cw ⟨5,ka,kc,ks,n,s,at_⟩=Qat n):=rfl;rw [HW.out];clear HW hm;go_enter func140,ntmps140;go_wp2_with fail;refine (Qrc n _ HT1.out).mono ?_;rintro e w1 ⟨rfl,hw1⟩;rw [hw1];clear hw1 w1;unfold txt;go_wp2_with fail;go_ret;exact ⟨rfl,HB.out⟩
 ·obtain ⟨k,rfl⟩: ∃k:Nat,K=k:=⟨K.toNat,by omega⟩;have HW:Hid (Cw ⟨(k:Int),ka,kc,ks,n,s,at_⟩=wrd k):=by show Cw _=_;unfold Cw;simp only;rw [Qd k1,Qd k2,Qd k5,Ja];rfl
  rw [HW.out];clear HW hm;have t0:=Zc HT1.out.rows (Q7p k (by omega));unfold txt at t0 ⊢;obtain ⟨W,hW⟩:=Qb (wrd k);rw [<-hW]at t0 ⊢;clear hW;have e1:((k:Int)==1)=false:=by simpa using k1
  have e2:((k:Int)==2)=false:=by simpa using k2
  have e5:((k:Int)==5)=false:=by simpa using k5
  have U1:(k:Int)<27:=by omega
  clear k1 k2 k5;go_enter func140,ntmps140;go_wp2_with fail;go_ret;exact ⟨rfl,HB.out⟩
theorem Wjy: ∀k:Fin 27,numOf k.val=4↔((k.val:Int)=24\/(k.val:Int)=25):=by decide+kernel
theorem Q8w (x:Nd) (w:World) (hT:Dp w) (h1:1<=x.kind) (h2:x.kind<=26):
  Calls prog 141 #[x.v] w λe w'=>e= .returned (txt (C9 x))/\Below w.heap.size w w':=by
 obtain ⟨K,ka,kc,ks,n,s,at_⟩:=x;simp only at h1 h2;obtain ⟨k,rfl⟩: ∃k:Nat,K=k:=⟨K.toNat,by omega⟩;obtain ⟨m,hm⟩:=Qb ks.length;have HV:Hid (Nd.v ⟨(k:Int),ka,kc,ks,n,s,at_⟩= .agg #[.int .i64 (k:Int),.slice ka m kc,.int .i64 n,.string s,.int .i64 at_]):=by rw [hm];rfl
 rw [HV.out];have HT:=Qa hT;have HB:Hid (Below w.heap.size w (w.alloc (.cells #[.int .i64 (k:Int),.slice ka m kc,.int .i64 n,.string s,.int .i64 at_] 37))):=Qag;have HT1:=Qa (HT.out.below HB.out);have U1:(k:Int)<27:=by omega
 have t0:=Zc HT1.out.rows (Q6i k (by omega));have h4:=Wjy ⟨k,by omega⟩;simp only at h4;clear hT HV;by_cases hk:(k:Int)=24\/(k:Int)=25
 ·rw [h4.2 hk]at t0;have HW:Hid (C9 ⟨(k:Int),ka,kc,ks,n,s,at_⟩=Ud n):=by show C9 _=_;unfold C9;simp only;rw [Qk hk]
  rw [HW.out];clear HW hm hk h4;go_enter func141,ntmps141;go_wp2_with fail;refine (Qso n _ HT1.out).mono ?_;rintro e w1 ⟨rfl,hw1⟩;rw [hw1];clear hw1 w1;unfold txt;go_wp2_with fail;go_ret;exact ⟨rfl,HB.out⟩
 ·have hne: ¬numOf k=4:=λh=>hk (h4.1 h);obtain ⟨u,hu⟩:=Qb (numOf k);rw [<-hu]at t0 hne;have hne':((u:Int) != 4)=true:=by simp;omega
  have HW:Hid (C9 ⟨(k:Int),ka,kc,ks,n,s,at_⟩=[]):=by show C9 _=_;unfold C9;simp only;rw [Qd hk]
  rw [HW.out];clear HW hm hk h4 hu hne;go_enter func141,ntmps141;go_wp2_with fail;go_ret;exact ⟨rfl,HB.out⟩
theorem Wpp: ∀k:Fin 17,(Xu.getD k.val []).length<=2:=by decide+kernel
theorem Wg0: ∀k:Fin 27,(Quo.getD k.val []).length<=8:=by decide+kernel
theorem Wlf: ∀k:Fin 4,(Qhb.getD k.val []).length<=4:=by decide+kernel
theorem Wce (x:Nd) (n0: -9223372036854775808<=x.n) (n1:x.n<=9223372036854775807):(Cw x).length<=21:=by
 unfold Cw;split
 ·exact Lib.itoa_length_le x.n n0 n1
 ·split
  ·cases (x.n==1)<;>decide
  ·split
   ·unfold Qat;split
    ·have:=Wpp ⟨x.n.toNat,by omega⟩;simp only at this;omega
    ·simp
   ·rcases V7 x.kind.toNat 27 with h |h
    ·have:=Wg0 ⟨x.kind.toNat,h⟩;simp only at this;omega
    ·rw [Yc,Qbz (by exact h)];simp
theorem Whv (x:Nd):(C9 x).length<=4:=by
 unfold C9;split
 ·unfold Ud;split
  ·have:=Wlf ⟨x.n.toNat,by omega⟩;simp only at this;omega
  ·simp
 ·simp
def three (x:Nd):List (List UInt8):=[Cw x,x.t,C9 x]
def ne (t:List UInt8):Bool:= !t.isEmpty
theorem Q5y (x:Nd):hd x=Lib.join ((three x).filter ne) [32]:=rfl
theorem Wcq: ∀(ls:List (List UInt8)),(Lib.join ls [32]).length<=(ls.map List.length).sum+ls.length
 | []=>by simp [Lib.join_nil]
 |x::r=>by
  rw [Lib.join_cons];have h: ∀r:List (List UInt8),(Lib.joinTail [32] r).length=(r.map List.length).sum+r.length:=by
   intro r
   induction r with
   |nil=>rfl
   |cons y q ih=>
    unfold Lib.joinTail at ih ⊢;simp only [Y6,List.flatten_cons,Qf,ih,List.sum_cons,Qp,Q8];omega
  rw [Qf,h];simp;omega
theorem Qz1 (p:List UInt8->Bool): ∀ls:List (List UInt8),((ls.filter p).map List.length).sum<=(ls.map List.length).sum/\(ls.filter p).length<=ls.length
 | []=>by simp
 |x::r=>by
  have ih:=Qz1 p r;rw [List.filter_cons];split
  ·simp;omega
  ·simp;omega
theorem Qtw (x:Nd) (n0: -9223372036854775808<=x.n) (n1:x.n<=9223372036854775807):(hd x).length<=x.t.length+28:=by rw [Q5y];have h1:=Wcq ((three x).filter ne);have h2:=Qz1 ne (three x);have h3:=Wce x n0 n1;have h4:=Whv x;have h5:((three x).map List.length).sum=(Cw x).length+(x.t.length+((C9 x).length+0)):=rfl;have h6:(three x).length=3:=rfl;omega
theorem Wcx (A B C:List UInt8): ∀(j:Nat),j<3-> ∀(w:World),(Instr.index 149 (.agg #[txt A,txt B,txt C]) (.int .i64 (j:Int))).run prog w= .ok (txt ([A,B,C].getD j [])) w
 | 0,_,w=>by kernel_rfl
 | 1,_,w=>by kernel_rfl
 | 2,_,w=>by kernel_rfl
 |n+3,h,_=>by omega
theorem Wkd:(prog.info? 9).map (λi=>(i.zero,i.size,i.bytes))=some (some (.string ⟨#[]⟩),1,16):=by kernel_rfl
theorem Wrb (x:Nd) (w:World) (hT:Dp w) (h1:1<=x.kind) (h2:x.kind<=26) (hx:Ok w x):
  Calls prog 117 #[x.v] w λe w'=>e= .returned (txt (hd x))/\Below w.heap.size w w':=by
 obtain ⟨w1,hw1⟩:=Qb (w.alloc (.cells x.cs 37));have HB:Hid (Below w.heap.size w w1):=by rw [hw1];exact Qag
 have HH:Hid (Held w1 w.heap.size 37 x.cs):=by rw [hw1];exact Held.new w _ _
 have HT:=Qa (hT.below HB.out);have cW: ∀d os,Calls prog 140 #[x.v] (Sort.grow (redrawn w1 d) os) λe w''=>e= .returned (txt (Cw x))/\ ∃q:Regrown,w''=Sort.grow (redrawn w1 q.d) q.os:=λd os=>Calls.regrown_of (Wb1 x _ (HT.out.below (below_regrown w1 d os)) h1 h2 hx.n0 hx.n1);have cK: ∀d os,Calls prog 141 #[x.v] (Sort.grow (redrawn w1 d) os) λe w''=>e= .returned (txt (C9 x))/\ ∃q:Regrown,w''=Sort.grow (redrawn w1 q.d) q.os:=λd os=>Calls.regrown_of (Q8w x _ (HT.out.below (below_regrown w1 d os)) h1 h2);have Yk:Hid ((hd x).length<=140737488355328):=by have a1:=Qtw x hx.n0 hx.n1;have a2:=hx.s;have a3:x.t.length=x.s.size:=Qa3 x.s;show _<=_;omega
 have Ui:=Qa (Q5y x);have HTH:Hid (three x=[Cw x,x.t,C9 x]):=rfl;have HXT:Hid (Value.string x.s=txt x.t):=Q6g x.s;obtain ⟨R,hR⟩:=Qb (hd x);obtain ⟨A,hA⟩:=Qb (Cw x);obtain ⟨C,hC⟩:=Qb (C9 x);obtain ⟨Bb,hBb⟩:=Qb x.t;rw [<-hR]at Yk Ui ⊢;rw [<-hA]at cW HTH;rw [<-hC]at cK HTH;rw [<-hBb]at HXT HTH;obtain ⟨L,hL⟩:=Qb (three x);rw [<-hL]at HTH Ui;clear hR hA hC hBb hL hT;obtain ⟨K,ka,kc,ks,n,s,at_⟩:=x;obtain ⟨m,hm⟩:=Qb ks.length;have HV:Hid (Nd.v ⟨K,ka,kc,ks,n,s,at_⟩= .agg #[.int .i64 K,.slice ka m kc,.int .i64 n,.string s,.int .i64 at_]):=by rw [hm];rfl
 have Gj:Hid (Nd.cs ⟨K,ka,kc,ks,n,s,at_⟩= #[.int .i64 K,.slice ka m kc,.int .i64 n,.string s,.int .i64 at_]):=by rw [hm];rfl
 simp only at HXT;rw [HXT.out]at HV Gj;rw [HV.out]at cW cK ⊢;rw [Gj.out]at HH hw1;clear hm HV Gj hx h1 h2 HXT;unfold txt at cW cK hw1 HH ⊢;go_enter func117,ntmps117;go_wp2_with fail;rw [<-hw1];obtain ⟨g,hg⟩:=Qb w.heap.size;rw [<-hg]at HH ⊢;clear hw1 hg;have k0:=cell_regrown (HH.out.at_ (j:=0) rfl);have k1:=cell_regrown (HH.out.at_ (j:=1) rfl);have k2:=cell_regrown (HH.out.at_ (j:=2) rfl);have k3:=cell_regrown (HH.out.at_ (j:=3) rfl);have k4:=cell_regrown (HH.out.at_ (j:=4) rfl);refine wp_region_quiet_below (by kernel_rfl) (by kernel_rfl) ?_
 repeat (any_goals (first |go_big_quiet_step (first |exact cW _ _ |exact cK _ _) |quiet_step (first |exact cW _ _ |exact cK _ _)))
 refine wpQuiet_nil ?_;intro _ hw';obtain ⟨⟨dq,osq⟩,hw''⟩:=hw';obtain ⟨w2,hw2⟩:=Qb (Sort.grow (redrawn w1 dq) osq);have HB2:Hid (Below w.heap.size w w2):=by rw [hw2];exact HB.out.trans ((below_regrown w1 dq osq).mono HB.out.size)
 rw [hw'',<-hw2];clear hw2 hw'' k0 k1 k2 k3 k4 cW cK HH;have hix:=Wcx A Bb C;unfold txt at hix;have HIX:=Qa hix;clear hix;go_wp2_with fail;go_loopw [3,5,13] (λv _ t wr=> ∃i q:Nat,i<=3/\t= .int .i64 (i:Int)/\q<=i/\Hid (q=((L.take i).filter ne).length)/\Hid (Xi 9 1 w2 wr v q (((L.take i).filter ne).map txt))) (λ_ _ t _=>3-(intOf t).toNat)
 case atStart=>exact ⟨0,0,by omega,rfl,by omega,(by show _=_;simp),(by show Xi _ _ _ _ _ _ _;simp;exact Xi.nil _ _ _)⟩
 case round=>
  obtain ⟨i,q,hi,rfl,hq,HQ,Fv⟩:=hrel;by_cases hi3:i<3
  ·have Wba:=HIX.out i hi3;obtain ⟨c,hc⟩:=Qb ([A,Bb,C].getD i []);rw [<-hc]at Wba;have J6:Hid (L.take (i+1)=L.take i++[c]):=by show _=_;rw [HTH.out,hc];rcases (show i=0\/i=1\/i=2 by omega)with rfl |rfl |rfl<;>rfl
   clear hc;have htc:(⟨c.toArray⟩:ByteArray).toList=c:=Qsa c;by_cases hce:c=[]
   ·have HN:Hid ((L.take (i+1)).filter ne=(L.take i).filter ne):=by show _=_;rw [J6.out,hce,List.filter_append];simp [ne]
    subst hce;go_wp2_with fail;go_roundw
    case rel=>exact ⟨i+1,q,by omega,by go_num,by omega,(by show _=_;rw [HN.out];exact HQ.out),(by show Xi _ _ _ _ _ _ _;rw [HN.out];exact Fv.out)⟩
    case measure=>simp [intOf];omega
   ·have HN:Hid ((L.take (i+1)).filter ne=(L.take i).filter ne++[c]):=by show _=_;have:ne c=true:=(by unfold ne;simpa using hce);rw [J6.out,List.filter_append];simp [this]
    have Wss:c.isEmpty=false:=(by rw [List.isEmpty_eq_false_iff];exact hce);have HVN:=Qa (Fv.out);go_wp2_with (at_builtin;refine Wgy rfl (.tmp 18) (.tmp 20) 86 9 (.string ⟨#[]⟩) 1 16 underlying86 Wkd rfl (by decide) (by omega) rfl w2 _ _ q _ [.string ⟨c.toArray⟩] _ rfl rfl Fv.out (by omega) rfl rfl (by intro u hu;simp at hu;subst hu;rfl) ?_;intro v1 w3 hv3);have HV3:=Qa hv3;clear hv3;go_wp2_with fail;go_roundw
    case rel=>exact ⟨i+1,q+1,by omega,by go_num,by omega,(by show _=_;rw [HN.out,Qf,<-HQ.out];rfl),(by show Xi _ _ _ _ _ _ _;rw [HN.out,Zp];exact HV3.out)⟩
    case measure=>simp [intOf];omega
  ·obtain rfl:i=3:=(by omega);have Ai:Hid (L.take 3=L):=(by show _=_;rw [HTH.out];rfl);rw [Ai.out]at HQ Fv;rcases Nat.eq_zero_or_pos q with h0 |h0
   ·subst h0;have HE:Hid (R=[]):=by show _=_;rw [Ui.out,List.length_eq_zero_iff.1 HQ.out.symm];rfl
    obtain ⟨va,vc,hv,_⟩:=Fv.out.shape;subst hv;go_wp2_with fail;refine (Tryz.strings_Join_none va vc _ wr).mono ?_;rintro e w3 ⟨rfl,hw3⟩;rw [hw3];clear hw3 w3;go_wp2_with fail;go_ret;exact ⟨by rw [HE.out];rfl,HB2.out.trans (Fv.out.2.mono HB2.out.size)⟩
   ·obtain ⟨va,vc,hv,hvc,hcell⟩:=Fv.out.shape;obtain ⟨g,hg,Uz,hcc⟩:=hcell h0;subst hv hg;obtain ⟨F,hF⟩:=Qb (L.filter ne);rw [<-hF]at HQ Fv hcc Ui;have Uc:Hid ((F.map (λb=>(⟨b.toArray⟩:ByteArray))).length=q):=(by show _=_;rw [Zr];exact HQ.out.symm);have HFM:Hid ((F.map (λb=>(⟨b.toArray⟩:ByteArray))).map (·.data.toList)=F):=by show _=_;rw [Ea];exact List.map_id F
    have hj:=Tryz.strings_Join g 0 vc (F.map (λb=>(⟨b.toArray⟩:ByteArray))) ⟨#[32]⟩ wr (λj y hy=>by
      rw [Bq];refine hcc j _ ?_;rw [Ng]at hy ⊢;cases hfj:F[j]? with
      |none=>rw [hfj]at hy;cases hy
      |some b=>
       rw [hfj]at hy;injection hy with hy
       rw [<-hy];rfl) Uz (by rw [Uc.out];omega) (by rw [Uc.out];exact hvc) (by rw [HFM.out];have:=Yk.out;rw [Ui.out]at this;exact this);rw [Uc.out,HFM.out]at hj;have HJ:=Qa hj;clear hj hcc hF;go_wp2_with fail;refine HJ.out.mono ?_;rintro e w3 ⟨he,hb3⟩;have he':e= .returned (.string ⟨R.toArray⟩):=(by rw [Ui.out];exact he);subst he';clear he;have HB3:=Qa hb3;clear hb3;go_wp2_with fail;go_ret;exact ⟨rfl,(HB2.out.trans (Fv.out.2.mono HB2.out.size)).trans (HB3.out.mono (HB2.out.trans (Fv.out.2.mono HB2.out.size)).size)⟩
theorem Qj9 {e:TypeId} {b:Option Nat} {w w':World} (h:Below w.heap.size w w'):Lib.OthersKept e b w w':=by intro k o hk _ _;have hlt:k<w.heap.size:=(Array.getElem?_eq_some_iff.1 hk).1;rw [h.block k hlt];exact hk
theorem Q1q {T e:TypeId} {B b:Nat} {p:Value} {bs:List Value} {w w':World} (h:Lib.BuilderAtF T e B b p bs w) (hb:Below w.heap.size w w'):Lib.BuilderAtF T e B b p bs w':=by
 obtain ⟨hB,v,hv,hown,hne⟩:=h;refine ⟨hB,v,?_,⟨hown.1,?_⟩,hne⟩
 ·rw [hb.block b (Array.getElem?_eq_some_iff.1 hv).1];exact hv
 ·rcases hown.2 with h1 |⟨g,cap,cur,fz,h1,h2,h3,r⟩
  ·exact .inl h1
  ·exact .inr ⟨g,cap,cur,fz,h1,h2,(hb.block g (Array.getElem?_eq_some_iff.1 h3).1).trans h3,r⟩
theorem Qh3 {T e:TypeId} {B b:Nat} {bs:List Value} {w w':World} (h:Lib.IsBuilderF T e B b bs w) (hb:Below w.heap.size w w'):Lib.IsBuilderF T e B b bs w':=
 h.elim (λx=>.inl (Q1q x hb)) (λx=>.inr (Q1q x hb))
theorem Qcy {T e:TypeId} {B b:Nat} {bs:List Value} {w:World} (h:Lib.IsBuilderF T e B b bs w):B<=w.heap.size:=by
 rcases h with h |h
 ·have:=h.lt;have:=h.1;omega
 ·have:=h.lt;have:=h.1;omega
structure Qh4 (w0 w:World) (a:Option Addr) (l:List Nd) (n c ob pb lb:Nat):Prop where
 nodes:Nodes w0 a l
 tabs:Dp w0
 below:Below w0.heap.size w0 w
 old:w0.heap.size<=ob
 pc:w.heap[pb]? =some (.cells #[.func (.func 116) #[] #[.pointer (some ⟨ob,0,none⟩),.pointer (some ⟨pb,0,none⟩),.pointer (some ⟨lb,0,none⟩)]] 123 (0,0))
 lc:w.heap[lb]? =some (.cells #[.slice a n c] 22 (0,0))
 po:pb≠ob
 lo:lb≠ob
theorem Qh4.keep {w0 w w':World} {a:Option Addr} {l:List Nd} {n c ob pb lb:Nat} (h:Qh4 w0 w a l n c ob pb lb) (hb:Below w0.heap.size w w') (hk:Lib.OthersKept 5 (some ob) w w'):Qh4 w0 w' a l n c ob pb lb:=by
 refine ⟨h.nodes,h.tabs,h.below.trans hb,h.old,hk _ _ h.pc (λe=>h.po (by injection e)) (λc fz e=> ?_),hk _ _ h.lc (λe=>h.lo (by injection e)) (λc fz e=> ?_),h.po,h.lo⟩
 ·injection e with _ e2;cases e2
 ·injection e with _ e2;cases e2
def Qkx (T:List UInt8) (B ob:Nat) (bs:List Value) (w:World) (e:Ending) (w':World):Prop:=
 e= .returned (.tuple #[])/\Lib.IsBuilderF 42 5 B ob (bs++Lib.byteCells T) w'/\Below B w w'/\Lib.OthersKept 5 (some ob) w w'
def Ep (l:List Nd) (i j:Nat):List UInt8:=[40]++hd (nd l i)++((nd l i).kids.take j).flatMap (λk=>32::tx l k.toNat)
theorem Q9e (l:List Nd) (i:Nat):Ep l i 0=[40]++hd (nd l i):=by simp [Ep]
theorem Q8p {l:List Nd} {i j q:Nat} (hj:j<(nd l i).kids.length) (hq:(nd l i).kids.getD j 0=(q:Int)):Ep l i (j+1)=Ep l i j++[32]++tx l q:=by unfold Ep;rw [Qi4 hj,hq,List.flatMap_append];simp
theorem Qr0 {l:List Nd} (hA:Ahead l) {i:Nat} (hi:i<l.length) (hk:(nd l i).kind<=4):tx l i=hd (nd l i):=by rw [Qtm hA hi];unfold txf;rw [Qk hk]
theorem Qvs {l:List Nd} (hA:Ahead l) {i:Nat} (hi:i<l.length) (hk: ¬(nd l i).kind<=4):tx l i=Ep l i (nd l i).kids.length++[41]:=by rw [Qtm hA hi];unfold txf Ep;rw [Qd hk,List.take_length,List.flatMap_map]
theorem Q46 {l:List Nd} (hA:Ahead l) {i:Nat} (hi:i<l.length): ∀(d j:Nat),j+d<=(nd l i).kids.length->(Ep l i j).length<=(Ep l i (j+d)).length
 | 0,j,_=>Qh _
 |d+1,j,h=>by have ih:=Q46 hA hi d j (by omega);obtain ⟨q,hq,_,_⟩:=Qd7 hA hi (show j+d<(nd l i).kids.length by omega);rw [<-La,Q8p (by omega) hq];simp;omega
theorem Q8d {l:List Nd} (hA:Ahead l) {i j:Nat} (hi:i<l.length) (hk: ¬(nd l i).kind<=4) (hj:j<=(nd l i).kids.length):(Ep l i j).length+1<=(tx l i).length:=by have:=Q46 hA hi ((nd l i).kids.length-j) j (by omega);rw [show j+((nd l i).kids.length-j)=(nd l i).kids.length by omega]at this;rw [Qvs hA hi hk,Qf];simp;omega
theorem Qkx.of {T:List UInt8} {B ob:Nat} {bs:List Value} {w w':World} {e:Ending} {cs:List Value} (he:e= .returned (.tuple #[])) (hb:Lib.IsBuilderF 42 5 B ob cs w') (hc:cs=bs++Lib.byteCells T) (h1:Below B w w') (h2:Lib.OthersKept 5 (some ob) w w'):Qkx T B ob bs w e w':=by subst hc;exact ⟨he,hb,h1,h2⟩
theorem Q91 (A B:List UInt8):((⟨A.toArray⟩:ByteArray)++⟨B.toArray⟩).data.toList=A++B:=by simp
theorem Wee (w0:World) (a:Option Addr) (l:List Nd) (n c ob pb lb:Nat) (hA:Ahead l) (hn:n=l.length) (hll:n<=1000000000) (hK: ∀i,i<l.length->1<=(nd l i).kind/\(nd l i).kind<=26): ∀(N i:Nat),i<N->i<l.length-> ∀(bs:List Value) (w:World),Qh4 w0 w a l n c ob pb lb->Lib.IsBuilderF 42 5 w0.heap.size ob bs w->bs.length+(tx l i).length<=140737488355328->
  Calls prog 116 #[(nd l i).v,.pointer (some ⟨ob,0,none⟩),.pointer (some ⟨pb,0,none⟩),.pointer (some ⟨lb,0,none⟩)] w (Qkx (tx l i) w0.heap.size ob bs w):=by
 intro N
 induction N with
 |zero=>intro i h;omega
 |succ N ih=>
  intro i hiN hil bs w hE hBl hlen;have HE:=Qa hE;have HBl:=Qa hBl;have HA:=Qa hA;have Zn:=Qa hn;have HK:=Qa hK;have IH:=Qa ih;have Xl:=Qa hil;have hk:=hK i hil;have K9:Hid (w0.heap.size<=w.heap.size):=HE.out.below.size;clear hE hBl ih hA hn hK;have H8:=Qa ((HE.out.nodes.below HE.out.below).2 i Xl.out);have HT:=Qa (HE.out.tabs.below HE.out.below);obtain ⟨B,hB⟩:=Qb w0.heap.size;rw [<-hB]at HBl K9 ⊢;have Yx:=Qa hB;clear hB;obtain ⟨x,hx⟩:=Qb (nd l i);rw [<-hx]at H8 hk ⊢;have HX:=Qa hx;clear hx;have HV:Hid (x.v= .agg #[.int .i64 x.kind,.slice x.ka x.kids.length x.kc,.int .i64 x.n,.string x.s,.int .i64 x.at_]):=rfl;rw [HV.out];have hkl:=H8.out.len;obtain ⟨w1,hw1⟩:=Qb (w.alloc (.cells #[.int .i64 x.kind,.slice x.ka x.kids.length x.kc,.int .i64 x.n,.string x.s,.int .i64 x.at_] 37));have HB1:Hid (Below w.heap.size w w1):=by rw [hw1];exact Qag
  have Ui:Hid (Held w1 w.heap.size 37 #[.int .i64 x.kind,.slice x.ka x.kids.length x.kc,.int .i64 x.n,.string x.s,.int .i64 x.at_]):=by rw [hw1];exact Held.new w _ _
  have hhead:=Wrb x w1 (HT.out.below HB1.out) hk.1 hk.2 (H8.out.below HB1.out);rw [HV.out]at hhead;have Qrj:=Qa hhead;clear hhead;have Qmm:=Qa hlen;obtain ⟨H,hH⟩:=Qb (hd x);rw [<-hH]at Qrj;have HHH:=Qa hH;have hHl:H.length<=140737488351232+28:=by have a1:=Qtw x H8.out.n0 H8.out.n1;have a2:=H8.out.s;have a3:x.t.length=x.s.size:=Qa3 x.s;rw [hH];omega
  clear hH hlen;by_cases hk4:x.kind<=4
  ·have Qo:Hid (tx l i=H):=by show _=_;rw [Qr0 HA.out Xl.out (by rw [<-HX.out];exact hk4),HHH.out,HX.out]
   go_enter func116,ntmps116;go_wp2_with fail;rw [<-hw1];refine Qrj.out.mono ?_;rintro e w2 ⟨rfl,hb2⟩;have HB2:Hid (Below w.heap.size w w2):=HB1.out.trans (hb2.mono HB1.out.size);have Qko:=Qa (Qh3 HBl.out HB2.out);clear hb2 hw1;unfold txt;go_wp2_with fail;refine (Tryz.Builder_WriteString_k B ob bs ⟨H.toArray⟩ w2 Qko.out (by have:=Qmm.out;rw [Qo.out]at this;exact this) (Qcy Qko.out)).mono ?_;rintro e w3 ⟨rfl,hb3,Qhg,hk3⟩;have HB3:=Qa hb3;have Qq7:=Qa Qhg;have Yj:=Qa hk3;clear hb3 Qhg hk3;go_wp2_with fail;go_end0;exact Qkx.of rfl (.inr HB3.out) (by rw [Qo.out];rfl) ((HB2.out.mono K9.out).trans Qq7.out) ((Qj9 HB2.out).trans Yj.out)
  ·have HZ:=Qa (Q9e l i);have Z9:=Qa (Q8d HA.out (j:=0) Xl.out (by rw [<-HX.out];exact hk4) (by omega));go_enter func116,ntmps116;go_wp2_with fail;rw [<-hw1];refine Qrj.out.mono ?_;rintro e w2 ⟨rfl,hb2⟩;have HB2:Hid (Below w.heap.size w w2):=HB1.out.trans (hb2.mono HB1.out.size);have Qko:=Qa (Qh3 HBl.out HB2.out);have Wg6:=Qa (Ui.out.since hb2);clear hb2 hw1;unfold txt;have hsz:(⟨H.toArray⟩:ByteArray).size<=140737488355328:=(by rw [Ad];omega);have HC0:Hid (Lib.strCells ((⟨#[40]⟩:ByteArray)++⟨H.toArray⟩)=Lib.byteCells (Ep l i 0)):=by show _=_;rw [Lib.strCells_eq,HZ.out,<-HX.out,<-HHH.out];exact congrArg Lib.byteCells (Q91 [40] H)
   have HS0:Hid (((⟨#[40]⟩:ByteArray)++⟨H.toArray⟩).size=(Ep l i 0).length):=by show _=_;have:=congrArg List.length HC0.out;rw [Lib.strCells_length,Lib.byteCells_length]at this;exact this
   go_wp2_with fail;refine (Tryz.Builder_WriteString_k B ob bs _ w2 Qko.out (by have h1:=Qmm.out;have h2:=Z9.out;rw [HS0.out];omega) (Qcy Qko.out)).mono ?_;rintro e w3 ⟨rfl,hb3,Qhg,hk3⟩;rw [HC0.out]at hb3;have HB3:=Qa hb3;have Qq7:Hid (Below B w w3):=(HB2.out.mono K9.out).trans Qhg;have Yj:Hid (Lib.OthersKept 5 (some ob) w w3):=(Qj9 HB2.out).trans hk3;have Wsp:ob<w.heap.size:=by
    rcases HBl.out with h |h
    ·exact h.lt
    ·exact h.lt
   have Wbf:Hid (Held w3 w.heap.size 37 #[.int .i64 x.kind,.slice x.ka x.kids.length x.kc,.int .i64 x.n,.string x.s,.int .i64 x.at_]):=
    hk3 _ _ Wg6.out (λe=>by injection e;omega) (λc fz e=>by injection e with _ e2;cases e2);clear hb3 Qhg hk3 hsz;have ck:=Wbf.out.at_ (j:=1) rfl;go_wp2_with fail;go_loopw [6,20] (λ_ t wr=> ∃j:Nat,j<=x.kids.length/\t= .int .i64 (j:Int)/\Hid (Lib.IsBuilderF 42 5 B ob (bs++Lib.byteCells (Ep l i j)) wr)/\Hid (Below B w wr)/\Hid (Lib.OthersKept 5 (some ob) w wr)) (λ_ t _=>x.kids.length-(intOf t).toNat)
   case atStart=>exact ⟨0,by omega,rfl,.inr HB3.out,Qq7,Yj⟩
   case round=>
    obtain ⟨j,hj,rfl,H7,Qpz,HKj⟩:=hrel;have HEj:=Qa (HE.out.keep (by rw [<-Yx.out];exact Qpz.out) HKj.out);by_cases hjm:j<x.kids.length
    ·have Qgb:(j:Int)<(x.kids.length:Int):=(by omega);have hjk:Hid (j<(nd l i).kids.length):=(by show j<_;rw [<-HX.out];exact hjm);obtain ⟨q,hq,hqi,_⟩:=Qd7 HA.out Xl.out hjk.out;have Qu0:=HE.out.nodes.2 i Xl.out;rw [<-HX.out]at Qu0;obtain ⟨kb,ko,hka,hkb,hkc⟩:=(Qu0.rows.below HEj.out.below) (by omega);have hc:=hkc j hjm;simp only at hc;rw [HX.out,hq]at hc;rw [hka];have HQ:=Qa hq;clear hkc hq Qu0 hka;have Yi:=Qa (Q8p hjk.out HQ.out);have Yk:=Qa (Q8d HA.out (j:=j+1) Xl.out (by rw [<-HX.out];omega) hjk.out);have HLX:Hid (bs.length+(Ep l i j).length+1+(tx l q).length<=140737488355328):=by have h1:=Qmm.out;have h2:=Yk.out;rw [Yi.out,Qf,Qf]at h2;simp at h2;show _<=_;omega
     go_wp2_with fail;refine (Tryz.Builder_WriteString_k B ob _ _ wr H7.out (by rw [Qf,Lib.byteCells_length];have h1:=HLX.out;show _+1<=_;omega) (Qcy H7.out)).mono ?_;rintro e w4 ⟨rfl,hb4,Qjf,Qhm⟩;have Jf:Hid (Lib.IsBuilderF 42 5 B ob (bs++Lib.byteCells (Ep l i j++[32])) w4):=by refine .inr ?_;rw [Lib.byteCells_append,<-Qy];exact hb4
     have Rf:Hid (Below B w w4):=Qpz.out.trans Qjf;have Zv:Hid (Lib.OthersKept 5 (some ob) w w4):=HKj.out.trans Qhm;clear hb4 Qjf Qhm;have Ya:=Qa (HE.out.keep (by rw [<-Yx.out];exact Rf.out) Zv.out);have cP:=Held.at_ (show Held w4 pb 123 _ from Ya.out.pc) (j:=0) rfl;have cL:=Held.at_ (show Held w4 lb 22 _ from Ya.out.lc) (j:=0) rfl;have M6:q<l.length:=(by have:=Xl.out;omega);obtain ⟨nb,no,rfl,hnb,c0,c1,c2,c3,c4⟩:=(Ya.out.nodes.below Ya.out.below).at_ M6;have hqn:(q:Int)<(n:Int):=(by have:=Zn.out;omega);have HVQ:Hid ((nd l q).v= .agg #[.int .i64 (nd l q).kind,.slice (nd l q).ka (nd l q).kids.length (nd l q).kc,.int .i64 (nd l q).n,.string (nd l q).s,.int .i64 (nd l q).at_]):=rfl;obtain ⟨y,hy⟩:=Qb (nd l q);rw [<-hy]at c0 c1 c2 c3 c4 HVQ;have HY:=Qa hy;clear hy;go_wp2_with fail;go_still_tail 5,(by kernel_rfl);change wpList _ _ _ _ _ w4.drew;obtain ⟨w5,K8⟩:=Qb w4.drew;have HD5:Hid (Below w4.heap.size w4 w5):=(by rw [K8];exact Wq w4 1 _);rw [<-K8];have Q4e:Hid (Below B w w5):=Rf.out.trans (HD5.out.mono (Qcy Jf.out));have A9:Hid (Lib.OthersKept 5 (some ob) w w5):=Zv.out.trans (Qj9 HD5.out);have hput:=IH.out q (by omega) M6 (bs++Lib.byteCells (Ep l i j++[32])) w5 (HE.out.keep (by rw [<-Yx.out];exact Q4e.out) A9.out) (by rw [<-Yx.out];exact Qh3 Jf.out HD5.out) (by rw [Qf,Lib.byteCells_length,Qf];have:=HLX.out;simp;omega);rw [<-Yx.out,<-HY.out,HVQ.out]at hput;have Df:=Qa hput;clear hput K8 c0 c1 c2 c3 c4 cP cL;go_wp2_with fail;refine Df.out.mono ?_;rintro e w6 ⟨rfl,hb6,Qjv,V8⟩;have Br:Hid (Lib.IsBuilderF 42 5 B ob (bs++Lib.byteCells (Ep l i (j+1))) w6):=by show Lib.IsBuilderF _ _ _ _ _ _;rw [Yi.out,Lib.byteCells_append _ (tx l q),<-Qy];exact hb6
     have Qkt:Hid (Below B w w6):=Q4e.out.trans Qjv;have Nq:Hid (Lib.OthersKept 5 (some ob) w w6):=A9.out.trans V8;clear hb6 Qjv V8;go_wp2_with fail;go_roundw
     case rel=>exact ⟨j+1,by omega,by go_num,Br,Qkt,Nq⟩
     case measure=>simp [intOf];omega
    ·have HJ:Hid (j=x.kids.length):=(by show _=_;omega);have Qo:Hid (tx l i=Ep l i j++[41]):=by show _=_;rw [Qvs HA.out Xl.out (by rw [<-HX.out];omega),<-HX.out,HJ.out]
     go_wp2_with fail;refine (Tryz.Builder_WriteString_k B ob _ _ wr H7.out (by rw [Qf,Lib.byteCells_length];have h1:=Qmm.out;rw [Qo.out,Qf]at h1;simp at h1;show _+1<=_;omega) (Qcy H7.out)).mono ?_;rintro e w4 ⟨rfl,hb4,Qjf,Qhm⟩;have Jf:=Qa hb4;have Rf:Hid (Below B w w4):=Qpz.out.trans Qjf;have Zv:Hid (Lib.OthersKept 5 (some ob) w w4):=HKj.out.trans Qhm;clear hb4 Qjf Qhm;go_wp2_with fail;go_end0;exact Qkx.of rfl (.inr Jf.out) (by rw [Qo.out,Lib.byteCells_append,Qy];rfl) Rf.out Zv.out
end
def sumTo (f:Nat->Nat):Nat->Nat
 | 0=>0
 |n+1=>sumTo f n+f n
theorem Qxt (f:Int->Nat) {x:Int}: ∀{l:List Int},x∈l->(l.map f).sum=f x+((l.erase x).map f).sum
 | [],h=>by cases h
 |y::r,h=>by
  by_cases e:y=x
  ·subst e;simp
  ·have hx:x∈r:=by
    rcases List.mem_cons.1 h with h' |h'
    ·exact absurd h'.symm e
    ·exact h'
   have ih:=Qxt f hx;rw [List.erase_cons_tail (by simpa using e)];simp only [Y6,List.sum_cons];omega
theorem Qs9 (f:Nat->Nat): ∀(n:Nat) (l:List Int),l.Nodup->(∀x∈l,0<=x/\x<(n:Int))->(l.map (λx=>f x.toNat)).sum<=sumTo f n
 | 0,[],_,_=>Qh _
 | 0,x::r,_,h=>by have:=h x (by simp);omega
 |n+1,l,hn,h=>by
  by_cases hm:(n:Int)∈l
  ·have h1:=Qs9 f n (l.erase (n:Int)) (hn.erase _) (λx hx=>by have h2:=(List.Nodup.mem_erase_iff hn).1 hx;have h3:=h x h2.2;have:=h2.1;omega);rw [Qxt (λx=>f x.toNat) hm];simp only [sumTo,Ja];omega
  ·have h1:=Qs9 f n l hn (λx hx=>by have h3:=h x hx;have:x≠(n:Int):=λe=>hm (e▸hx);omega);simp only [sumTo];omega
theorem Qzn {l:List Nd} (hA:Ahead l): ∀i,i<=l.length->sumTo (sz l) i=i+((Jc l i).map (λx=>sz l x.toNat)).sum
 | 0,_=>by simp [sumTo,Jc]
 |i+1,h=>by have ih:=Qzn hA i (by omega);rw [Qf0 (by omega),Zp,List.sum_append];simp only [sumTo];rw [ih,Qng hA (by omega)];omega
theorem Qlo {l:List Nd} (h:Hw l):sz l (l.length-1)<=l.length:=by
 obtain ⟨h0,hA,hN,hL⟩:=h;have h1:=Qzn hA l.length (Qh _);have hr: ∀x∈Jc l l.length,0<=x/\x<((l.length-1:Nat):Int):=by intro x hx;obtain ⟨y,hy,hxy⟩:=List.mem_flatMap.1 hx;obtain ⟨q,hq,rfl⟩:=List.mem_iff_getElem.1 hy;rw [F9]at hq;rw [List.getElem_take,<-Uv (by omega)]at hxy;have:=hA q (by omega) x hxy;omega
 have h2:=Qs9 (sz l) (l.length-1) _ hN hr;have h3:sumTo (sz l) l.length=sumTo (sz l) (l.length-1)+sz l (l.length-1):=by obtain ⟨p,hp⟩: ∃p,l.length=p+1:=⟨l.length-1,by omega⟩;rw [hp,Nat.add_sub_cancel];rfl
 omega
theorem Wf1 {xs:List Nat} {x:Nat} (h:x∈xs):x<=xs.sum:=by
 induction xs with
 |nil=>cases h
 |cons y r ih=>
  rw [List.sum_cons];rcases List.mem_cons.1 h with rfl |h'
  ·omega
  ·have:=ih h';omega
theorem Wqz {l:List Nd} (hA:Ahead l) {i:Nat} (hi:i<l.length) {k:Int} (hk:k∈(nd l i).kids):sz l k.toNat<sz l i:=by rw [Qng hA hi];have:=Wf1 (List.mem_map.2 ⟨k,hk,rfl⟩:sz l k.toNat∈(nd l i).kids.map (λk=>sz l k.toNat));omega
theorem Wge {l:List Nd} (hA:Ahead l) {i j:Nat} (h:Under l i j):i<l.length->sz l j<=sz l i:=by
 induction h with
 |refl i=>intro _;exact Qh _
 |step hk _ ih=>
  intro hi;have h1:=hA _ hi _ hk;have h2:=ih (by omega);have h3:=Wqz hA hi hk;omega
theorem Wpv {l:List Nd} (h:Hw l) {i:Nat} (hi:i<l.length):sz l i<=l.length:=by have h1:=Wge h.2.1 (Qq9 h (l.length-1-i) i (Qh _) hi) (by omega);have h2:=Qlo h;omega
theorem Wki {x:Nd} (h:ownB x=true):x.t.length<=32:=by
 unfold ownB at h;simp only [Yo]at h;have h1:=h.1.2;split at h1
 ·unfold Xa at h1;simp only [Yo,Wt]at h1;exact h1.1.1.1.2
 ·rw [Wt]at h1;rw [h1];simp
theorem Wpm {x:Nd} (h:ownB x=true) (n1:x.n<=9223372036854775807): -9223372036854775808<=x.n:=by
 unfold ownB Ej at h;simp only [Yo]at h;have h1:=h.2;split at h1
 ·simp at h1;omega
 ·split at h1
  ·simp at h1;omega
  ·split at h1
   ·simp at h1;omega
   ·split at h1
    ·simp at h1;omega
    ·simp at h1;omega
theorem Q2p {l:List Nd} {C:Nat}: ∀(ks:List Int),(∀k∈ks,(tx l k.toNat).length+1<=C*sz l k.toNat)->(ks.flatMap (λk=>32::tx l k.toNat)).length<=C*(ks.map (λk=>sz l k.toNat)).sum
 | [],_=>by simp
 |k::r,h=>by have h1:=h k (by simp);have ih:=Q2p r (λk hk=>h k (Iy _ hk));simp only [List.flatMap_cons,Qf,Qp,Y6,List.sum_cons,Cu];omega
theorem Woy {l:List Nd} (hA:Ahead l) (hO: ∀i,i<l.length->ownB (nd l i)=true) (hn: ∀i,i<l.length->(nd l i).n<=9223372036854775807): ∀(N i:Nat),i<N->i<l.length->(tx l i).length+1<=64*sz l i:=by
 intro N
 induction N with
 |zero=>intro i h;omega
 |succ N ih=>
  intro i hiN hi;have h1:=Wki (hO i hi);have h2:=Qtw (nd l i) (Wpm (hO i hi) (hn i hi)) (hn i hi);have h3:=Qng hA hi;by_cases hk:(nd l i).kind<=4
  ·rw [Qr0 hA hi hk];omega
  ·rw [Qvs hA hi hk];have h4:=Q2p (l:=l) (C:=64) (nd l i).kids (λk hk'=>by have:=hA i hi k hk';exact ih k.toNat (by omega) (by omega));unfold Ep;rw [List.take_length];simp only [Qf,Qp,Q8];omega
theorem Wi7 {l:List Nd} (h:Fits l) {i:Nat} (hi:i<l.length):ownB (nd l i)=true:=by have:=h i hi;unfold J7 at this;rw [Yo]at this;exact this.1
theorem Wix {l:List Nd} (h:Fits l) {i:Nat} (hi:i<l.length):1<=(nd l i).kind/\(nd l i).kind<=26:=Q6k (h i hi)
theorem Q88 {l:List Nd} (h:Hw l) (hF:Fits l) (hn: ∀i,i<l.length->(nd l i).n<=9223372036854775807) {i:Nat} (hi:i<l.length):(tx l i).length<=64*l.length:=by have h1:=Woy h.2.1 (λi hi=>Wi7 hF hi) hn (i+1) i (by omega) hi;have h2:=Wpv h hi;omega
section
open Go.RowKit
def We6 (l:List Nd) (w:World) (e:Ending) (w':World):Prop:=
 Below w.heap.size w w'/\((Rt l/\e= .returned (txt (tx l (l.length-1))))\/(¬Rt l/\e= .returned (txt [])))
theorem Wgd (a:Option Addr) (c n:Nat) (l:List Nd) (w:World) (hn:n=l.length) (Rm:Dp w) (hN:Nodes w a l) (hll:n<=1000000000):
  Calls prog 81 #[.slice a n c] w (We6 l w):=by
 have Zn:=Qa hn;have HN:=Qa hN;have Fz:=Qa Rm;clear hn hN Rm;obtain ⟨w1,hw1⟩:=Qb (w.alloc (.cells #[.slice a n c] 22));have HB1:Hid (Below w.heap.size w w1):=by rw [hw1];exact Qag
 have Ym:Hid (Held w1 w.heap.size 22 #[.slice a n c]):=by rw [hw1];exact Held.new w _ _
 have hright:=Qsq a c l w1 (Fz.out.below HB1.out) (HN.out.below HB1.out) (by rw [<-Zn.out];exact hll);rw [<-Zn.out]at hright;have HR:=Qa hright;clear hright;go_enter func81,ntmps81;rw [Qz 5];go_wp2_with fail;rw [<-hw1];refine HR.out.mono ?_;rintro e w2 ⟨b,rfl,hiff,hb2⟩;have HB2:Hid (Below w.heap.size w w2):=HB1.out.trans (hb2.mono HB1.out.size);have HL2:=Qa (Ym.out.since hb2);have Ka:=Qa hiff;clear hb2 hiff hw1;cases b with
 |false=>
  go_wp2_with fail;go_ret;exact ⟨HB2.out,.inr ⟨(λh=>by cases Ka.out.2 h),rfl⟩⟩
 |true=>
  have Nf:Hid (Rt l):=Ka.out.1 rfl;have hpos:0<n:=by rw [Zn.out];exact Nf.out.1.1
  go_wp2_with fail;obtain ⟨B,hB⟩:=Qb w2.heap.size;obtain ⟨lb,hlb⟩:=Qb w.heap.size;rw [<-hB,<-hlb];rw [<-hlb]at HL2;have Ec:=Qa hlb;obtain ⟨w3,hw3⟩:=Qb ((w2.alloc (.cells #[.pointer none,.slice none 0 0] 42)).alloc (.cells #[.nilFunc] 123));rw [<-hw3];have Wsc:lb<B:=by rw [hB];exact HL2.out.lt
  have HH0:Hid (Held w3 B 42 #[.pointer none,.slice none 0 0]):=by rw [hw3,hB];exact (Held.new w2 _ _).alloc _
  have Wo:Hid (Held w3 (B+1) 123 #[.nilFunc]):=by have h:=Held.new (w2.alloc (.cells #[.pointer none,.slice none 0 0] 42)) 123 #[.nilFunc];have e:(w2.alloc (.cells #[.pointer none,.slice none 0 0] 42)).heap.size=B+1:=(by rw [hB];simp);rw [e]at h;rw [hw3];exact h
  have HB3:Hid (Below w2.heap.size w2 w3):=by rw [hw3];exact Qag.alloc (by simp) _
  have Vm:=Qa (HL2.out.since HB3.out);have Yx:=Qa hB;clear hB hlb hw3;have cr:=Wo.out.at_ (j:=0) (v:=.nilFunc) rfl;have fr:=Wo.out.frozen 0;refine Qn ?_;go_wp2_with fail;obtain ⟨w4,hw4⟩:=Qb (w3.setCell ⟨B+1,0,none⟩ (.func (.func 116) #[] #[.pointer (some ⟨B,0,none⟩),.pointer (some ⟨B+1,0,none⟩),.pointer (some ⟨lb,0,none⟩)]));rw [<-hw4];have Jf:Hid (Below w2.heap.size w2 w4):=by rw [hw4];exact HB3.out.setCell (p:=⟨B+1,0,none⟩) (by show _<=B+1;rw [Yx.out];omega) _
  have HE:Hid (Qh4 w2 w4 a l n c B (B+1) lb):=by
   refine ⟨HN.out.below HB2.out,Fz.out.below HB2.out,Jf.out,by rw [Yx.out];exact Qh _,?_,?_,by omega,by omega⟩
   ·rw [hw4];exact Wo.out.set 0 _
   ·rw [hw4];exact Vm.out.off (g':=B+1) (by omega) 0 _
  have Aq:Hid (Lib.IsBuilderF 42 5 w2.heap.size B [] w4):=by refine .inl ⟨by rw [Yx.out];exact Qh _,.slice none 0 0,?_,⟨rfl,.inl ⟨rfl,rfl⟩⟩,by simp [Value.ownBlock]⟩;rw [hw4];exact HH0.out.off (g':=B+1) (by omega) 0 _
  clear hw4 cr fr HH0 Wo Vm Ka;have cP:=Held.at_ (show Held w4 (B+1) 123 _ from HE.out.pc) (j:=0) rfl;have cL:=Held.at_ (show Held w4 lb 22 _ from HE.out.lc) (j:=0) rfl;obtain ⟨p,rfl⟩: ∃p,n=p+1:=⟨n-1,by omega⟩;have hpl:p<l.length:=by rw [<-Zn.out];omega
  obtain ⟨nb,no,rfl,hnb,c0,c1,c2,c3,c4⟩:=(HE.out.nodes.below HE.out.below).at_ hpl;have HVQ:Hid ((nd l p).v= .agg #[.int .i64 (nd l p).kind,.slice (nd l p).ka (nd l p).kids.length (nd l p).kc,.int .i64 (nd l p).n,.string (nd l p).s,.int .i64 (nd l p).at_]):=rfl;have HTS:Hid ((tx l p).length<=64*l.length):=Q88 Nf.out.1 Nf.out.2.1 (λi hi=>(HN.out.2 i hi).n1) hpl;obtain ⟨y,hy⟩:=Qb (nd l p);rw [<-hy]at c0 c1 c2 c3 c4 HVQ;have HY:=Qa hy;clear hy;have hwp:IntKind.i64.wrap (p:Int)=(p:Int):=Go.IntWalk.i64_in _ (by omega);have hpi:(p:Int)<(p:Int)+1:=by omega
  go_wp2_with fail;go_still_tail 7,(by kernel_rfl);change wpList _ _ _ _ _ w4.drew;obtain ⟨w5,K8⟩:=Qb w4.drew;have HD5:Hid (Below w4.heap.size w4 w5):=by rw [K8];exact Wq w4 1 _
  rw [<-K8];have hput:=Wee w2 (some ⟨nb,no,none⟩) l (p+1) c B (B+1) lb Nf.out.1.2.1 Zn.out hll (λi hi=>Wix Nf.out.2.1 hi) (p+1) p (by omega) hpl [] w5 (HE.out.keep (HD5.out.mono Jf.out.size) (Qj9 HD5.out)) (Qh3 Aq.out HD5.out) (by have h1:=HTS.out;have h2:=Zn.out;simp;omega);rw [<-HY.out,HVQ.out]at hput;have Df:=Qa hput;clear hput K8 c0 c1 c2 c3 c4 cP cL;go_wp2_with fail;refine Df.out.mono ?_;rintro e w6 ⟨rfl,hb6,Qjv,V8⟩;have Br:=Qa hb6;have Qkt:Hid (Below w.heap.size w w6):=by have h1:Below w2.heap.size w2 w6:=(Jf.out.trans (HD5.out.mono Jf.out.size)).trans Qjv;exact HB2.out.trans (h1.mono HB2.out.size)
  clear hb6 Qjv V8;rw [Xk]at Br;go_wp2_with fail;refine (Tryz.Builder_String_any_k w2.heap.size B (tx l p) w6 Br.out (Qcy Br.out)).mono ?_;rintro e w7 ⟨rfl,_,M4,_⟩;have Bv:Hid (Below w.heap.size w w7):=Qkt.out.trans (M4.mono HB2.out.size);clear M4;go_wp2_with fail;go_ret;refine ⟨Bv.out,.inl ⟨Nf.out,?_⟩⟩;have e:l.length-1=p:=by rw [<-Zn.out,Nat.add_sub_cancel]
  rw [e];rfl
theorem Qt9 (a:Option Addr) (c n:Nat) (l:List Nd) (w:World) (hn:n=l.length) (hN:Nodes w a l) (hll:n<=100000):
  Calls prog 6 #[.slice a n c] w (Jr (Wh l) w):=by
 have Zn:=Qa hn;have HN:=Qa hN;have hcall:=Wny a c n l w hn hN hll;have HC:=Qa hcall;clear hn hN hcall;go_enter func6,ntmps6;go_wp2_with fail;refine HC.out.mono ?_;rintro e w1 ⟨b,rfl,hiff,hb1⟩;have HB1:=Qa hb1;have Ka:=Qa hiff;clear hb1 hiff;cases b with
 |false=>
  go_wp2_with fail;go_ret;exact Jr.no rfl (λh=>by cases Ka.out.2 h.1) HB1.out
 |true=>
  have HR:Hid (Rt l):=Ka.out.1 rfl;have hpos:0<n:=by rw [Zn.out];exact HR.out.1.1
  obtain ⟨p,rfl⟩: ∃p,n=p+1:=⟨n-1,by omega⟩;have hpl:p<l.length:=by rw [<-Zn.out];omega
  obtain ⟨lb,lo,rfl,hlb,h5⟩:=(HN.out.below HB1.out).at_ hpl;have c0:=h5.1;obtain ⟨K,hK⟩:=Qb ((nd l p).kind);rw [<-hK]at c0;have HK:Hid ((nd l (l.length-1)).kind=K):=by show _=_;rw [<-Zn.out,Nat.add_sub_cancel,hK]
  clear hK h5 hpos;by_cases hk:K=26
  ·have hk':(K==26)=true:=(by simp [hk]);have HKK:=Qa hk;clear hk;go_wp2_with fail;go_ret;exact Jr.yes rfl ⟨HR.out,HK.out.trans HKK.out⟩ HB1.out
  ·have hk':(K==26)=false:=(by simp [hk]);have HKK:=Qa hk;clear hk;go_wp2_with fail;go_ret;exact Jr.no rfl (λh=>HKK.out (HK.out.symm.trans h.2)) HB1.out
def decs (u:Nat):List UInt8:=if u=0 then []else Lib.decDigits u
theorem Wr8 {u:Nat} (h:u≠0):decs u=decs (u/10)++[UInt8.ofNat (48+u%10)]:=by
 unfold decs;rw [Qd h,Lib.decDigits];by_cases h10:u<10
 ·rw [dif_pos h10,Qk (by omega),Nat.mod_eq_of_lt h10];rfl
 ·rw [dif_neg h10,Qd (by omega)]
theorem Q8r (W:World) (u:Nat) (hu:u<256):(convert 40 9 (.slice (some ⟨W.heap.size,0,none⟩) 1 1)).run prog (W.alloc (.cells #[.int .u8 (u:Int)] 5))=
  .ok (.string ⟨#[UInt8.ofNat u]⟩) (W.alloc (.cells #[.int .u8 (u:Int)] 5)):=by
 refine run_convert_bytes_back (P:=prog) (W.alloc (.cells #[.int .u8 (u:Int)] 5)) 40 9 5 ⟨W.heap.size,0,none⟩ 1 [UInt8.ofNat u] underlying40 underlying5 underlying9 ?_;intro j hj;have hj0:j=0:=by simp at hj;exact hj
 subst hj0;have h:=(Held.new W 5 #[.int .u8 (u:Int)]).at_ (j:=0) (v:=.int .u8 (u:Int)) rfl;rw [show (⟨W.heap.size,0,none⟩:Addr).add 0=⟨W.heap.size,0,none⟩from rfl,h];have:(UInt8.ofNat u).toNat=u:=by simp [UInt8.toNat_ofNat'];omega
 simp [this]
theorem Wsb (n:Nat) (w:World) (hn:n<=9223372036854775807):
  Calls prog 27 #[.int .i64 (n:Int)] w λe w'=>e= .returned (txt (Lib.itoa (n:Int)))/\Below w.heap.size w w':=by
 have HLEN:=Qa (Lib.itoa_length_le (n:Int) (by omega) (by omega));by_cases h0:n=0
 ·subst h0;have HI:Hid (Lib.itoa ((0:Nat):Int)=[48]):=by show _=_;rw [show Lib.itoa ((0:Nat):Int)=Lib.decDigits 0 from rfl,Lib.decDigits,dif_pos (by omega)];rfl
  rw [HI.out];go_enter func27,ntmps27;go_wp2_with fail;go_ret;exact ⟨rfl,Below.refl _ _⟩
 ·have HI:Hid (Lib.itoa (n:Int)=decs n):=by show _=_;unfold Lib.itoa decs;rw [Qd (by omega),Qd h0,Ja]
  rw [HI.out]at HLEN ⊢;have hne:((n:Int)==0)=false:=by simp;omega
  obtain ⟨D0,hD0⟩:=Qb (decs n);rw [<-hD0]at HLEN HI ⊢;have HD0:=Qa hD0;clear hD0;go_enter func27,ntmps27;go_wp2_with fail;go_loopw [3,4] (λt3 t4 wr=> ∃(u:Nat) (D:List UInt8),u<=n/\t4= .int .i64 (u:Int)/\t3= .string ⟨D.toArray⟩/\D.length<=21/\Hid (D0=decs u++D)/\Hid (Below w.heap.size w wr)) (λ_ t4 _=>(intOf t4).toNat)
  case atStart=>exact ⟨n,[],by omega,rfl,rfl,by simp,(by show _=_;rw [HD0.out,Xe]),Below.refl _ _⟩
  case round=>
   obtain ⟨u,D,hu,rfl,rfl,hD,HD,HB⟩:=hrel;by_cases hu0:u=0
   ·subst hu0;go_wp2_with fail;go_ret;refine ⟨?_,HB.out⟩;rw [HD.out];rfl
   ·have Wta:((u:Int) != 0)=true:=(by simp;omega);have Yi:=Qa (Wr8 hu0);obtain ⟨R,hR⟩:=Qb (u%10);obtain ⟨Q,hQ⟩:=Qb (u/10);rw [<-hR,<-hQ]at Yi;have Wtf:R<10:=(by omega);have e1:(u:Int).tmod 10=(R:Int):=(by rw [Int.tmod_eq_emod_of_nonneg (by omega)];omega);have e2:(u:Int).tdiv 10=(Q:Int):=(by rw [Int.tdiv_eq_ediv_of_nonneg (by omega)];omega);have hQu:Q<u:=(by omega);clear hR hQ;have Ip:=Q8r wr (48+R) (by omega);rw [show ((48+R:Nat):Int)=48+(R:Int) by omega]at Ip;have Yk:Hid (D.length+1<=21):=by have h1:=HLEN.out;rw [HD.out,Yi.out]at h1;simp at h1;show _<=_;omega
    have Xz:Hid (Below w.heap.size w (wr.alloc (.cells #[.int .u8 (48+(R:Int))] 5))):=HB.out.alloc HB.out.size _;go_wp2_with fail;go_roundw
    case rel=>exact ⟨Q,UInt8.ofNat (48+R)::D,by omega,by go_num,(by congr 1;apply ByteArray.ext;simp),Yk.out,(by show _=_;rw [HD.out,Yi.out];simp),Xz.out⟩
    case measure=>simp [intOf];omega
def Qm9:Array Value:=((Xu.drop 1).map txt).toArray
theorem Wsf: ∀j,j<16->Qm9[j]? =some (txt (Xu.getD (j+1) []))
 | 0,_=>by kernel_rfl
 | 1,_=>by kernel_rfl
 | 2,_=>by kernel_rfl
 | 3,_=>by kernel_rfl
 | 4,_=>by kernel_rfl
 | 5,_=>by kernel_rfl
 | 6,_=>by kernel_rfl
 | 7,_=>by kernel_rfl
 | 8,_=>by kernel_rfl
 | 9,_=>by kernel_rfl
 | 10,_=>by kernel_rfl
 | 11,_=>by kernel_rfl
 | 12,_=>by kernel_rfl
 | 13,_=>by kernel_rfl
 | 14,_=>by kernel_rfl
 | 15,_=>by kernel_rfl
 |n+16,h=>by omega
theorem Wbg (w:World):
  Calls prog 66 #[] w λe w'=>e= .returned (.slice (some ⟨w.heap.size,0,none⟩) 16 16)/\w'=w.alloc (.cells Qm9 9):=by
 go_enter func66,ntmps66;go_wp2;go_ret;exact ⟨rfl,rfl⟩
def Qnl:Array Value:= #[.string ⟨#[]⟩,.string ⟨#[]⟩,.string ⟨#[110,105,108]⟩,.string ⟨#[]⟩,.string ⟨#[]⟩,.string ⟨#[110,101,103]⟩,.string ⟨#[110,111,116]⟩,.string ⟨#[97,116]⟩,.string ⟨#[108,101,110]⟩,.string ⟨#[110,101,119]⟩,.string ⟨#[99,97,108,108]⟩,.string ⟨#[118,97,114]⟩,.string ⟨#[115,101,116]⟩,.string ⟨#[112,117,116]⟩,.string ⟨#[105,102]⟩,.string ⟨#[119,104,105,108,101]⟩,.string ⟨#[102,111,114]⟩,.string ⟨#[98,114,101,97,107]⟩,.string ⟨#[99,111,110,116,105,110,117,101]⟩,.string ⟨#[114,101,116,117,114,110]⟩,.string ⟨#[112,114,105,110,116]⟩,.string ⟨#[100,111]⟩,.string ⟨#[98,108,111,99,107]⟩,.string ⟨#[]⟩,.string ⟨#[102,110]⟩,.string ⟨#[112,114,111,103]⟩]
theorem Q9q: ∀j,j<26->Qnl[j]? =some (txt (Quo.getD (j+1) []))
 | 0,_=>by kernel_rfl
 | 1,_=>by kernel_rfl
 | 2,_=>by kernel_rfl
 | 3,_=>by kernel_rfl
 | 4,_=>by kernel_rfl
 | 5,_=>by kernel_rfl
 | 6,_=>by kernel_rfl
 | 7,_=>by kernel_rfl
 | 8,_=>by kernel_rfl
 | 9,_=>by kernel_rfl
 | 10,_=>by kernel_rfl
 | 11,_=>by kernel_rfl
 | 12,_=>by kernel_rfl
 | 13,_=>by kernel_rfl
 | 14,_=>by kernel_rfl
 | 15,_=>by kernel_rfl
 | 16,_=>by kernel_rfl
 | 17,_=>by kernel_rfl
 | 18,_=>by kernel_rfl
 | 19,_=>by kernel_rfl
 | 20,_=>by kernel_rfl
 | 21,_=>by kernel_rfl
 | 22,_=>by kernel_rfl
 | 23,_=>by kernel_rfl
 | 24,_=>by kernel_rfl
 | 25,_=>by kernel_rfl
 |n+26,h=>by omega
theorem Whl (x:Nd) (w:World) (h1:3<=x.kind) (h2:x.kind<=26) (h5:x.kind=5->1<=x.n/\x.n<=16):
  Calls prog 28 #[x.v] w λe w'=>e= .returned (txt (Cw x))/\Below w.heap.size w w':=by
 obtain ⟨K,ka,kc,ks,n,s,at_⟩:=x;obtain ⟨m,hm⟩:=Qb ks.length;have HV:Hid (Nd.v ⟨K,ka,kc,ks,n,s,at_⟩= .agg #[.int .i64 K,.slice ka m kc,.int .i64 n,.string s,.int .i64 at_]):=by rw [hm];rfl
 rw [HV.out];simp only at h1 h2 h5;clear HV;obtain ⟨w1,hw1⟩:=Qb ((w.alloc (.cells #[.int .i64 K,.slice ka m kc,.int .i64 n,.string s,.int .i64 at_] 37)).alloc (.cells #[.string ⟨#[]⟩,.string ⟨#[]⟩,.string ⟨#[110,105,108]⟩,.string ⟨#[]⟩,.string ⟨#[]⟩,.string ⟨#[110,101,103]⟩,.string ⟨#[110,111,116]⟩,.string ⟨#[97,116]⟩,.string ⟨#[108,101,110]⟩,.string ⟨#[110,101,119]⟩,.string ⟨#[99,97,108,108]⟩,.string ⟨#[118,97,114]⟩,.string ⟨#[115,101,116]⟩,.string ⟨#[112,117,116]⟩,.string ⟨#[105,102]⟩,.string ⟨#[119,104,105,108,101]⟩,.string ⟨#[102,111,114]⟩,.string ⟨#[98,114,101,97,107]⟩,.string ⟨#[99,111,110,116,105,110,117,101]⟩,.string ⟨#[114,101,116,117,114,110]⟩,.string ⟨#[112,114,105,110,116]⟩,.string ⟨#[100,111]⟩,.string ⟨#[98,108,111,99,107]⟩,.string ⟨#[]⟩,.string ⟨#[102,110]⟩,.string ⟨#[112,114,111,103]⟩] 9));have HB:Hid (Below w.heap.size w w1):=by rw [hw1];exact Qag.alloc (by simp) _
 have HH:Hid (Held w1 (w.heap.size+1) 9 Qnl):=by
  have h:=Held.new (w.alloc (.cells #[.int .i64 K,.slice ka m kc,.int .i64 n,.string s,.int .i64 at_] 37)) 9 Qnl;have e:(w.alloc (.cells #[.int .i64 K,.slice ka m kc,.int .i64 n,.string s,.int .i64 at_] 37)).heap.size=w.heap.size+1:=by simp
  rw [e]at h;rw [hw1];exact h
 have HH0:Hid (Held w1 w.heap.size 37 #[.int .i64 K,.slice ka m kc,.int .i64 n,.string s,.int .i64 at_]):=by rw [hw1];exact (Held.new w _ _).alloc _
 by_cases k5:K=5
 ·obtain ⟨g1,g2⟩:=h5 k5;obtain ⟨k,hk⟩: ∃k:Nat,n=(k:Int)+1:=⟨(n-1).toNat,by omega⟩;subst hk k5;have Qwc:k<16:=by omega
  have hki:(k:Int)<16:=by omega
  have HW:Hid (Cw ⟨5,ka,kc,ks,(k:Int)+1,s,at_⟩=Xu.getD (k+1) []):=Q6h (k:=k+1) (by omega);rw [HW.out];clear HW hm h5 HH;have HRS:=Qa (Wsf k Qwc);obtain ⟨C,hC⟩:=Qb (Xu.getD (k+1) []);rw [<-hC]at HRS ⊢;clear hC;go_enter func28,ntmps28;rw [Qz 2];go_wp2_with fail;rw [<-hw1];obtain ⟨g,hg⟩:=Qb w.heap.size;rw [<-hg]at HH0 ⊢;clear hw1 hg;have c0:=HH0.out.at_ (j:=0) rfl;have c2:=HH0.out.at_ (j:=2) rfl;refine Qn ?_;have hwp:IntKind.i64.wrap (k:Int)=(k:Int):=Go.IntWalk.i64_in _ (by omega);have hk0:(0:Int)<=(k:Int):=by omega
  have hkd:decide (k<16)=true:=by simpa using Qwc
  go_wp2_with fail;go_region_with (go_at_call 66;refine (Wbg _).mono ?_;rintro e w2 ⟨rfl,hw2⟩;have HB2:Hid (Below w1.heap.size w1 w2):=(by rw [hw2];exact ((Wq w1 1 _)).alloc (Qh _) _);have hcC:w2.cell? ⟨w1.heap.size,k,none⟩=some (txt C):=(by rw [hw2];exact (Held.new w1.drew 9 Qm9).at_ HRS.out);unfold txt at hcC;have c22:=(HH0.out.since HB2.out).at_ (j:=2) rfl;clear hw2)
  all_goals
   go_wp2_with fail;go_ret;exact ⟨rfl,HB.out.trans (HB2.out.mono HB.out.size)⟩
 ·obtain ⟨k,hk⟩: ∃k:Nat,K=(k:Int)+1:=⟨(K-1).toNat,by omega⟩;subst hk;have Ws2:k<26:=by omega
  have hki:(k:Int)<26:=by omega
  have HW:Hid (Cw ⟨(k:Int)+1,ka,kc,ks,n,s,at_⟩=Quo.getD (k+1) []):=by show Cw _=_;unfold Cw;simp only;rw [Qd (by omega),Qd (by omega),Qd k5];rfl
  rw [HW.out];clear HW hm h5;have cC:=HH.out.at_ (Q9q k Ws2);unfold txt at cC ⊢;obtain ⟨C,hC⟩:=Qb (Quo.getD (k+1) []);rw [<-hC]at cC ⊢;clear hC;have e5:((k:Int)+1==5)=false:=by simpa using k5
  clear k5;go_enter func28,ntmps28;rw [Qz 2];go_wp2_with fail;rw [<-hw1];have c0:=HH0.out.at_ (j:=0) rfl;clear hw1;refine Qn ?_;go_wp2_with fail;go_ret;exact ⟨rfl,HB.out⟩
end
end Go.Proofs.YtdncpkkhkbijfaaGreatDoor
