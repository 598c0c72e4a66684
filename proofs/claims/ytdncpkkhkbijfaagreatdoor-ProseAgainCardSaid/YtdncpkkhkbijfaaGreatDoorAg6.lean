import Derived.Test.YtdncpkkhkbijfaaGreatDoorAg3
import Derived.Test.YtdncpkkhkbijfaaGreatDoorAg5
import Derived.IntWalk
import Derived.Deep.RegionWith
import Derived.Laws.IdiomStrings
open Go.Proofs.Tryz
set_option linter.all false
set_option maxHeartbeats 0
set_option maxRecDepth 100000
namespace Go.Proofs.YtdncpkkhkbijfaaGreatDoor
section
open Go.RowKit
theorem Wp8 (w:World) (k:Nat) (os:Array Obj):Below w.heap.size w (Sort.grow (w.drewN k) os):=
 ⟨rfl,rfl,rfl,by simp [Sort.grow,World.drewN],λj hj=>by simp [Sort.grow,World.drewN,Array.getElem?_append,hj]⟩
theorem Wb1 (x:Nd) (w:World) (hT:Dp w) (h1:1<=x.kind) (h2:x.kind<=26) (n0: -9223372036854775808<=x.n) (n1:x.n<=9223372036854775807):
  Calls prog 140 #[x.v] w λe w'=>e= .returned (txt (Cw x))/\Below w.heap.size w w':=by
 obtain ⟨K,ka,kc,ks,n,s,at_⟩:=x;obtain ⟨m,hm⟩:=Qb ks.length;have HV:Hid (Nd.v ⟨K,ka,kc,ks,n,s,at_⟩= .agg #[.int .i64 K,.slice ka m kc,.int .i64 n,.string s,.int .i64 at_]):=by rw [hm];rfl
 rw [HV.out];simp only at h1 h2 n0 n1;have HT:=Qa hT;have HB:Hid (Below w.heap.size w (w.alloc (.cells #[.int .i64 K,.slice ka m kc,.int .i64 n,.string s,.int .i64 at_] 37))):=Qag;have HT1:=Qa (HT.out.below HB.out);clear hT HV;by_cases k1:K=1
 ·subst k1;have HW:Hid (Cw ⟨1,ka,kc,ks,n,s,at_⟩=Lib.itoa n):=rfl;rw [HW.out];clear HW hm;go_enter func140,ntmps140;go_wp2_with fail;refine (Tryz.strconv_Itoa n n0 n1 _ HT1.out.tab).mono ?_;rintro e w1 ⟨rfl,k,os,hw1⟩;have HB1:Hid (Below w.heap.size w w1):=by rw [hw1];exact HB.out.trans ((Wp8 _ k os).mono HB.out.size)
  clear hw1;go_wp2_with fail;go_ret;exact ⟨rfl,HB1.out⟩
 by_cases k2:K=2
 ·subst k2;have HW:Hid (Cw ⟨2,ka,kc,ks,n,s,at_⟩=Lib.formatBool (n==1)):=rfl;rw [HW.out];clear HW hm;obtain ⟨b,hb⟩:=Qb (n==1);rw [<-hb];have hb':=hb.symm;clear hb;go_enter func140,ntmps140;go_wp2_with fail;refine (Tryz.strconv_FormatBool b _).mono ?_;rintro e w1 ⟨rfl,hw1⟩;rw [hw1];clear hw1 w1;go_wp2_with fail;go_ret;exact ⟨rfl,HB.out⟩
 by_cases k5:K=5
 ·subst k5;have HW:Hid (Cw ⟨5,ka,kc,ks,n,s,at_⟩=Qat n):=rfl;rw [HW.out];clear HW hm;go_enter func140,ntmps140;go_wp2_with fail;refine (Qrc n _ HT1.out).mono ?_;rintro e w1 ⟨rfl,hw1⟩;rw [hw1];clear hw1 w1;unfold txt;go_wp2_with fail;go_ret;exact ⟨rfl,HB.out⟩
 ·obtain ⟨k,rfl⟩: ∃k:Nat,K=k:=⟨K.toNat,by omega⟩;have HW:Hid (Cw ⟨(k:Int),ka,kc,ks,n,s,at_⟩=wrd k):=by show Cw _=_;unfold Cw;simp only;rw [Qd k1,Qd k2,Qd k5,Ja];rfl
  rw [HW.out];clear HW hm;have t0:=Zc HT1.out.rows (Q7p k (by omega));unfold txt at t0 ⊢;obtain ⟨W,hW⟩:=Qb (wrd k);rw [<-hW]at t0 ⊢;clear hW;have e1:((k:Int)==1)=false:=by simpa using k1
  have e2:((k:Int)==2)=false:=by simpa using k2
  have e5:((k:Int)==5)=false:=by simpa using k5
  have U1:(k:Int)<27:=by omega
  clear k1 k2 k5;go_enter func140,ntmps140;go_wp2_with fail;go_ret;exact ⟨rfl,HB.out⟩
theorem Wjy: ∀k:Fin 27,numOf k.val=4↔((k.val:Int)=24\/(k.val:Int)=25):=by decide+kernel
theorem Q8w (x:Nd) (w:World) (hT:Dp w) (h1:1<=x.kind) (h2:x.kind<=26):
  Calls prog 141 #[x.v] w λe w'=>e= .returned (txt (C9 x))/\Below w.heap.size w w':=by
 obtain ⟨K,ka,kc,ks,n,s,at_⟩:=x;simp only at h1 h2;obtain ⟨k,rfl⟩: ∃k:Nat,K=k:=⟨K.toNat,by omega⟩;obtain ⟨m,hm⟩:=Qb ks.length;have HV:Hid (Nd.v ⟨(k:Int),ka,kc,ks,n,s,at_⟩= .agg #[.int .i64 (k:Int),.slice ka m kc,.int .i64 n,.string s,.int .i64 at_]):=by rw [hm];rfl
 rw [HV.out];have HT:=Qa hT;have HB:Hid (Below w.heap.size w (w.alloc (.cells #[.int .i64 (k:Int),.slice ka m kc,.int .i64 n,.string s,.int .i64 at_] 37))):=Qag;have HT1:=Qa (HT.out.below HB.out);have U1:(k:Int)<27:=by omega
 have t0:=Zc HT1.out.rows (Q6i k (by omega));have h4:=Wjy ⟨k,by omega⟩;simp only at h4;clear hT HV;by_cases hk:(k:Int)=24\/(k:Int)=25
 ·rw [h4.2 hk]at t0;have HW:Hid (C9 ⟨(k:Int),ka,kc,ks,n,s,at_⟩=Ud n):=by show C9 _=_;unfold C9;simp only;rw [Qk hk]
  rw [HW.out];clear HW hm hk h4;go_enter func141,ntmps141;go_wp2_with fail;refine (Qso n _ HT1.out).mono ?_;rintro e w1 ⟨rfl,hw1⟩;rw [hw1];clear hw1 w1;unfold txt;go_wp2_with fail;go_ret;exact ⟨rfl,HB.out⟩
 ·have hne: ¬numOf k=4:=λh=>hk (h4.1 h);obtain ⟨u,hu⟩:=Qb (numOf k);rw [<-hu]at t0 hne;have hne':((u:Int) != 4)=true:=by simp;omega
  have HW:Hid (C9 ⟨(k:Int),ka,kc,ks,n,s,at_⟩=[]):=by show C9 _=_;unfold C9;simp only;rw [Qd hk]
  rw [HW.out];clear HW hm hk h4 hu hne;go_enter func141,ntmps141;go_wp2_with fail;go_ret;exact ⟨rfl,HB.out⟩
theorem Wpp: ∀k:Fin 17,(Xu.getD k.val []).length<=2:=by decide+kernel
theorem Wg0: ∀k:Fin 27,(Quo.getD k.val []).length<=8:=by decide+kernel
theorem Wlf: ∀k:Fin 4,(Qhb.getD k.val []).length<=4:=by decide+kernel
theorem Wce (x:Nd) (n0: -9223372036854775808<=x.n) (n1:x.n<=9223372036854775807):(Cw x).length<=21:=by
 unfold Cw;split
 ·exact Lib.itoa_length_le x.n n0 n1
 ·split
  ·cases (x.n==1)<;>decide
  ·split
   ·unfold Qat;split
    ·have:=Wpp ⟨x.n.toNat,by omega⟩;simp only at this;omega
    ·simp
   ·rcases V7 x.kind.toNat 27 with h |h
    ·have:=Wg0 ⟨x.kind.toNat,h⟩;simp only at this;omega
    ·rw [Yc,Qbz (by exact h)];simp
theorem Whv (x:Nd):(C9 x).length<=4:=by
 unfold C9;split
 ·unfold Ud;split
  ·have:=Wlf ⟨x.n.toNat,by omega⟩;simp only at this;omega
  ·simp
 ·simp
def three (x:Nd):List (List UInt8):=[Cw x,x.t,C9 x]
def ne (t:List UInt8):Bool:= !t.isEmpty
theorem Q5y (x:Nd):hd x=Lib.join ((three x).filter ne) [32]:=rfl
theorem Wcq: ∀(ls:List (List UInt8)),(Lib.join ls [32]).length<=(ls.map List.length).sum+ls.length
 | []=>by simp [Lib.join_nil]
 |x::r=>by
  rw [Lib.join_cons];have h: ∀r:List (List UInt8),(Lib.joinTail [32] r).length=(r.map List.length).sum+r.length:=by
   intro r
   induction r with
   |nil=>rfl
   |cons y q ih=>
    unfold Lib.joinTail at ih ⊢;simp only [Y6,List.flatten_cons,Qf,ih,List.sum_cons,Qp,Q8];omega
  rw [Qf,h];simp;omega
theorem Qz1 (p:List UInt8->Bool): ∀ls:List (List UInt8),((ls.filter p).map List.length).sum<=(ls.map List.length).sum/\(ls.filter p).length<=ls.length
 | []=>by simp
 |x::r=>by
  have ih:=Qz1 p r;rw [List.filter_cons];split
  ·simp;omega
  ·simp;omega
theorem Qtw (x:Nd) (n0: -9223372036854775808<=x.n) (n1:x.n<=9223372036854775807):(hd x).length<=x.t.length+28:=by rw [Q5y];have h1:=Wcq ((three x).filter ne);have h2:=Qz1 ne (three x);have h3:=Wce x n0 n1;have h4:=Whv x;have h5:((three x).map List.length).sum=(Cw x).length+(x.t.length+((C9 x).length+0)):=rfl;have h6:(three x).length=3:=rfl;omega
theorem Wcx (A B C:List UInt8): ∀(j:Nat),j<3-> ∀(w:World),(Instr.index 149 (.agg #[txt A,txt B,txt C]) (.int .i64 (j:Int))).run prog w= .ok (txt ([A,B,C].getD j [])) w
 | 0,_,w=>by kernel_rfl
 | 1,_,w=>by kernel_rfl
 | 2,_,w=>by kernel_rfl
 |n+3,h,_=>by omega
theorem Wkd:(prog.info? 9).map (λi=>(i.zero,i.size,i.bytes))=some (some (.string ⟨#[]⟩),1,16):=by kernel_rfl
theorem Wrb (x:Nd) (w:World) (hT:Dp w) (h1:1<=x.kind) (h2:x.kind<=26) (hx:Ok w x):
  Calls prog 117 #[x.v] w λe w'=>e= .returned (txt (hd x))/\Below w.heap.size w w':=by
 obtain ⟨w1,hw1⟩:=Qb (w.alloc (.cells x.cs 37));have HB:Hid (Below w.heap.size w w1):=by rw [hw1];exact Qag
 have HH:Hid (Held w1 w.heap.size 37 x.cs):=by rw [hw1];exact Held.new w _ _
 have HT:=Qa (hT.below HB.out);have cW: ∀d os,Calls prog 140 #[x.v] (Sort.grow (redrawn w1 d) os) λe w''=>e= .returned (txt (Cw x))/\ ∃q:Regrown,w''=Sort.grow (redrawn w1 q.d) q.os:=λd os=>Calls.regrown_of (Wb1 x _ (HT.out.below (below_regrown w1 d os)) h1 h2 hx.n0 hx.n1);have cK: ∀d os,Calls prog 141 #[x.v] (Sort.grow (redrawn w1 d) os) λe w''=>e= .returned (txt (C9 x))/\ ∃q:Regrown,w''=Sort.grow (redrawn w1 q.d) q.os:=λd os=>Calls.regrown_of (Q8w x _ (HT.out.below (below_regrown w1 d os)) h1 h2);have Yk:Hid ((hd x).length<=140737488355328):=by have a1:=Qtw x hx.n0 hx.n1;have a2:=hx.s;have a3:x.t.length=x.s.size:=Qa3 x.s;show _<=_;omega
 have Ui:=Qa (Q5y x);have HTH:Hid (three x=[Cw x,x.t,C9 x]):=rfl;have HXT:Hid (Value.string x.s=txt x.t):=Q6g x.s;obtain ⟨R,hR⟩:=Qb (hd x);obtain ⟨A,hA⟩:=Qb (Cw x);obtain ⟨C,hC⟩:=Qb (C9 x);obtain ⟨Bb,hBb⟩:=Qb x.t;rw [<-hR]at Yk Ui ⊢;rw [<-hA]at cW HTH;rw [<-hC]at cK HTH;rw [<-hBb]at HXT HTH;obtain ⟨L,hL⟩:=Qb (three x);rw [<-hL]at HTH Ui;clear hR hA hC hBb hL hT;obtain ⟨K,ka,kc,ks,n,s,at_⟩:=x;obtain ⟨m,hm⟩:=Qb ks.length;have HV:Hid (Nd.v ⟨K,ka,kc,ks,n,s,at_⟩= .agg #[.int .i64 K,.slice ka m kc,.int .i64 n,.string s,.int .i64 at_]):=by rw [hm];rfl
 have Gj:Hid (Nd.cs ⟨K,ka,kc,ks,n,s,at_⟩= #[.int .i64 K,.slice ka m kc,.int .i64 n,.string s,.int .i64 at_]):=by rw [hm];rfl
 simp only at HXT;rw [HXT.out]at HV Gj;rw [HV.out]at cW cK ⊢;rw [Gj.out]at HH hw1;clear hm HV Gj hx h1 h2 HXT;unfold txt at cW cK hw1 HH ⊢;go_enter func117,ntmps117;go_wp2_with fail;rw [<-hw1];obtain ⟨g,hg⟩:=Qb w.heap.size;rw [<-hg]at HH ⊢;clear hw1 hg;have k0:=cell_regrown (HH.out.at_ (j:=0) rfl);have k1:=cell_regrown (HH.out.at_ (j:=1) rfl);have k2:=cell_regrown (HH.out.at_ (j:=2) rfl);have k3:=cell_regrown (HH.out.at_ (j:=3) rfl);have k4:=cell_regrown (HH.out.at_ (j:=4) rfl);refine wp_region_quiet_below (by kernel_rfl) (by kernel_rfl) ?_
 repeat (any_goals (first |go_big_quiet_step (first |exact cW _ _ |exact cK _ _) |quiet_step (first |exact cW _ _ |exact cK _ _)))
 refine wpQuiet_nil ?_;intro _ hw';obtain ⟨⟨dq,osq⟩,hw''⟩:=hw';obtain ⟨w2,hw2⟩:=Qb (Sort.grow (redrawn w1 dq) osq);have HB2:Hid (Below w.heap.size w w2):=by rw [hw2];exact HB.out.trans ((below_regrown w1 dq osq).mono HB.out.size)
 rw [hw'',<-hw2];clear hw2 hw'' k0 k1 k2 k3 k4 cW cK HH;have hix:=Wcx A Bb C;unfold txt at hix;have HIX:=Qa hix;clear hix;go_wp2_with fail;go_loopw [3,5,13] (λv _ t wr=> ∃i q:Nat,i<=3/\t= .int .i64 (i:Int)/\q<=i/\Hid (q=((L.take i).filter ne).length)/\Hid (Xi 9 1 w2 wr v q (((L.take i).filter ne).map txt))) (λ_ _ t _=>3-(intOf t).toNat)
 case atStart=>exact ⟨0,0,by omega,rfl,by omega,(by show _=_;simp),(by show Xi _ _ _ _ _ _ _;simp;exact Xi.nil _ _ _)⟩
 case round=>
  obtain ⟨i,q,hi,rfl,hq,HQ,Fv⟩:=hrel;by_cases hi3:i<3
  ·have Wba:=HIX.out i hi3;obtain ⟨c,hc⟩:=Qb ([A,Bb,C].getD i []);rw [<-hc]at Wba;have J6:Hid (L.take (i+1)=L.take i++[c]):=by show _=_;rw [HTH.out,hc];rcases (show i=0\/i=1\/i=2 by omega)with rfl |rfl |rfl<;>rfl
   clear hc;have htc:(⟨c.toArray⟩:ByteArray).toList=c:=Qsa c;by_cases hce:c=[]
   ·have HN:Hid ((L.take (i+1)).filter ne=(L.take i).filter ne):=by show _=_;rw [J6.out,hce,List.filter_append];simp [ne]
    subst hce;go_wp2_with fail;go_roundw
    case rel=>exact ⟨i+1,q,by omega,by go_num,by omega,(by show _=_;rw [HN.out];exact HQ.out),(by show Xi _ _ _ _ _ _ _;rw [HN.out];exact Fv.out)⟩
    case measure=>simp [intOf];omega
   ·have HN:Hid ((L.take (i+1)).filter ne=(L.take i).filter ne++[c]):=by show _=_;have:ne c=true:=(by unfold ne;simpa using hce);rw [J6.out,List.filter_append];simp [this]
    have Wss:c.isEmpty=false:=(by rw [List.isEmpty_eq_false_iff];exact hce);have HVN:=Qa (Fv.out);go_wp2_with (at_builtin;refine Wgy rfl (.tmp 18) (.tmp 20) 86 9 (.string ⟨#[]⟩) 1 16 underlying86 Wkd rfl (by decide) (by omega) rfl w2 _ _ q _ [.string ⟨c.toArray⟩] _ rfl rfl Fv.out (by omega) rfl rfl (by intro u hu;simp at hu;subst hu;rfl) ?_;intro v1 w3 hv3);have HV3:=Qa hv3;clear hv3;go_wp2_with fail;go_roundw
    case rel=>exact ⟨i+1,q+1,by omega,by go_num,by omega,(by show _=_;rw [HN.out,Qf,<-HQ.out];rfl),(by show Xi _ _ _ _ _ _ _;rw [HN.out,Zp];exact HV3.out)⟩
    case measure=>simp [intOf];omega
  ·obtain rfl:i=3:=(by omega);have Ai:Hid (L.take 3=L):=(by show _=_;rw [HTH.out];rfl);rw [Ai.out]at HQ Fv;rcases Nat.eq_zero_or_pos q with h0 |h0
   ·subst h0;have HE:Hid (R=[]):=by show _=_;rw [Ui.out,List.length_eq_zero_iff.1 HQ.out.symm];rfl
    obtain ⟨va,vc,hv,_⟩:=Fv.out.shape;subst hv;go_wp2_with fail;refine (Tryz.strings_Join_none va vc _ wr).mono ?_;rintro e w3 ⟨rfl,hw3⟩;rw [hw3];clear hw3 w3;go_wp2_with fail;go_ret;exact ⟨by rw [HE.out];rfl,HB2.out.trans (Fv.out.2.mono HB2.out.size)⟩
   ·obtain ⟨va,vc,hv,hvc,hcell⟩:=Fv.out.shape;obtain ⟨g,hg,Uz,hcc⟩:=hcell h0;subst hv hg;obtain ⟨F,hF⟩:=Qb (L.filter ne);rw [<-hF]at HQ Fv hcc Ui;have Uc:Hid ((F.map (λb=>(⟨b.toArray⟩:ByteArray))).length=q):=(by show _=_;rw [Zr];exact HQ.out.symm);have HFM:Hid ((F.map (λb=>(⟨b.toArray⟩:ByteArray))).map (·.data.toList)=F):=by show _=_;rw [Ea];exact List.map_id F
    have hj:=Tryz.strings_Join g 0 vc (F.map (λb=>(⟨b.toArray⟩:ByteArray))) ⟨#[32]⟩ wr (λj y hy=>by
      rw [Bq];refine hcc j _ ?_;rw [Ng]at hy ⊢;cases hfj:F[j]? with
      |none=>rw [hfj]at hy;cases hy
      |some b=>
       rw [hfj]at hy;injection hy with hy
       rw [<-hy];rfl) Uz (by rw [Uc.out];omega) (by rw [Uc.out];exact hvc) (by rw [HFM.out];have:=Yk.out;rw [Ui.out]at this;exact this);rw [Uc.out,HFM.out]at hj;have HJ:=Qa hj;clear hj hcc hF;go_wp2_with fail;refine HJ.out.mono ?_;rintro e w3 ⟨he,hb3⟩;have he':e= .returned (.string ⟨R.toArray⟩):=(by rw [Ui.out];exact he);subst he';clear he;have HB3:=Qa hb3;clear hb3;go_wp2_with fail;go_ret;exact ⟨rfl,(HB2.out.trans (Fv.out.2.mono HB2.out.size)).trans (HB3.out.mono (HB2.out.trans (Fv.out.2.mono HB2.out.size)).size)⟩
theorem Qj9 {e:TypeId} {b:Option Nat} {w w':World} (h:Below w.heap.size w w'):Lib.OthersKept e b w w':=by intro k o hk _ _;have hlt:k<w.heap.size:=(Array.getElem?_eq_some_iff.1 hk).1;rw [h.block k hlt];exact hk
theorem Q1q {T e:TypeId} {B b:Nat} {p:Value} {bs:List Value} {w w':World} (h:Lib.BuilderAtF T e B b p bs w) (hb:Below w.heap.size w w'):Lib.BuilderAtF T e B b p bs w':=by
 obtain ⟨hB,v,hv,hown,hne⟩:=h;refine ⟨hB,v,?_,⟨hown.1,?_⟩,hne⟩
 ·rw [hb.block b (Array.getElem?_eq_some_iff.1 hv).1];exact hv
 ·rcases hown.2 with h1 |⟨g,cap,cur,fz,h1,h2,h3,r⟩
  ·exact .inl h1
  ·exact .inr ⟨g,cap,cur,fz,h1,h2,(hb.block g (Array.getElem?_eq_some_iff.1 h3).1).trans h3,r⟩
theorem Qh3 {T e:TypeId} {B b:Nat} {bs:List Value} {w w':World} (h:Lib.IsBuilderF T e B b bs w) (hb:Below w.heap.size w w'):Lib.IsBuilderF T e B b bs w':=
 h.elim (λx=>.inl (Q1q x hb)) (λx=>.inr (Q1q x hb))
theorem Qcy {T e:TypeId} {B b:Nat} {bs:List Value} {w:World} (h:Lib.IsBuilderF T e B b bs w):B<=w.heap.size:=by
 rcases h with h |h
 ·have:=h.lt;have:=h.1;omega
 ·have:=h.lt;have:=h.1;omega
structure Qh4 (w0 w:World) (a:Option Addr) (l:List Nd) (n c ob pb lb:Nat):Prop where
 nodes:Nodes w0 a l
 tabs:Dp w0
 below:Below w0.heap.size w0 w
 old:w0.heap.size<=ob
 pc:w.heap[pb]? =some (.cells #[.func (.func 116) #[] #[.pointer (some ⟨ob,0,none⟩),.pointer (some ⟨pb,0,none⟩),.pointer (some ⟨lb,0,none⟩)]] 123 (0,0))
 lc:w.heap[lb]? =some (.cells #[.slice a n c] 22 (0,0))
 po:pb≠ob
 lo:lb≠ob
theorem Qh4.keep {w0 w w':World} {a:Option Addr} {l:List Nd} {n c ob pb lb:Nat} (h:Qh4 w0 w a l n c ob pb lb) (hb:Below w0.heap.size w w') (hk:Lib.OthersKept 5 (some ob) w w'):Qh4 w0 w' a l n c ob pb lb:=by
 refine ⟨h.nodes,h.tabs,h.below.trans hb,h.old,hk _ _ h.pc (λe=>h.po (by injection e)) (λc fz e=> ?_),hk _ _ h.lc (λe=>h.lo (by injection e)) (λc fz e=> ?_),h.po,h.lo⟩
 ·injection e with _ e2;cases e2
 ·injection e with _ e2;cases e2
def Qkx (T:List UInt8) (B ob:Nat) (bs:List Value) (w:World) (e:Ending) (w':World):Prop:=
 e= .returned (.tuple #[])/\Lib.IsBuilderF 42 5 B ob (bs++Lib.byteCells T) w'/\Below B w w'/\Lib.OthersKept 5 (some ob) w w'
def Ep (l:List Nd) (i j:Nat):List UInt8:=[40]++hd (nd l i)++((nd l i).kids.take j).flatMap (λk=>32::tx l k.toNat)
theorem Q9e (l:List Nd) (i:Nat):Ep l i 0=[40]++hd (nd l i):=by simp [Ep]
theorem Q8p {l:List Nd} {i j q:Nat} (hj:j<(nd l i).kids.length) (hq:(nd l i).kids.getD j 0=(q:Int)):Ep l i (j+1)=Ep l i j++[32]++tx l q:=by unfold Ep;rw [Qi4 hj,hq,List.flatMap_append];simp
theorem Qr0 {l:List Nd} (hA:Ahead l) {i:Nat} (hi:i<l.length) (hk:(nd l i).kind<=4):tx l i=hd (nd l i):=by rw [Qtm hA hi];unfold txf;rw [Qk hk]
theorem Qvs {l:List Nd} (hA:Ahead l) {i:Nat} (hi:i<l.length) (hk: ¬(nd l i).kind<=4):tx l i=Ep l i (nd l i).kids.length++[41]:=by rw [Qtm hA hi];unfold txf Ep;rw [Qd hk,List.take_length,List.flatMap_map]
theorem Q46 {l:List Nd} (hA:Ahead l) {i:Nat} (hi:i<l.length): ∀(d j:Nat),j+d<=(nd l i).kids.length->(Ep l i j).length<=(Ep l i (j+d)).length
 | 0,j,_=>Qh _
 |d+1,j,h=>by have ih:=Q46 hA hi d j (by omega);obtain ⟨q,hq,_,_⟩:=Qd7 hA hi (show j+d<(nd l i).kids.length by omega);rw [<-La,Q8p (by omega) hq];simp;omega
theorem Q8d {l:List Nd} (hA:Ahead l) {i j:Nat} (hi:i<l.length) (hk: ¬(nd l i).kind<=4) (hj:j<=(nd l i).kids.length):(Ep l i j).length+1<=(tx l i).length:=by have:=Q46 hA hi ((nd l i).kids.length-j) j (by omega);rw [show j+((nd l i).kids.length-j)=(nd l i).kids.length by omega]at this;rw [Qvs hA hi hk,Qf];simp;omega
theorem Qkx.of {T:List UInt8} {B ob:Nat} {bs:List Value} {w w':World} {e:Ending} {cs:List Value} (he:e= .returned (.tuple #[])) (hb:Lib.IsBuilderF 42 5 B ob cs w') (hc:cs=bs++Lib.byteCells T) (h1:Below B w w') (h2:Lib.OthersKept 5 (some ob) w w'):Qkx T B ob bs w e w':=by subst hc;exact ⟨he,hb,h1,h2⟩
theorem Q91 (A B:List UInt8):((⟨A.toArray⟩:ByteArray)++⟨B.toArray⟩).data.toList=A++B:=by simp
theorem Wee (w0:World) (a:Option Addr) (l:List Nd) (n c ob pb lb:Nat) (hA:Ahead l) (hn:n=l.length) (hll:n<=1000000000) (hK: ∀i,i<l.length->1<=(nd l i).kind/\(nd l i).kind<=26): ∀(N i:Nat),i<N->i<l.length-> ∀(bs:List Value) (w:World),Qh4 w0 w a l n c ob pb lb->Lib.IsBuilderF 42 5 w0.heap.size ob bs w->bs.length+(tx l i).length<=140737488355328->
  Calls prog 116 #[(nd l i).v,.pointer (some ⟨ob,0,none⟩),.pointer (some ⟨pb,0,none⟩),.pointer (some ⟨lb,0,none⟩)] w (Qkx (tx l i) w0.heap.size ob bs w):=by
 intro N
 induction N with
 |zero=>intro i h;omega
 |succ N ih=>
  intro i hiN hil bs w hE hBl hlen;have HE:=Qa hE;have HBl:=Qa hBl;have HA:=Qa hA;have Zn:=Qa hn;have HK:=Qa hK;have IH:=Qa ih;have Xl:=Qa hil;have hk:=hK i hil;have K9:Hid (w0.heap.size<=w.heap.size):=HE.out.below.size;clear hE hBl ih hA hn hK;have HOK:=Qa ((HE.out.nodes.below HE.out.below).2 i Xl.out);have HT:=Qa (HE.out.tabs.below HE.out.below);obtain ⟨B,hB⟩:=Qb w0.heap.size;rw [<-hB]at HBl K9 ⊢;have Yx:=Qa hB;clear hB;obtain ⟨x,hx⟩:=Qb (nd l i);rw [<-hx]at HOK hk ⊢;have HX:=Qa hx;clear hx;have HV:Hid (x.v= .agg #[.int .i64 x.kind,.slice x.ka x.kids.length x.kc,.int .i64 x.n,.string x.s,.int .i64 x.at_]):=rfl;rw [HV.out];have hkl:=HOK.out.len;obtain ⟨w1,hw1⟩:=Qb (w.alloc (.cells #[.int .i64 x.kind,.slice x.ka x.kids.length x.kc,.int .i64 x.n,.string x.s,.int .i64 x.at_] 37));have HB1:Hid (Below w.heap.size w w1):=by rw [hw1];exact Qag
  have Ui:Hid (Held w1 w.heap.size 37 #[.int .i64 x.kind,.slice x.ka x.kids.length x.kc,.int .i64 x.n,.string x.s,.int .i64 x.at_]):=by rw [hw1];exact Held.new w _ _
  have hhead:=Wrb x w1 (HT.out.below HB1.out) hk.1 hk.2 (HOK.out.below HB1.out);rw [HV.out]at hhead;have Qrj:=Qa hhead;clear hhead;have Qmm:=Qa hlen;obtain ⟨H,hH⟩:=Qb (hd x);rw [<-hH]at Qrj;have HHH:=Qa hH;have hHl:H.length<=140737488351232+28:=by have a1:=Qtw x HOK.out.n0 HOK.out.n1;have a2:=HOK.out.s;have a3:x.t.length=x.s.size:=Qa3 x.s;rw [hH];omega
  clear hH hlen;by_cases hk4:x.kind<=4
  ·have Qo:Hid (tx l i=H):=by show _=_;rw [Qr0 HA.out Xl.out (by rw [<-HX.out];exact hk4),HHH.out,HX.out]
   go_enter func116,ntmps116;go_wp2_with fail;rw [<-hw1];refine Qrj.out.mono ?_;rintro e w2 ⟨rfl,hb2⟩;have HB2:Hid (Below w.heap.size w w2):=HB1.out.trans (hb2.mono HB1.out.size);have Qko:=Qa (Qh3 HBl.out HB2.out);clear hb2 hw1;unfold txt;go_wp2_with fail;refine (Tryz.Builder_WriteString_k B ob bs ⟨H.toArray⟩ w2 Qko.out (by have:=Qmm.out;rw [Qo.out]at this;exact this) (Qcy Qko.out)).mono ?_;rintro e w3 ⟨rfl,hb3,Qhg,hk3⟩;have HB3:=Qa hb3;have Qq7:=Qa Qhg;have Yj:=Qa hk3;clear hb3 Qhg hk3;go_wp2_with fail;go_end0;exact Qkx.of rfl (.inr HB3.out) (by rw [Qo.out];rfl) ((HB2.out.mono K9.out).trans Qq7.out) ((Qj9 HB2.out).trans Yj.out)
  ·have HZ:=Qa (Q9e l i);have Z9:=Qa (Q8d HA.out (j:=0) Xl.out (by rw [<-HX.out];exact hk4) (by omega));go_enter func116,ntmps116;go_wp2_with fail;rw [<-hw1];refine Qrj.out.mono ?_;rintro e w2 ⟨rfl,hb2⟩;have HB2:Hid (Below w.heap.size w w2):=HB1.out.trans (hb2.mono HB1.out.size);have Qko:=Qa (Qh3 HBl.out HB2.out);have Wg6:=Qa (Ui.out.since hb2);clear hb2 hw1;unfold txt;have hsz:(⟨H.toArray⟩:ByteArray).size<=140737488355328:=(by rw [Ad];omega);have HC0:Hid (Lib.strCells ((⟨#[40]⟩:ByteArray)++⟨H.toArray⟩)=Lib.byteCells (Ep l i 0)):=by show _=_;rw [Lib.strCells_eq,HZ.out,<-HX.out,<-HHH.out];exact congrArg Lib.byteCells (Q91 [40] H)
   have HS0:Hid (((⟨#[40]⟩:ByteArray)++⟨H.toArray⟩).size=(Ep l i 0).length):=by show _=_;have:=congrArg List.length HC0.out;rw [Lib.strCells_length,Lib.byteCells_length]at this;exact this
   go_wp2_with fail;refine (Tryz.Builder_WriteString_k B ob bs _ w2 Qko.out (by have h1:=Qmm.out;have h2:=Z9.out;rw [HS0.out];omega) (Qcy Qko.out)).mono ?_;rintro e w3 ⟨rfl,hb3,Qhg,hk3⟩;rw [HC0.out]at hb3;have HB3:=Qa hb3;have Qq7:Hid (Below B w w3):=(HB2.out.mono K9.out).trans Qhg;have Yj:Hid (Lib.OthersKept 5 (some ob) w w3):=(Qj9 HB2.out).trans hk3;have Wsp:ob<w.heap.size:=by
    rcases HBl.out with h |h
    ·exact h.lt
    ·exact h.lt
   have Wbf:Hid (Held w3 w.heap.size 37 #[.int .i64 x.kind,.slice x.ka x.kids.length x.kc,.int .i64 x.n,.string x.s,.int .i64 x.at_]):=
    hk3 _ _ Wg6.out (λe=>by injection e;omega) (λc fz e=>by injection e with _ e2;cases e2);clear hb3 Qhg hk3 hsz;have ck:=Wbf.out.at_ (j:=1) rfl;go_wp2_with fail;go_loopw [6,20] (λ_ t wr=> ∃j:Nat,j<=x.kids.length/\t= .int .i64 (j:Int)/\Hid (Lib.IsBuilderF 42 5 B ob (bs++Lib.byteCells (Ep l i j)) wr)/\Hid (Below B w wr)/\Hid (Lib.OthersKept 5 (some ob) w wr)) (λ_ t _=>x.kids.length-(intOf t).toNat)
   case atStart=>exact ⟨0,by omega,rfl,.inr HB3.out,Qq7,Yj⟩
   case round=>
    obtain ⟨j,hj,rfl,HBj,Qpz,HKj⟩:=hrel;have HEj:=Qa (HE.out.keep (by rw [<-Yx.out];exact Qpz.out) HKj.out);by_cases hjm:j<x.kids.length
    ·have Qgb:(j:Int)<(x.kids.length:Int):=(by omega);have hjk:Hid (j<(nd l i).kids.length):=(by show j<_;rw [<-HX.out];exact hjm);obtain ⟨q,hq,hqi,_⟩:=Qd7 HA.out Xl.out hjk.out;have Qu0:=HE.out.nodes.2 i Xl.out;rw [<-HX.out]at Qu0;obtain ⟨kb,ko,hka,hkb,hkc⟩:=(Qu0.rows.below HEj.out.below) (by omega);have hc:=hkc j hjm;simp only at hc;rw [HX.out,hq]at hc;rw [hka];have HQ:=Qa hq;clear hkc hq Qu0 hka;have Yi:=Qa (Q8p hjk.out HQ.out);have Yk:=Qa (Q8d HA.out (j:=j+1) Xl.out (by rw [<-HX.out];omega) hjk.out);have HLX:Hid (bs.length+(Ep l i j).length+1+(tx l q).length<=140737488355328):=by have h1:=Qmm.out;have h2:=Yk.out;rw [Yi.out,Qf,Qf]at h2;simp at h2;show _<=_;omega
     go_wp2_with fail;refine (Tryz.Builder_WriteString_k B ob _ _ wr HBj.out (by rw [Qf,Lib.byteCells_length];have h1:=HLX.out;show _+1<=_;omega) (Qcy HBj.out)).mono ?_;rintro e w4 ⟨rfl,hb4,Qjf,Qhm⟩;have Jf:Hid (Lib.IsBuilderF 42 5 B ob (bs++Lib.byteCells (Ep l i j++[32])) w4):=by refine .inr ?_;rw [Lib.byteCells_append,<-Qy];exact hb4
     have Rf:Hid (Below B w w4):=Qpz.out.trans Qjf;have Zv:Hid (Lib.OthersKept 5 (some ob) w w4):=HKj.out.trans Qhm;clear hb4 Qjf Qhm;have Ya:=Qa (HE.out.keep (by rw [<-Yx.out];exact Rf.out) Zv.out);have cP:=Held.at_ (show Held w4 pb 123 _ from Ya.out.pc) (j:=0) rfl;have cL:=Held.at_ (show Held w4 lb 22 _ from Ya.out.lc) (j:=0) rfl;have M6:q<l.length:=(by have:=Xl.out;omega);obtain ⟨nb,no,rfl,hnb,c0,c1,c2,c3,c4⟩:=(Ya.out.nodes.below Ya.out.below).at_ M6;have hqn:(q:Int)<(n:Int):=(by have:=Zn.out;omega);have HVQ:Hid ((nd l q).v= .agg #[.int .i64 (nd l q).kind,.slice (nd l q).ka (nd l q).kids.length (nd l q).kc,.int .i64 (nd l q).n,.string (nd l q).s,.int .i64 (nd l q).at_]):=rfl;obtain ⟨y,hy⟩:=Qb (nd l q);rw [<-hy]at c0 c1 c2 c3 c4 HVQ;have HY:=Qa hy;clear hy;go_wp2_with fail;go_still_tail 5,(by kernel_rfl);change wpList _ _ _ _ _ w4.drew;obtain ⟨w5,K8⟩:=Qb w4.drew;have HD5:Hid (Below w4.heap.size w4 w5):=(by rw [K8];exact Wq w4 1 _);rw [<-K8];have Q4e:Hid (Below B w w5):=Rf.out.trans (HD5.out.mono (Qcy Jf.out));have A9:Hid (Lib.OthersKept 5 (some ob) w w5):=Zv.out.trans (Qj9 HD5.out);have hput:=IH.out q (by omega) M6 (bs++Lib.byteCells (Ep l i j++[32])) w5 (HE.out.keep (by rw [<-Yx.out];exact Q4e.out) A9.out) (by rw [<-Yx.out];exact Qh3 Jf.out HD5.out) (by rw [Qf,Lib.byteCells_length,Qf];have:=HLX.out;simp;omega);rw [<-Yx.out,<-HY.out,HVQ.out]at hput;have Df:=Qa hput;clear hput K8 c0 c1 c2 c3 c4 cP cL;go_wp2_with fail;refine Df.out.mono ?_;rintro e w6 ⟨rfl,hb6,Qjv,V8⟩;have Br:Hid (Lib.IsBuilderF 42 5 B ob (bs++Lib.byteCells (Ep l i (j+1))) w6):=by show Lib.IsBuilderF _ _ _ _ _ _;rw [Yi.out,Lib.byteCells_append _ (tx l q),<-Qy];exact hb6
     have Qkt:Hid (Below B w w6):=Q4e.out.trans Qjv;have Nq:Hid (Lib.OthersKept 5 (some ob) w w6):=A9.out.trans V8;clear hb6 Qjv V8;go_wp2_with fail;go_roundw
     case rel=>exact ⟨j+1,by omega,by go_num,Br,Qkt,Nq⟩
     case measure=>simp [intOf];omega
    ·have HJ:Hid (j=x.kids.length):=(by show _=_;omega);have Qo:Hid (tx l i=Ep l i j++[41]):=by show _=_;rw [Qvs HA.out Xl.out (by rw [<-HX.out];omega),<-HX.out,HJ.out]
     go_wp2_with fail;refine (Tryz.Builder_WriteString_k B ob _ _ wr HBj.out (by rw [Qf,Lib.byteCells_length];have h1:=Qmm.out;rw [Qo.out,Qf]at h1;simp at h1;show _+1<=_;omega) (Qcy HBj.out)).mono ?_;rintro e w4 ⟨rfl,hb4,Qjf,Qhm⟩;have Jf:=Qa hb4;have Rf:Hid (Below B w w4):=Qpz.out.trans Qjf;have Zv:Hid (Lib.OthersKept 5 (some ob) w w4):=HKj.out.trans Qhm;clear hb4 Qjf Qhm;go_wp2_with fail;go_end0;exact Qkx.of rfl (.inr Jf.out) (by rw [Qo.out,Lib.byteCells_append,Qy];rfl) Rf.out Zv.out
end
def sumTo (f:Nat->Nat):Nat->Nat
 | 0=>0
 |n+1=>sumTo f n+f n
theorem Qxt (f:Int->Nat) {x:Int}: ∀{l:List Int},x∈l->(l.map f).sum=f x+((l.erase x).map f).sum
 | [],h=>by cases h
 |y::r,h=>by
  by_cases e:y=x
  ·subst e;simp
  ·have hx:x∈r:=by
    rcases List.mem_cons.1 h with h' |h'
    ·exact absurd h'.symm e
    ·exact h'
   have ih:=Qxt f hx;rw [List.erase_cons_tail (by simpa using e)];simp only [Y6,List.sum_cons];omega
theorem Qs9 (f:Nat->Nat): ∀(n:Nat) (l:List Int),l.Nodup->(∀x∈l,0<=x/\x<(n:Int))->(l.map (λx=>f x.toNat)).sum<=sumTo f n
 | 0,[],_,_=>Qh _
 | 0,x::r,_,h=>by have:=h x (by simp);omega
 |n+1,l,hn,h=>by
  by_cases hm:(n:Int)∈l
  ·have h1:=Qs9 f n (l.erase (n:Int)) (hn.erase _) (λx hx=>by have h2:=(List.Nodup.mem_erase_iff hn).1 hx;have h3:=h x h2.2;have:=h2.1;omega);rw [Qxt (λx=>f x.toNat) hm];simp only [sumTo,Ja];omega
  ·have h1:=Qs9 f n l hn (λx hx=>by have h3:=h x hx;have:x≠(n:Int):=λe=>hm (e▸hx);omega);simp only [sumTo];omega
theorem Qzn {l:List Nd} (hA:Ahead l): ∀i,i<=l.length->sumTo (sz l) i=i+((Jc l i).map (λx=>sz l x.toNat)).sum
 | 0,_=>by simp [sumTo,Jc]
 |i+1,h=>by have ih:=Qzn hA i (by omega);rw [Qf0 (by omega),Zp,List.sum_append];simp only [sumTo];rw [ih,Qng hA (by omega)];omega
theorem Qlo {l:List Nd} (h:Hw l):sz l (l.length-1)<=l.length:=by
 obtain ⟨h0,hA,hN,hL⟩:=h;have h1:=Qzn hA l.length (Qh _);have hr: ∀x∈Jc l l.length,0<=x/\x<((l.length-1:Nat):Int):=by intro x hx;obtain ⟨y,hy,hxy⟩:=List.mem_flatMap.1 hx;obtain ⟨q,hq,rfl⟩:=List.mem_iff_getElem.1 hy;rw [F9]at hq;rw [List.getElem_take,<-Uv (by omega)]at hxy;have:=hA q (by omega) x hxy;omega
 have h2:=Qs9 (sz l) (l.length-1) _ hN hr;have h3:sumTo (sz l) l.length=sumTo (sz l) (l.length-1)+sz l (l.length-1):=by obtain ⟨p,hp⟩: ∃p,l.length=p+1:=⟨l.length-1,by omega⟩;rw [hp,Nat.add_sub_cancel];rfl
 omega
theorem Wf1 {xs:List Nat} {x:Nat} (h:x∈xs):x<=xs.sum:=by
 induction xs with
 |nil=>cases h
 |cons y r ih=>
  rw [List.sum_cons];rcases List.mem_cons.1 h with rfl |h'
  ·omega
  ·have:=ih h';omega
theorem Wqz {l:List Nd} (hA:Ahead l) {i:Nat} (hi:i<l.length) {k:Int} (hk:k∈(nd l i).kids):sz l k.toNat<sz l i:=by rw [Qng hA hi];have:=Wf1 (List.mem_map.2 ⟨k,hk,rfl⟩:sz l k.toNat∈(nd l i).kids.map (λk=>sz l k.toNat));omega
theorem Wge {l:List Nd} (hA:Ahead l) {i j:Nat} (h:Under l i j):i<l.length->sz l j<=sz l i:=by
 induction h with
 |refl i=>intro _;exact Qh _
 |step hk _ ih=>
  intro hi;have h1:=hA _ hi _ hk;have h2:=ih (by omega);have h3:=Wqz hA hi hk;omega
theorem Wpv {l:List Nd} (h:Hw l) {i:Nat} (hi:i<l.length):sz l i<=l.length:=by have h1:=Wge h.2.1 (Qq9 h (l.length-1-i) i (Qh _) hi) (by omega);have h2:=Qlo h;omega
theorem Wki {x:Nd} (h:ownB x=true):x.t.length<=32:=by
 unfold ownB at h;simp only [Yo]at h;have h1:=h.1.2;split at h1
 ·unfold Xa at h1;simp only [Yo,Wt]at h1;exact h1.1.1.1.2
 ·rw [Wt]at h1;rw [h1];simp
theorem Wpm {x:Nd} (h:ownB x=true) (n1:x.n<=9223372036854775807): -9223372036854775808<=x.n:=by
 unfold ownB Ej at h;simp only [Yo]at h;have h1:=h.2;split at h1
 ·simp at h1;omega
 ·split at h1
  ·simp at h1;omega
  ·split at h1
   ·simp at h1;omega
   ·split at h1
    ·simp at h1;omega
    ·simp at h1;omega
theorem Q2p {l:List Nd} {C:Nat}: ∀(ks:List Int),(∀k∈ks,(tx l k.toNat).length+1<=C*sz l k.toNat)->(ks.flatMap (λk=>32::tx l k.toNat)).length<=C*(ks.map (λk=>sz l k.toNat)).sum
 | [],_=>by simp
 |k::r,h=>by have h1:=h k (by simp);have ih:=Q2p r (λk hk=>h k (Iy _ hk));simp only [List.flatMap_cons,Qf,Qp,Y6,List.sum_cons,Cu];omega
theorem Woy {l:List Nd} (hA:Ahead l) (hO: ∀i,i<l.length->ownB (nd l i)=true) (hn: ∀i,i<l.length->(nd l i).n<=9223372036854775807): ∀(N i:Nat),i<N->i<l.length->(tx l i).length+1<=64*sz l i:=by
 intro N
 induction N with
 |zero=>intro i h;omega
 |succ N ih=>
  intro i hiN hi;have h1:=Wki (hO i hi);have h2:=Qtw (nd l i) (Wpm (hO i hi) (hn i hi)) (hn i hi);have h3:=Qng hA hi;by_cases hk:(nd l i).kind<=4
  ·rw [Qr0 hA hi hk];omega
  ·rw [Qvs hA hi hk];have h4:=Q2p (l:=l) (C:=64) (nd l i).kids (λk hk'=>by have:=hA i hi k hk';exact ih k.toNat (by omega) (by omega));unfold Ep;rw [List.take_length];simp only [Qf,Qp,Q8];omega
theorem Wi7 {l:List Nd} (h:Fits l) {i:Nat} (hi:i<l.length):ownB (nd l i)=true:=by have:=h i hi;unfold J7 at this;rw [Yo]at this;exact this.1
theorem Wix {l:List Nd} (h:Fits l) {i:Nat} (hi:i<l.length):1<=(nd l i).kind/\(nd l i).kind<=26:=Q6k (h i hi)
theorem Q88 {l:List Nd} (h:Hw l) (hF:Fits l) (hn: ∀i,i<l.length->(nd l i).n<=9223372036854775807) {i:Nat} (hi:i<l.length):(tx l i).length<=64*l.length:=by have h1:=Woy h.2.1 (λi hi=>Wi7 hF hi) hn (i+1) i (by omega) hi;have h2:=Wpv h hi;omega
section
open Go.RowKit
def We6 (l:List Nd) (w:World) (e:Ending) (w':World):Prop:=
 Below w.heap.size w w'/\((Rt l/\e= .returned (txt (tx l (l.length-1))))\/(¬Rt l/\e= .returned (txt [])))
theorem Wgd (a:Option Addr) (c n:Nat) (l:List Nd) (w:World) (hn:n=l.length) (Rm:Dp w) (hN:Nodes w a l) (hll:n<=1000000000):
  Calls prog 81 #[.slice a n c] w (We6 l w):=by
 have Zn:=Qa hn;have HN:=Qa hN;have Fz:=Qa Rm;clear hn hN Rm;obtain ⟨w1,hw1⟩:=Qb (w.alloc (.cells #[.slice a n c] 22));have HB1:Hid (Below w.heap.size w w1):=by rw [hw1];exact Qag
 have Ym:Hid (Held w1 w.heap.size 22 #[.slice a n c]):=by rw [hw1];exact Held.new w _ _
 have hright:=Qsq a c l w1 (Fz.out.below HB1.out) (HN.out.below HB1.out) (by rw [<-Zn.out];exact hll);rw [<-Zn.out]at hright;have HR:=Qa hright;clear hright;go_enter func81,ntmps81;rw [Qz 5];go_wp2_with fail;rw [<-hw1];refine HR.out.mono ?_;rintro e w2 ⟨b,rfl,hiff,hb2⟩;have HB2:Hid (Below w.heap.size w w2):=HB1.out.trans (hb2.mono HB1.out.size);have HL2:=Qa (Ym.out.since hb2);have Ka:=Qa hiff;clear hb2 hiff hw1;cases b with
 |false=>
  go_wp2_with fail;go_ret;exact ⟨HB2.out,.inr ⟨(λh=>by cases Ka.out.2 h),rfl⟩⟩
 |true=>
  have Nf:Hid (Rt l):=Ka.out.1 rfl;have hpos:0<n:=by rw [Zn.out];exact Nf.out.1.1
  go_wp2_with fail;obtain ⟨B,hB⟩:=Qb w2.heap.size;obtain ⟨lb,hlb⟩:=Qb w.heap.size;rw [<-hB,<-hlb];rw [<-hlb]at HL2;have Ec:=Qa hlb;obtain ⟨w3,hw3⟩:=Qb ((w2.alloc (.cells #[.pointer none,.slice none 0 0] 42)).alloc (.cells #[.nilFunc] 123));rw [<-hw3];have Wsc:lb<B:=by rw [hB];exact HL2.out.lt
  have HH0:Hid (Held w3 B 42 #[.pointer none,.slice none 0 0]):=by rw [hw3,hB];exact (Held.new w2 _ _).alloc _
  have Wo:Hid (Held w3 (B+1) 123 #[.nilFunc]):=by have h:=Held.new (w2.alloc (.cells #[.pointer none,.slice none 0 0] 42)) 123 #[.nilFunc];have e:(w2.alloc (.cells #[.pointer none,.slice none 0 0] 42)).heap.size=B+1:=(by rw [hB];simp);rw [e]at h;rw [hw3];exact h
  have HB3:Hid (Below w2.heap.size w2 w3):=by rw [hw3];exact Qag.alloc (by simp) _
  have Vm:=Qa (HL2.out.since HB3.out);have Yx:=Qa hB;clear hB hlb hw3;have cr:=Wo.out.at_ (j:=0) (v:=.nilFunc) rfl;have fr:=Wo.out.frozen 0;refine Qn ?_;go_wp2_with fail;obtain ⟨w4,hw4⟩:=Qb (w3.setCell ⟨B+1,0,none⟩ (.func (.func 116) #[] #[.pointer (some ⟨B,0,none⟩),.pointer (some ⟨B+1,0,none⟩),.pointer (some ⟨lb,0,none⟩)]));rw [<-hw4];have Jf:Hid (Below w2.heap.size w2 w4):=by rw [hw4];exact HB3.out.setCell (p:=⟨B+1,0,none⟩) (by show _<=B+1;rw [Yx.out];omega) _
  have HE:Hid (Qh4 w2 w4 a l n c B (B+1) lb):=by
   refine ⟨HN.out.below HB2.out,Fz.out.below HB2.out,Jf.out,by rw [Yx.out];exact Qh _,?_,?_,by omega,by omega⟩
   ·rw [hw4];exact Wo.out.set 0 _
   ·rw [hw4];exact Vm.out.off (g':=B+1) (by omega) 0 _
  have Aq:Hid (Lib.IsBuilderF 42 5 w2.heap.size B [] w4):=by refine .inl ⟨by rw [Yx.out];exact Qh _,.slice none 0 0,?_,⟨rfl,.inl ⟨rfl,rfl⟩⟩,by simp [Value.ownBlock]⟩;rw [hw4];exact HH0.out.off (g':=B+1) (by omega) 0 _
  clear hw4 cr fr HH0 Wo Vm Ka;have cP:=Held.at_ (show Held w4 (B+1) 123 _ from HE.out.pc) (j:=0) rfl;have cL:=Held.at_ (show Held w4 lb 22 _ from HE.out.lc) (j:=0) rfl;obtain ⟨p,rfl⟩: ∃p,n=p+1:=⟨n-1,by omega⟩;have hpl:p<l.length:=by rw [<-Zn.out];omega
  obtain ⟨nb,no,rfl,hnb,c0,c1,c2,c3,c4⟩:=(HE.out.nodes.below HE.out.below).at_ hpl;have HVQ:Hid ((nd l p).v= .agg #[.int .i64 (nd l p).kind,.slice (nd l p).ka (nd l p).kids.length (nd l p).kc,.int .i64 (nd l p).n,.string (nd l p).s,.int .i64 (nd l p).at_]):=rfl;have HTS:Hid ((tx l p).length<=64*l.length):=Q88 Nf.out.1 Nf.out.2.1 (λi hi=>(HN.out.2 i hi).n1) hpl;obtain ⟨y,hy⟩:=Qb (nd l p);rw [<-hy]at c0 c1 c2 c3 c4 HVQ;have HY:=Qa hy;clear hy;have hwp:IntKind.i64.wrap (p:Int)=(p:Int):=Go.IntWalk.i64_in _ (by omega);have hpi:(p:Int)<(p:Int)+1:=by omega
  go_wp2_with fail;go_still_tail 7,(by kernel_rfl);change wpList _ _ _ _ _ w4.drew;obtain ⟨w5,K8⟩:=Qb w4.drew;have HD5:Hid (Below w4.heap.size w4 w5):=by rw [K8];exact Wq w4 1 _
  rw [<-K8];have hput:=Wee w2 (some ⟨nb,no,none⟩) l (p+1) c B (B+1) lb Nf.out.1.2.1 Zn.out hll (λi hi=>Wix Nf.out.2.1 hi) (p+1) p (by omega) hpl [] w5 (HE.out.keep (HD5.out.mono Jf.out.size) (Qj9 HD5.out)) (Qh3 Aq.out HD5.out) (by have h1:=HTS.out;have h2:=Zn.out;simp;omega);rw [<-HY.out,HVQ.out]at hput;have Df:=Qa hput;clear hput K8 c0 c1 c2 c3 c4 cP cL;go_wp2_with fail;refine Df.out.mono ?_;rintro e w6 ⟨rfl,hb6,Qjv,V8⟩;have Br:=Qa hb6;have Qkt:Hid (Below w.heap.size w w6):=by have h1:Below w2.heap.size w2 w6:=(Jf.out.trans (HD5.out.mono Jf.out.size)).trans Qjv;exact HB2.out.trans (h1.mono HB2.out.size)
  clear hb6 Qjv V8;rw [Xk]at Br;go_wp2_with fail;refine (Tryz.Builder_String_any_k w2.heap.size B (tx l p) w6 Br.out (Qcy Br.out)).mono ?_;rintro e w7 ⟨rfl,_,M4,_⟩;have Bv:Hid (Below w.heap.size w w7):=Qkt.out.trans (M4.mono HB2.out.size);clear M4;go_wp2_with fail;go_ret;refine ⟨Bv.out,.inl ⟨Nf.out,?_⟩⟩;have e:l.length-1=p:=by rw [<-Zn.out,Nat.add_sub_cancel]
  rw [e];rfl
def rs (l:List Nd) (i j:Nat):List UInt8:=hd (nd l i)++((nd l i).kids.take j).flatMap (λk=>32::tx l k.toNat)
end
def Sm (x y:Nd):Prop:=x.kind=y.kind/\x.n=y.n/\x.t=y.t/\x.kids=y.kids
def Al (a b:List Nd):Prop:=a.length=b.length/\ ∀j,j<a.length->Sm (nd a j) (nd b j)
theorem Sm.refl (x:Nd):Sm x x:=⟨rfl,rfl,rfl,rfl⟩
theorem Qxf {l:List Nd} {i:Nat} (h: ¬i<l.length):nd l i=Nd.zero:=by unfold nd;rw [Yc,Qbz (by omega)];rfl
theorem Al.all {a b:List Nd} (h:Al a b) (j:Nat):Sm (nd a j) (nd b j):=by
 by_cases hj:j<a.length
 ·exact h.2 j hj
 ·rw [Qxf hj,Qxf (by rw [<-h.1];exact hj)];exact Sm.refl _
theorem Al.symm {a b:List Nd} (h:Al a b):Al b a:=⟨h.1.symm,λj _=>by obtain ⟨h1,h2,h3,h4⟩:=h.all j;exact ⟨h1.symm,h2.symm,h3.symm,h4.symm⟩⟩
theorem Al.Jc {a b:List Nd} (h:Al a b): ∀i,i<=a.length->Jc a i=Jc b i
 | 0,_=>by simp [Proofs.YtdncpkkhkbijfaaGreatDoor.Jc]
 |i+1,hi=>by rw [Qf0 (by omega),Qf0 (by rw [<-h.1];omega),h.Jc i (by omega),(h.all i).2.2.2]
theorem Al.ahead {a b:List Nd} (h:Al a b) (hA:Ahead a):Ahead b:=by intro i hi k hk;rw [<-(h.all i).2.2.2]at hk;exact hA i (by rw [h.1];exact hi) k hk
theorem Al.fold {α:Type} {f:Nd->List α->α} (hf: ∀x y ts,Sm x y->f x ts=f y ts) {a b:List Nd} (h:Al a b): ∀g i,fold f a g i=fold f b g i
 | 0,i=>hf _ _ _ (h.all i)
 |g+1,i=>by simp only [Proofs.YtdncpkkhkbijfaaGreatDoor.fold];rw [hf _ _ _ (h.all i),(h.all i).2.2.2];congr 1;apply List.map_congr_left;intro k _;exact h.fold hf g k.toNat
theorem Al.hgt {a b:List Nd} (h:Al a b) (i:Nat):hgt a i=hgt b i:=h.fold (λ_ _ _ _=>rfl) i i
theorem Al.ist {a b:List Nd} (h:Al a b) (hT:Hw a):Hw b:=by obtain ⟨h0,hA,hN,hL⟩:=hT;rw [h.Jc _ (Qh _),h.1]at hN hL;rw [h.1]at h0;exact ⟨h0,h.ahead hA,hN,hL⟩
theorem Al.fit {a b:List Nd} (h:Al a b) (i:Nat) (hat:0<=(nd a i).at_↔0<=(nd b i).at_):J7 a (nd a i)=J7 b (nd b i):=by
 obtain ⟨h1,h2,h3,h4⟩:=h.all i;have hk:kk a (nd a i)=kk b (nd b i):=by unfold kk;rw [h4];apply List.map_congr_left;intro k _;exact (h.all k.toNat).1
 unfold J7 ownB;rw [hk,h1,h2,h3];congr 4;simpa using hat
theorem Al.rt {a b:List Nd} (h:Al a b) (hat: ∀i,0<=(nd a i).at_↔0<=(nd b i).at_) (hR:Rt a):Rt b:=by
 obtain ⟨hT,hF,hH⟩:=hR;refine ⟨h.ist hT,λi hi=> ?_,?_⟩
 ·rw [<-h.fit i (hat i)];exact hF i (by rw [h.1];exact hi)
 ·rw [<-h.1,<-h.hgt];exact hH
section
open Go.RowKit
theorem Sm.Q81 {x y:Nd} (h: ¬x.kind=y.kind): ¬Sm x y:=λe=>h e.1
theorem Sm.Wlx {x y:Nd} (h: ¬x.n=y.n): ¬Sm x y:=λe=>h e.2.1
theorem Sm.Wro {x y:Nd} (h: ¬x.t=y.t): ¬Sm x y:=λe=>h e.2.2.1
theorem Sm.iff {x y:Nd} (h1:x.kind=y.kind) (h2:x.n=y.n) (h3:x.t=y.t):x.kids=y.kids↔Sm x y:=⟨λh=>⟨h1,h2,h3,h⟩,λh=>h.2.2.2⟩
theorem Al.Wmc {a b:List Nd} (h:a.length≠b.length): ¬Al a b:=λe=>h e.1
theorem Al.Qpa {a b:List Nd} {j:Nat} (hj:j<a.length) (h: ¬Sm (nd a j) (nd b j)): ¬Al a b:=λe=>h (e.2 j hj)
theorem Qya {w:World} {b o:Nat} {x:Nd} (h:Qes w b o x):w.cell? ⟨b,o+3,none⟩=some (.string ⟨x.t.toArray⟩):=by rw [h.2.2.2.1,Q6g x.s];rfl
theorem Q8t (ka kb:Option Addr) (c d:Nat) (xs ys:List Int) (w:World) (hx:Vd .i64 w ka xs.length (λj=>xs.getD j 0)) (hy:Vd .i64 w kb ys.length (λj=>ys.getD j 0)) (hxl:xs.length<=100000) (hyl:ys.length<=100000):
  Calls prog 39 #[.slice ka xs.length c,.slice kb ys.length d] w λe w'=>e= .returned (.bool (decide (xs=ys)))/\ ∃q,w'=w.drewN q:=
 Wqd ka kb xs.length ys.length c d xs ys w rfl rfl hxl hyl hx hy
theorem Qt0 (a b:Option Addr) (c d n m:Nat) (l r:List Nd) (w:World) (hn:n=l.length) (hm:m=r.length) (hL:Nodes w a l) (hR:Nodes w b r) (hll:n<=1000000000) (hrl:m<=1000000000) (hkl: ∀i,i<l.length->(nd l i).kids.length<=100000) (hkr: ∀i,i<r.length->(nd r i).kids.length<=100000):
  Calls prog 12 #[.slice a n c,.slice b m d] w (Jr (Al l r) w):=by
 have Zn:=Qa hn;have HMR:=Qa hm;have HL:=Qa hL;have HR:=Qa hR;have HKL:=Qa hkl;have HKR:=Qa hkr;clear hn hm hL hR hkl hkr;by_cases hnm:n=m
 ·subst hnm;go_enter func12,ntmps12;go_wp2_with fail;go_loopw [5] (λt wr=> ∃i:Nat,i<=n/\t= .int .i64 (i:Int)/\Hid (∀j,j<i->Sm (nd l j) (nd r j))/\Hid (Below w.heap.size w wr)) (λt _=>n-(intOf t).toNat)
  case atStart=>exact ⟨0,by omega,rfl,(λj hj=>by omega),Below.refl _ _⟩
  case round=>
   obtain ⟨i,hi,rfl,HS,HB⟩:=hrel;by_cases hil:i<n
   ·have Wkt:(i:Int)<(n:Int):=(by omega);have Xl:Hid (i<l.length):=(by show i<_;rw [<-Zn.out];exact hil);have HIR:Hid (i<r.length):=(by show i<_;rw [<-HMR.out];exact hil);obtain ⟨lb,lo,rfl,hlb,hl5⟩:=(HL.out.below HB.out).at_ Xl.out;obtain ⟨rb,ro,rfl,hrb,Aj⟩:=(HR.out.below HB.out).at_ HIR.out;have HOL:=Qa ((HL.out.below HB.out).2 i Xl.out);have HOR:=Qa ((HR.out.below HB.out).2 i HIR.out);have hlk:=HKL.out i Xl.out;have hrk:=HKR.out i HIR.out;obtain ⟨x,hx⟩:=Qb (nd l i);obtain ⟨y,hy⟩:=Qb (nd r i);rw [<-hx]at hl5 HOL hlk;rw [<-hy]at Aj HOR hrk;have HX:=Qa hx;have HY:=Qa hy;clear hx hy;have a0:=hl5.1;have a1:=hl5.2.1;have a2:=hl5.2.2.1;have a3:=Qya hl5;have b0:=Aj.1;have b1:=Aj.2.1;have b2:=Aj.2.2.1;have b3:=Qya Aj;clear hl5 Aj;have HC:=Qa (λq:Nat=>Q8t x.ka y.ka x.kc y.kc x.kids y.kids (wr.drewN q) (HOL.out.rows.drewN q) (HOR.out.rows.drewN q) hlk hrk);obtain ⟨B,hB⟩:=Qb (decide (x.kids=y.kids));rw [<-hB]at HC;have Yx:=Qa hB;clear hB;have t1:(⟨x.t.toArray⟩:ByteArray).toList=x.t:=Qsa _;have t2:(⟨y.t.toArray⟩:ByteArray).toList=y.t:=Qsa _;obtain ⟨P,hP⟩:=Qb x.t;obtain ⟨Q,hQ⟩:=Qb y.t;rw [<-hP]at a3 t1;rw [<-hQ]at b3 t2;have HP:=Qa hP;have HQ:=Qa hQ;clear hP hQ;by_cases k1:x.kind=y.kind
    ·by_cases k2:x.n=y.n
     ·by_cases k3:P=Q
      ·have Ka:=Qa (Sm.iff k1 k2 (by rw [<-HP.out,<-HQ.out];exact k3));have e1:(x.kind != y.kind)=false:=(by simpa using k1);have e2:(x.n != y.n)=false:=(by simpa using k2);subst k3;clear k1 k2;cases B with
       |true=>
        go_wp2_with fail;go_quiet (first |(go_at_call 39;refine Calls.quiet_of (HC.out _)));go_wp2_with fail;go_roundw
        case rel=>
         refine ⟨i+1,by omega,by go_num,(λj hj=> ?_),HB.out.trans (Wq _ _ _)⟩;rcases V7 j i with g |g
         ·exact HS.out j g
         ·rw [show j=i by omega,<-HX.out,<-HY.out];exact Ka.out.1 (of_decide_eq_true Yx.out.symm)
        case measure=>simp [intOf];omega
       |false=>
        go_wp2_with fail;go_quiet (first |(go_at_call 39;refine Calls.quiet_of (HC.out _)));go_wp2_with fail;go_ret;exact Jr.no rfl (Al.Qpa Xl.out (λh=>by rw [<-HX.out,<-HY.out]at h;exact of_decide_eq_false Yx.out.symm (Ka.out.2 h))) (HB.out.trans (Wq _ _ _))
      ·have V9:Hid (¬Sm x y):=Sm.Wro (by rw [<-HP.out,<-HQ.out];exact k3);have e1:(x.kind != y.kind)=false:=(by simpa using k1);have e2:(x.n != y.n)=false:=(by simpa using k2);have e3:(P != Q)=true:=(by simpa using k3);have e4:(P==Q)=false:=(by simpa using k3);clear k1 k2 k3;go_wp2_with fail;go_quiet (first |(go_at_call 39;refine Calls.quiet_of (HC.out _)));go_wp2_with fail;go_ret;exact Jr.no rfl (Al.Qpa Xl.out (λh=>by rw [<-HX.out,<-HY.out]at h;exact V9.out h)) (HB.out.trans (Wq _ _ _))
     ·have V9:Hid (¬Sm x y):=Sm.Wlx k2;have e1:(x.kind != y.kind)=false:=(by simpa using k1);have e2:(x.n != y.n)=true:=(by simpa using k2);clear k1 k2;go_wp2_with fail;go_quiet (first |(go_at_call 39;refine Calls.quiet_of (HC.out _)));go_wp2_with fail;go_ret;exact Jr.no rfl (Al.Qpa Xl.out (λh=>by rw [<-HX.out,<-HY.out]at h;exact V9.out h)) (HB.out.trans (Wq _ _ _))
    ·have V9:Hid (¬Sm x y):=Sm.Q81 k1;have e1:(x.kind != y.kind)=true:=(by simpa using k1);clear k1;go_wp2_with fail;go_quiet (first |(go_at_call 39;refine Calls.quiet_of (HC.out _)));go_wp2_with fail;go_ret;exact Jr.no rfl (Al.Qpa Xl.out (λh=>by rw [<-HX.out,<-HY.out]at h;exact V9.out h)) (HB.out.trans (Wq _ _ _))
   ·go_wp2_with fail;go_ret;exact Jr.yes rfl ⟨by rw [<-Zn.out];exact HMR.out,λj hj=>HS.out j (by rw [<-Zn.out]at hj;omega)⟩ HB.out
 ·have hne:((n:Int) != (m:Int))=true:=by simp;omega
  have HNM:=Qa hnm;clear hnm;go_enter func12,ntmps12;go_wp2_with fail;go_ret;exact Jr.no rfl (Al.Wmc (by rw [<-Zn.out,<-HMR.out];exact HNM.out)) (Below.refl _ _)
end
theorem Wgw (W:World) (S:ByteArray) (c:Nat):(convert 40 9 (.slice (some ⟨W.heap.size,0,none⟩) S.size c)).run prog (W.drew.alloc (.cells (bytesRow S c) 5 ((bytesRow S c).size,(bytesRow S c).size+1)))=
  .ok (.string S) (W.drew.alloc (.cells (bytesRow S c) 5 ((bytesRow S c).size,(bytesRow S c).size+1))):=by
 have h:=run_convert_bytes_back (P:=prog) (W.drew.alloc (.cells (bytesRow S c) 5 ((bytesRow S c).size,(bytesRow S c).size+1))) 40 9 5 ⟨W.heap.size,0,none⟩ c S.data.toList underlying40 underlying5 underlying9 ?_
 ·rw [Qa3]at h;exact h
 ·intro j hj;rw [Qa3]at hj;have he:(⟨W.heap.size,0,none⟩:Addr).add j=⟨W.heap.size,j,none⟩:=by
   simp only [Addr.add];split
   ·rename_i h0;rw [h0]
   ·rw [Bq]
  rw [he];refine (World.cell?_alloc_mark W.drew (bytesRow S c) 5 _ j).trans ?_;rw [bytesRow_at S c j hj];rfl
theorem Wnv (W:World) (S:ByteArray) (m:Nat) (hm:S.size=m): ∃(cap:Nat) (C:Array Value) (fr:Nat×Nat),
  (convert 9 40 (.string S)).run prog W= .ok (.slice (some ⟨W.heap.size,0,none⟩) m cap) (W.alloc (.cells C 5 fr)).drew/\
  (convert 40 9 (.slice (some ⟨W.heap.size,0,none⟩) m cap)).run prog (W.alloc (.cells C 5 fr)).drew= .ok (.string S) (W.alloc (.cells C 5 fr)).drew:=by
 subst hm;exact ⟨_,_,_,run_bytes_of_string (P:=prog) W 9 40 5 S underlying9 underlying40 underlying5,Wgw W S _⟩
end Go.Proofs.YtdncpkkhkbijfaaGreatDoor
