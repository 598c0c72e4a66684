import Derived.Test.YtdncpkkhkbijfaaGreatDoorBa31
open Go.Proofs.Tryz
set_option linter.all false
set_option maxHeartbeats 0
set_option maxRecDepth 100000
namespace Go.Proofs.YtdncpkkhkbijfaaGreatDoor
section
open Go.RowKit
theorem Q5d {l:List Nd} (H:Wz l) {i:Nat} (hi:i<l.length) (hk:(nd l i).kids=[]):Rt [nd l i]:=by
 obtain ⟨x,hx⟩:=Qb (nd l i);have hf:=H.fit hi;rw [<-hx]at hf hk ⊢;have hn:nd [x] 0=x:=rfl;have hA:Ahead [x]:=λj hj k hk'=>by
  have hj0:j=0:=by simp at hj;exact hj
  subst hj0;rw [hn,hk]at hk';exact absurd hk' Ef
 have hall:Jc [x] [x].length=[]:=by show ([x].take 1).flatMap (λx=>x.kids)=[];simp [hk]
 refine ⟨⟨by simp,hA,by rw [hall];exact List.nodup_nil,by rw [hall];rfl⟩,?_,?_⟩
 ·intro j hj;have hj0:j=0:=by simp at hj;exact hj
  subst hj0;rw [hn];have e1:kk [x] x=[]:=by unfold kk;rw [hk];rfl
  have e2:kk l x=[]:=by unfold kk;rw [hk];rfl
  unfold J7;rw [hf.1,e1,<-e2,hf.2];rfl
 ·show hgt [x] 0<=200;rw [Qf4 hA (by simp),hn,hk,Vi];decide
theorem Wjp {l:List Nd} (H:Wz l) {i:Nat} (hi:i<l.length) (hk:(nd l i).kids=[]) (h4:(nd l i).kind<=4):tx [nd l i] 0=hd (nd l i):=by have h:=Q5d H hi hk;rw [Qr0 h.1.2.1 (by simp) (by exact h4)];rfl
theorem Qm6 {x:Nd} {w:List UInt8} (h1:Cw x=w) (h2:w≠[]) (h3:x.t=[]) (h4:C9 x=[]):hd x=w:=by
 unfold hd;rw [h1,h3,h4];cases w with
 |nil=>exact absurd rfl h2
 |cons c cs=>simp [Lib.join]
theorem Wai {x:Nd} (h1:Cw x=[]) (h3:x.t≠[]) (h4:C9 x=[]):hd x=x.t:=by
 unfold hd;rw [h1,h4];cases h:x.t with
 |nil=>exact absurd h h3
 |cons c cs=>simp [Lib.join]
theorem Wgf {l:List Nd} {i m:Nat} (h:Qv l i 1 (m:Int) [] []):hd (nd l i)=(Ex.num m).txt:=by rw [Ex.txt];refine Qm6 (by unfold Cw;rw [Qk h.k,h.n]) ?_ h.t (by unfold C9;rw [h.k,Qd (by decide)]);rw [Qm0];obtain ⟨c,cs,hc⟩:=Qov m;rw [hc];exact List.cons_ne_nil _ _
theorem Woc {l:List Nd} {i:Nat} {b:Bool} (h:Qv l i 2 (if b then 1 else 0) [] []):hd (nd l i)=(Ex.bool b).txt:=by
 rw [Ex.txt];cases b with
 |true=>exact Qm6 (by unfold Cw;rw [Qd (by rw [h.k];decide),Qk h.k,h.n];rfl) (by decide) h.t (by unfold C9;rw [h.k,Qd (by decide)])
 |false=>exact Qm6 (by unfold Cw;rw [Qd (by rw [h.k];decide),Qk h.k,h.n];rfl) (by decide) h.t (by unfold C9;rw [h.k,Qd (by decide)])
theorem Wj4 {l:List Nd} {i:Nat} (h:Qv l i 3 0 [] []):hd (nd l i)=Ex.nil.txt:=by rw [Ex.txt];exact Qm6 (by unfold Cw;rw [h.k];rfl) (by decide) h.t (by unfold C9;rw [h.k,Qd (by decide)])
theorem Wo5 {l:List Nd} {i:Nat} {s:List UInt8} (h:Qv l i 4 0 s []) (hs:X0 s):hd (nd l i)=(Ex.var s).txt:=by
 rw [Ex.txt];have hne:(nd l i).t≠[]:=by obtain ⟨c,cs,e,_⟩:=hs.word.first;rw [h.t,e];exact List.cons_ne_nil _ _
 exact (Wai (by unfold Cw;rw [h.k];rfl) hne (by unfold C9;rw [h.k,Qd (by decide)])).trans h.t
theorem Qnv {P:Pl} {t:List UInt8} {w:World} (hE:Zt P t w) {i:Nat} (hi:i<P.l.length) (hk:(nd P.l i).kids=[]) (h4:(nd P.l i).kind<=4) {nb no:Nat} (ha:P.a=some ⟨nb,no,none⟩) (c:Nat):
  Calls prog 81 #[.slice (some ⟨nb,no+i*5,none⟩) 1 c] w λe w'=>e= .returned (.string ⟨(hd (nd P.l i)).toArray⟩)/\Below w.heap.size w w':=by
 obtain ⟨b,o,hba,hlt,hc⟩:=hE.nodes.at_ hi;rw [ha]at hba;injection hba with hba
 injection hba with e1 e2
 subst e1 e2;have hN:Nodes w (some ⟨nb,no+i*5,none⟩) [nd P.l i]:=by
  refine ⟨λ_=>⟨nb,no+i*5,rfl,Fe hlt hE.below.size,λj hj=> ?_⟩,λj hj=> ?_⟩
  ·have hj0:j=0:=(by simp at hj;exact hj);subst hj0;rw [Nat.zero_mul,Nat.add_zero];exact hc.below hE.below hlt
  ·have hj0:j=0:=(by simp at hj;exact hj);subst hj0;exact (hE.nodes.2 i hi).below hE.below
 refine (Wgd (some ⟨nb,no+i*5,none⟩) c 1 [nd P.l i] w rfl (hE.tabs.tabs.below hE.below) hN (by decide)).mono ?_;rintro e w' ⟨hb,h⟩;refine ⟨?_,hb⟩;rcases h with ⟨_,he⟩ |⟨hno,_⟩
 ·rw [he];show Ending.returned (txt (tx [nd P.l i] 0))=_;rw [Wjp hE.tree hi hk h4];rfl
 ·exact absurd (Q5d hE.tree hi hk) hno
theorem Qkv (b o n c i:Nat) (h:i+1<=c) (w:World):
  (Instr.slice 22 (.slice (some ⟨b,o,none⟩) n c) (some (.int .i64 (i:Int))) (some (.int .i64 ((i:Int)+1))) none).run prog w= .ok (.slice (some ⟨b,o+i*5,none⟩) 1 (c-i)) w:=by
 rw [run_slice_lh (P:=prog) w 22 _ n c (by kernel_rfl) .i64 .i64 (i:Int) ((i:Int)+1) (by omega) (by omega) (by omega)];have e1:((i:Int)+1).toNat=i+1:=by omega
 have he:prog.elem 22=37:=by kernel_rfl
 have hs:Sem.run prog (Go.sizeOf (prog.elem 22)) w=Result.ok 5 w:=by rw [he];exact Tryz.sizeOf37 w
 rw [hs];show Result.ok (sliced _ _ _ _ _) w=_;unfold sliced;rw [e1,Ja,Qd (by omega),Nat.add_sub_cancel_left];simp only [Option.map,Addr.add];by_cases h0:i*5=0
 ·rw [Qk h0,h0];rfl
 ·rw [Qd h0]
theorem Qmn (b o n c i:Nat) (h:i+1<=c) (w:World):
  (Instr.sliceAt 22 (.slice (some ⟨b,o,none⟩) n c) (some (.int .i64 (i:Int))) (some (.int .i64 ((i:Int)+1))) none).run prog w= .ok (.slice (some ⟨b,o+i*5,none⟩) 1 (c-i)) w:=by
 rw [run_sliceAt_slice (P:=prog) w 22 _ _ _ _ (by kernel_rfl)];exact Qkv b o n c i h w
theorem Wey {P:Pl} {i:Nat} {m:Nat} (h:Qv P.l i 1 (m:Int) [] []):Xg P i (Ex.num m):=by
 intro t w hE hl;have hhd:=Wgf h;obtain ⟨X,hX⟩:=Qb ((Ex.num m).txt);rw [<-hX]at hhd hl ⊢;have Qo:Hid (X=[]++X):=by show _=_;rw [Xk]
 clear hX;have hkk:=h.ks;have hk4:(nd P.l i).kind<=4:=by rw [h.k];decide
 have Xl:=Qa h.hi;have hcap:(i:Int)+1<=(P.c:Int):=by have:=hE.cap;have:=hE.len;have:=h.hi;omega
 have hci:i+1<=P.c:=by omega
 have hfw:(i:Int)+1<=1000000000:=by have:=hE.few;have:=hE.len;have:=h.hi;omega
 have Sc:=Qa (λ(t':List UInt8) (w':World) (hE':Zt P t' w') (nb no:Nat) (ha:P.a=some ⟨nb,no,none⟩) (c:Nat)=>Qnv hE' h.hi hkk hk4 ha c);rw [hhd]at Sc;clear hhd hkk hk4;obtain ⟨nb,no,ka,kc,at_,hN⟩:=K4 hE h;have HE:=Qa hE;have HN:=Qa hN;have HL:=Qa hl;have hin:(i:Int)<(P.n:Int):=by have:=hE.len;have:=h.hi;omega
 clear hE hN hl h;have cL:=HE.out.lc.at_ (j:=0) rfl;rw [HN.out.base]at cL;obtain ⟨c0,c1,c2,c3,c4⟩:=HN.out.cells t w HE.out;have c1:w.cell? ⟨nb,no+i*5+1,none⟩=some (.slice ka 0 kc):=c1;obtain ⟨SB,hsb⟩:=Qb (⟨([]:List UInt8).toArray⟩:ByteArray);rw [<-hsb]at c3;have Zj:Hid (SB.data.toList=[]):=by show _=_;rw [hsb]
 clear hsb;have Jb:Hid (∀w',Below w.heap.size w w'->Calls prog 15 #[.agg #[.int .i64 1,.slice ka 0 kc,.int .i64 (m:Int),.string SB,.int .i64 at_]] w' λe w''=>e= .returned (.int .i64 ((7:Nat):Int))/\Below w'.heap.size w' w''):=by intro w' hb;have h1:=Lm 1 (m:Int) ka 0 kc SB at_ w' ⟨HE.out.tabs.tabs.below (HE.out.since hb).below,Y0 HE.out.tabs.heads (HE.out.since hb).below,Y0 HE.out.tabs.strs (HE.out.since hb).below⟩;rw [show Jt 1 (m:Int)=7 from rfl]at h1;exact h1
 go_enter func80,ntmps80;go_wp2_with fail;obtain ⟨w1,hw1⟩:=Qb (w.alloc (.cells #[.int .i64 1,.slice ka 0 kc,.int .i64 (m:Int),.string SB,.int .i64 at_] 37));obtain ⟨xn,hxn⟩:=Qb w.heap.size;have HB1:Hid (Below w.heap.size w w1):=by rw [hw1];exact Qag
 have Wo:Hid (Held w1 xn 37 #[.int .i64 1,.slice ka 0 kc,.int .i64 (m:Int),.string SB,.int .i64 at_]):=by rw [hw1,hxn];exact Held.new w _ _
 have Q5:Hid (xn≠P.ob):=by have:=HE.out.bd.lt;show _≠_;omega
 rw [<-hw1,<-hxn];clear hw1 hxn c0 c1 c2 c3 c4 cL;refine (Jb.out w1 HB1.out).mono ?_;rintro e w2 ⟨rfl,hb2⟩;have HE2:=Qa ((HE.out.since HB1.out).since hb2);have Yq:Hid (Qi P.B P.ob w w2):=(Qi.of HE.out.bd.size HB1.out).trans (.of (HE.out.since HB1.out).bd.size hb2);have Q7:=Qa (Wo.out.since hb2);clear hb2;have c0:=Q7.out.at_ (j:=0) rfl;have cX:=HE2.out.xc.at_ (j:=0) rfl;have cH:w2.cell? ⟨0,1,none⟩=some (.string ⟨([]:List UInt8).toArray⟩):=Zc (Y0 HE2.out.tabs.heads HE2.out.below) (Ac 1 (by decide));go_wp2_with fail;go_still_tail 5,(by kernel_rfl);change wpList _ _ _ _ _ w2.drew;obtain ⟨v2,hv2⟩:=Qb w2.drew;have HD2:Hid (Below w2.heap.size w2 v2):=by rw [hv2];exact Wq w2 1 _
 rw [<-hv2];clear hv2 c0 cX cH;go_wp2_with fail;refine (Zw [] (HE2.out.since HD2.out).bd (by have h1:=HL.out;rw [Qo.out]at h1;simp only [Qf,Qp,Q8]at h1 ⊢;omega)).mono ?_;rintro e w3 ⟨rfl,Ye,hk3⟩;have Yj:Hid (Qi P.B P.ob w w3):=(Yq.out.trans (.of HE2.out.bd.size HD2.out)).trans hk3;have Q9:=Qa (((Qi.of HE2.out.bd.size HD2.out).trans hk3).held Q7.out Q5.out (by decide));have Qx:=Qa (HE2.out.keep ((Qi.of HE2.out.bd.size HD2.out).trans hk3) Ye);clear Ye hk3;have c0:=Q9.out.at_ (j:=0) rfl;have cX:=Qx.out.xc.at_ (j:=0) rfl;have cL:=Qx.out.lc.at_ (j:=0) rfl;rw [HN.out.base]at cL;have Ak:=Qa (Qx.out.since (Wq w3 1 _));have Vx:Hid (Qi P.B P.ob w w3.drew):=Yj.out.trans (.of Qx.out.bd.size (Wq w3 1 _));have hsa:=λw'=>Qmn nb no P.n P.c i hci w';have hsl:=λw'=>Qkv nb no P.n P.c i hci w';have hwr:IntKind.i64.wrap ((i:Int)+1)=(i:Int)+1:=Go.IntWalk.i64_in _ (by omega);clear hcap hci hfw;go_wp2_with fail;go_region_with (first
  |(go_at_call 81;refine (Sc.out _ _ Ak.out nb no HN.out.base _).mono ?_;rintro e w9 ⟨rfl,Fu⟩;have I5:=Qa (Ak.out.since Fu);have HK9:Hid (Qi P.B P.ob w w9):=Vx.out.trans (.of Ak.out.bd.size Fu);have cX9:=I5.out.xc.at_ (j:=0) rfl;clear Fu)
  |(go_at_call 18;refine (Zw X I5.out.bd (by have h1:=HL.out;rw [Qo.out]at h1;simp only [Qf,Qp,Q8]at h1 ⊢;omega)).mono ?_;rintro e Ra ⟨rfl,Pk,hk10⟩;have Qeu:Hid (Qi P.B P.ob w Ra):=HK9.out.trans hk10;have Qd8:=Qa (I5.out.keep hk10 Pk);clear Pk hk10))
 all_goals
  go_wp2_with fail;go_end0;refine ⟨rfl,?_,Qeu.out⟩;have h9:=Qd8.out;rw [Xe]at h9;exact h9
theorem Wj1 {P:Pl} {i:Nat} {b:Bool} {z:Int} (hz:z=if b then 1 else 0) (h:Qv P.l i 2 z [] []):Xg P i (Ex.bool b):=by
 intro t w hE hl;have hhd:=Woc (hz▸h);obtain ⟨X,hX⟩:=Qb ((Ex.bool b).txt);rw [<-hX]at hhd hl ⊢;clear hz;have Qo:Hid (X=[]++X):=by show _=_;rw [Xk]
 clear hX;have hkk:=h.ks;have hk4:(nd P.l i).kind<=4:=by rw [h.k];decide
 have Xl:=Qa h.hi;have hcap:(i:Int)+1<=(P.c:Int):=by have:=hE.cap;have:=hE.len;have:=h.hi;omega
 have hci:i+1<=P.c:=by omega
 have hfw:(i:Int)+1<=1000000000:=by have:=hE.few;have:=hE.len;have:=h.hi;omega
 have Sc:=Qa (λ(t':List UInt8) (w':World) (hE':Zt P t' w') (nb no:Nat) (ha:P.a=some ⟨nb,no,none⟩) (c:Nat)=>Qnv hE' h.hi hkk hk4 ha c);rw [hhd]at Sc;clear hhd hkk hk4;obtain ⟨nb,no,ka,kc,at_,hN⟩:=K4 hE h;have HE:=Qa hE;have HN:=Qa hN;have HL:=Qa hl;have hin:(i:Int)<(P.n:Int):=by have:=hE.len;have:=h.hi;omega
 clear hE hN hl h;have cL:=HE.out.lc.at_ (j:=0) rfl;rw [HN.out.base]at cL;obtain ⟨c0,c1,c2,c3,c4⟩:=HN.out.cells t w HE.out;have c1:w.cell? ⟨nb,no+i*5+1,none⟩=some (.slice ka 0 kc):=c1;obtain ⟨SB,hsb⟩:=Qb (⟨([]:List UInt8).toArray⟩:ByteArray);rw [<-hsb]at c3;have Zj:Hid (SB.data.toList=[]):=by show _=_;rw [hsb]
 clear hsb;have Jb:Hid (∀w',Below w.heap.size w w'->Calls prog 15 #[.agg #[.int .i64 2,.slice ka 0 kc,.int .i64 z,.string SB,.int .i64 at_]] w' λe w''=>e= .returned (.int .i64 ((7:Nat):Int))/\Below w'.heap.size w' w''):=by intro w' hb;have h1:=Lm 2 z ka 0 kc SB at_ w' ⟨HE.out.tabs.tabs.below (HE.out.since hb).below,Y0 HE.out.tabs.heads (HE.out.since hb).below,Y0 HE.out.tabs.strs (HE.out.since hb).below⟩;rw [show Jt 2 z=7 from rfl]at h1;exact h1
 go_enter func80,ntmps80;go_wp2_with fail;obtain ⟨w1,hw1⟩:=Qb (w.alloc (.cells #[.int .i64 2,.slice ka 0 kc,.int .i64 z,.string SB,.int .i64 at_] 37));obtain ⟨xn,hxn⟩:=Qb w.heap.size;have HB1:Hid (Below w.heap.size w w1):=by rw [hw1];exact Qag
 have Wo:Hid (Held w1 xn 37 #[.int .i64 2,.slice ka 0 kc,.int .i64 z,.string SB,.int .i64 at_]):=by rw [hw1,hxn];exact Held.new w _ _
 have Q5:Hid (xn≠P.ob):=by have:=HE.out.bd.lt;show _≠_;omega
 rw [<-hw1,<-hxn];clear hw1 hxn c0 c1 c2 c3 c4 cL;refine (Jb.out w1 HB1.out).mono ?_;rintro e w2 ⟨rfl,hb2⟩;have HE2:=Qa ((HE.out.since HB1.out).since hb2);have Yq:Hid (Qi P.B P.ob w w2):=(Qi.of HE.out.bd.size HB1.out).trans (.of (HE.out.since HB1.out).bd.size hb2);have Q7:=Qa (Wo.out.since hb2);clear hb2;have c0:=Q7.out.at_ (j:=0) rfl;have cX:=HE2.out.xc.at_ (j:=0) rfl;have cH:w2.cell? ⟨0,2,none⟩=some (.string ⟨([]:List UInt8).toArray⟩):=Zc (Y0 HE2.out.tabs.heads HE2.out.below) (Ac 2 (by decide));go_wp2_with fail;go_still_tail 5,(by kernel_rfl);change wpList _ _ _ _ _ w2.drew;obtain ⟨v2,hv2⟩:=Qb w2.drew;have HD2:Hid (Below w2.heap.size w2 v2):=by rw [hv2];exact Wq w2 1 _
 rw [<-hv2];clear hv2 c0 cX cH;go_wp2_with fail;refine (Zw [] (HE2.out.since HD2.out).bd (by have h1:=HL.out;rw [Qo.out]at h1;simp only [Qf,Qp,Q8]at h1 ⊢;omega)).mono ?_;rintro e w3 ⟨rfl,Ye,hk3⟩;have Yj:Hid (Qi P.B P.ob w w3):=(Yq.out.trans (.of HE2.out.bd.size HD2.out)).trans hk3;have Q9:=Qa (((Qi.of HE2.out.bd.size HD2.out).trans hk3).held Q7.out Q5.out (by decide));have Qx:=Qa (HE2.out.keep ((Qi.of HE2.out.bd.size HD2.out).trans hk3) Ye);clear Ye hk3;have c0:=Q9.out.at_ (j:=0) rfl;have cX:=Qx.out.xc.at_ (j:=0) rfl;have cL:=Qx.out.lc.at_ (j:=0) rfl;rw [HN.out.base]at cL;have Ak:=Qa (Qx.out.since (Wq w3 1 _));have Vx:Hid (Qi P.B P.ob w w3.drew):=Yj.out.trans (.of Qx.out.bd.size (Wq w3 1 _));have hsa:=λw'=>Qmn nb no P.n P.c i hci w';have hsl:=λw'=>Qkv nb no P.n P.c i hci w';have hwr:IntKind.i64.wrap ((i:Int)+1)=(i:Int)+1:=Go.IntWalk.i64_in _ (by omega);clear hcap hci hfw;go_wp2_with fail;go_region_with (first
  |(go_at_call 81;refine (Sc.out _ _ Ak.out nb no HN.out.base _).mono ?_;rintro e w9 ⟨rfl,Fu⟩;have I5:=Qa (Ak.out.since Fu);have HK9:Hid (Qi P.B P.ob w w9):=Vx.out.trans (.of Ak.out.bd.size Fu);have cX9:=I5.out.xc.at_ (j:=0) rfl;clear Fu)
  |(go_at_call 18;refine (Zw X I5.out.bd (by have h1:=HL.out;rw [Qo.out]at h1;simp only [Qf,Qp,Q8]at h1 ⊢;omega)).mono ?_;rintro e Ra ⟨rfl,Pk,hk10⟩;have Qeu:Hid (Qi P.B P.ob w Ra):=HK9.out.trans hk10;have Qd8:=Qa (I5.out.keep hk10 Pk);clear Pk hk10))
 all_goals
  go_wp2_with fail;go_end0;refine ⟨rfl,?_,Qeu.out⟩;have h9:=Qd8.out;rw [Xe]at h9;exact h9
theorem Wef {P:Pl} {i:Nat} (h:Qv P.l i 3 0 [] []):Xg P i Ex.nil:=by
 intro t w hE hl;have hhd:=Wj4 h;obtain ⟨X,hX⟩:=Qb Ex.nil.txt;rw [<-hX]at hhd hl ⊢;have Qo:Hid (X=[]++X):=by show _=_;rw [Xk]
 clear hX;have hkk:=h.ks;have hk4:(nd P.l i).kind<=4:=by rw [h.k];decide
 have Xl:=Qa h.hi;have hcap:(i:Int)+1<=(P.c:Int):=by have:=hE.cap;have:=hE.len;have:=h.hi;omega
 have hci:i+1<=P.c:=by omega
 have hfw:(i:Int)+1<=1000000000:=by have:=hE.few;have:=hE.len;have:=h.hi;omega
 have Sc:=Qa (λ(t':List UInt8) (w':World) (hE':Zt P t' w') (nb no:Nat) (ha:P.a=some ⟨nb,no,none⟩) (c:Nat)=>Qnv hE' h.hi hkk hk4 ha c);rw [hhd]at Sc;clear hhd hkk hk4;obtain ⟨nb,no,ka,kc,at_,hN⟩:=K4 hE h;have HE:=Qa hE;have HN:=Qa hN;have HL:=Qa hl;have hin:(i:Int)<(P.n:Int):=by have:=hE.len;have:=h.hi;omega
 clear hE hN hl h;have cL:=HE.out.lc.at_ (j:=0) rfl;rw [HN.out.base]at cL;obtain ⟨c0,c1,c2,c3,c4⟩:=HN.out.cells t w HE.out;have c1:w.cell? ⟨nb,no+i*5+1,none⟩=some (.slice ka 0 kc):=c1;obtain ⟨SB,hsb⟩:=Qb (⟨([]:List UInt8).toArray⟩:ByteArray);rw [<-hsb]at c3;have Zj:Hid (SB.data.toList=[]):=by show _=_;rw [hsb]
 clear hsb;have Jb:Hid (∀w',Below w.heap.size w w'->Calls prog 15 #[.agg #[.int .i64 3,.slice ka 0 kc,.int .i64 0,.string SB,.int .i64 at_]] w' λe w''=>e= .returned (.int .i64 ((7:Nat):Int))/\Below w'.heap.size w' w''):=by intro w' hb;have h1:=Lm 3 0 ka 0 kc SB at_ w' ⟨HE.out.tabs.tabs.below (HE.out.since hb).below,Y0 HE.out.tabs.heads (HE.out.since hb).below,Y0 HE.out.tabs.strs (HE.out.since hb).below⟩;rw [show Jt 3 0=7 from rfl]at h1;exact h1
 go_enter func80,ntmps80;go_wp2_with fail;obtain ⟨w1,hw1⟩:=Qb (w.alloc (.cells #[.int .i64 3,.slice ka 0 kc,.int .i64 0,.string SB,.int .i64 at_] 37));obtain ⟨xn,hxn⟩:=Qb w.heap.size;have HB1:Hid (Below w.heap.size w w1):=by rw [hw1];exact Qag
 have Wo:Hid (Held w1 xn 37 #[.int .i64 3,.slice ka 0 kc,.int .i64 0,.string SB,.int .i64 at_]):=by rw [hw1,hxn];exact Held.new w _ _
 have Q5:Hid (xn≠P.ob):=by have:=HE.out.bd.lt;show _≠_;omega
 rw [<-hw1,<-hxn];clear hw1 hxn c0 c1 c2 c3 c4 cL;refine (Jb.out w1 HB1.out).mono ?_;rintro e w2 ⟨rfl,hb2⟩;have HE2:=Qa ((HE.out.since HB1.out).since hb2);have Yq:Hid (Qi P.B P.ob w w2):=(Qi.of HE.out.bd.size HB1.out).trans (.of (HE.out.since HB1.out).bd.size hb2);have Q7:=Qa (Wo.out.since hb2);clear hb2;have c0:=Q7.out.at_ (j:=0) rfl;have cX:=HE2.out.xc.at_ (j:=0) rfl;have cH:w2.cell? ⟨0,3,none⟩=some (.string ⟨([]:List UInt8).toArray⟩):=Zc (Y0 HE2.out.tabs.heads HE2.out.below) (Ac 3 (by decide));go_wp2_with fail;go_still_tail 5,(by kernel_rfl);change wpList _ _ _ _ _ w2.drew;obtain ⟨v2,hv2⟩:=Qb w2.drew;have HD2:Hid (Below w2.heap.size w2 v2):=by rw [hv2];exact Wq w2 1 _
 rw [<-hv2];clear hv2 c0 cX cH;go_wp2_with fail;refine (Zw [] (HE2.out.since HD2.out).bd (by have h1:=HL.out;rw [Qo.out]at h1;simp only [Qf,Qp,Q8]at h1 ⊢;omega)).mono ?_;rintro e w3 ⟨rfl,Ye,hk3⟩;have Yj:Hid (Qi P.B P.ob w w3):=(Yq.out.trans (.of HE2.out.bd.size HD2.out)).trans hk3;have Q9:=Qa (((Qi.of HE2.out.bd.size HD2.out).trans hk3).held Q7.out Q5.out (by decide));have Qx:=Qa (HE2.out.keep ((Qi.of HE2.out.bd.size HD2.out).trans hk3) Ye);clear Ye hk3;have c0:=Q9.out.at_ (j:=0) rfl;have cX:=Qx.out.xc.at_ (j:=0) rfl;have cL:=Qx.out.lc.at_ (j:=0) rfl;rw [HN.out.base]at cL;have Ak:=Qa (Qx.out.since (Wq w3 1 _));have Vx:Hid (Qi P.B P.ob w w3.drew):=Yj.out.trans (.of Qx.out.bd.size (Wq w3 1 _));have hsa:=λw'=>Qmn nb no P.n P.c i hci w';have hsl:=λw'=>Qkv nb no P.n P.c i hci w';have hwr:IntKind.i64.wrap ((i:Int)+1)=(i:Int)+1:=Go.IntWalk.i64_in _ (by omega);clear hcap hci hfw;go_wp2_with fail;go_region_with (first
  |(go_at_call 81;refine (Sc.out _ _ Ak.out nb no HN.out.base _).mono ?_;rintro e w9 ⟨rfl,Fu⟩;have I5:=Qa (Ak.out.since Fu);have HK9:Hid (Qi P.B P.ob w w9):=Vx.out.trans (.of Ak.out.bd.size Fu);have cX9:=I5.out.xc.at_ (j:=0) rfl;clear Fu)
  |(go_at_call 18;refine (Zw X I5.out.bd (by have h1:=HL.out;rw [Qo.out]at h1;simp only [Qf,Qp,Q8]at h1 ⊢;omega)).mono ?_;rintro e Ra ⟨rfl,Pk,hk10⟩;have Qeu:Hid (Qi P.B P.ob w Ra):=HK9.out.trans hk10;have Qd8:=Qa (I5.out.keep hk10 Pk);clear Pk hk10))
 all_goals
  go_wp2_with fail;go_end0;refine ⟨rfl,?_,Qeu.out⟩;have h9:=Qd8.out;rw [Xe]at h9;exact h9
theorem Wl8 {P:Pl} {i:Nat} {s:List UInt8} (h:Qv P.l i 4 0 s []) (hs:X0 s):Xg P i (Ex.var s):=by
 intro t w hE hl;have hhd:=Wo5 h hs;obtain ⟨X,hX⟩:=Qb ((Ex.var s).txt);rw [<-hX]at hhd hl ⊢;have Qo:Hid (X=[]++X):=by show _=_;rw [Xk]
 clear hX;have hkk:=h.ks;have hk4:(nd P.l i).kind<=4:=by rw [h.k];decide
 have Xl:=Qa h.hi;have hcap:(i:Int)+1<=(P.c:Int):=by have:=hE.cap;have:=hE.len;have:=h.hi;omega
 have hci:i+1<=P.c:=by omega
 have hfw:(i:Int)+1<=1000000000:=by have:=hE.few;have:=hE.len;have:=h.hi;omega
 have Sc:=Qa (λ(t':List UInt8) (w':World) (hE':Zt P t' w') (nb no:Nat) (ha:P.a=some ⟨nb,no,none⟩) (c:Nat)=>Qnv hE' h.hi hkk hk4 ha c);rw [hhd]at Sc;clear hhd hkk hk4;obtain ⟨nb,no,ka,kc,at_,hN⟩:=K4 hE h;have HE:=Qa hE;have HN:=Qa hN;have HL:=Qa hl;have hin:(i:Int)<(P.n:Int):=by have:=hE.len;have:=h.hi;omega
 clear hE hN hl h;have cL:=HE.out.lc.at_ (j:=0) rfl;rw [HN.out.base]at cL;obtain ⟨c0,c1,c2,c3,c4⟩:=HN.out.cells t w HE.out;have c1:w.cell? ⟨nb,no+i*5+1,none⟩=some (.slice ka 0 kc):=c1;obtain ⟨SB,hsb⟩:=Qb (⟨(s:List UInt8).toArray⟩:ByteArray);rw [<-hsb]at c3;have Zj:Hid (SB.data.toList=s):=by show _=_;rw [hsb]
 clear hsb;have Jb:Hid (∀w',Below w.heap.size w w'->Calls prog 15 #[.agg #[.int .i64 4,.slice ka 0 kc,.int .i64 0,.string SB,.int .i64 at_]] w' λe w''=>e= .returned (.int .i64 ((7:Nat):Int))/\Below w'.heap.size w' w''):=by intro w' hb;have h1:=Lm 4 0 ka 0 kc SB at_ w' ⟨HE.out.tabs.tabs.below (HE.out.since hb).below,Y0 HE.out.tabs.heads (HE.out.since hb).below,Y0 HE.out.tabs.strs (HE.out.since hb).below⟩;rw [show Jt 4 0=7 from rfl]at h1;exact h1
 go_enter func80,ntmps80;go_wp2_with fail;obtain ⟨w1,hw1⟩:=Qb (w.alloc (.cells #[.int .i64 4,.slice ka 0 kc,.int .i64 0,.string SB,.int .i64 at_] 37));obtain ⟨xn,hxn⟩:=Qb w.heap.size;have HB1:Hid (Below w.heap.size w w1):=by rw [hw1];exact Qag
 have Wo:Hid (Held w1 xn 37 #[.int .i64 4,.slice ka 0 kc,.int .i64 0,.string SB,.int .i64 at_]):=by rw [hw1,hxn];exact Held.new w _ _
 have Q5:Hid (xn≠P.ob):=by have:=HE.out.bd.lt;show _≠_;omega
 rw [<-hw1,<-hxn];clear hw1 hxn c0 c1 c2 c3 c4 cL;refine (Jb.out w1 HB1.out).mono ?_;rintro e w2 ⟨rfl,hb2⟩;have HE2:=Qa ((HE.out.since HB1.out).since hb2);have Yq:Hid (Qi P.B P.ob w w2):=(Qi.of HE.out.bd.size HB1.out).trans (.of (HE.out.since HB1.out).bd.size hb2);have Q7:=Qa (Wo.out.since hb2);clear hb2;have c0:=Q7.out.at_ (j:=0) rfl;have cX:=HE2.out.xc.at_ (j:=0) rfl;have cH:w2.cell? ⟨0,4,none⟩=some (.string ⟨([]:List UInt8).toArray⟩):=Zc (Y0 HE2.out.tabs.heads HE2.out.below) (Ac 4 (by decide));go_wp2_with fail;go_still_tail 5,(by kernel_rfl);change wpList _ _ _ _ _ w2.drew;obtain ⟨v2,hv2⟩:=Qb w2.drew;have HD2:Hid (Below w2.heap.size w2 v2):=by rw [hv2];exact Wq w2 1 _
 rw [<-hv2];clear hv2 c0 cX cH;go_wp2_with fail;refine (Zw [] (HE2.out.since HD2.out).bd (by have h1:=HL.out;rw [Qo.out]at h1;simp only [Qf,Qp,Q8]at h1 ⊢;omega)).mono ?_;rintro e w3 ⟨rfl,Ye,hk3⟩;have Yj:Hid (Qi P.B P.ob w w3):=(Yq.out.trans (.of HE2.out.bd.size HD2.out)).trans hk3;have Q9:=Qa (((Qi.of HE2.out.bd.size HD2.out).trans hk3).held Q7.out Q5.out (by decide));have Qx:=Qa (HE2.out.keep ((Qi.of HE2.out.bd.size HD2.out).trans hk3) Ye);clear Ye hk3;have c0:=Q9.out.at_ (j:=0) rfl;have cX:=Qx.out.xc.at_ (j:=0) rfl;have cL:=Qx.out.lc.at_ (j:=0) rfl;rw [HN.out.base]at cL;have Ak:=Qa (Qx.out.since (Wq w3 1 _));have Vx:Hid (Qi P.B P.ob w w3.drew):=Yj.out.trans (.of Qx.out.bd.size (Wq w3 1 _));have hsa:=λw'=>Qmn nb no P.n P.c i hci w';have hsl:=λw'=>Qkv nb no P.n P.c i hci w';have hwr:IntKind.i64.wrap ((i:Int)+1)=(i:Int)+1:=Go.IntWalk.i64_in _ (by omega);clear hcap hci hfw;go_wp2_with fail;go_region_with (first
  |(go_at_call 81;refine (Sc.out _ _ Ak.out nb no HN.out.base _).mono ?_;rintro e w9 ⟨rfl,Fu⟩;have I5:=Qa (Ak.out.since Fu);have HK9:Hid (Qi P.B P.ob w w9):=Vx.out.trans (.of Ak.out.bd.size Fu);have cX9:=I5.out.xc.at_ (j:=0) rfl;clear Fu)
  |(go_at_call 18;refine (Zw X I5.out.bd (by have h1:=HL.out;rw [Qo.out]at h1;simp only [Qf,Qp,Q8]at h1 ⊢;omega)).mono ?_;rintro e Ra ⟨rfl,Pk,hk10⟩;have Qeu:Hid (Qi P.B P.ob w Ra):=HK9.out.trans hk10;have Qd8:=Qa (I5.out.keep hk10 Pk);clear Pk hk10))
 all_goals
  go_wp2_with fail;go_end0;refine ⟨rfl,?_,Qeu.out⟩;have h9:=Qd8.out;rw [Xe]at h9;exact h9
theorem Qlt {α:Type} {R:Int->α->Prop} {d:α} {ks:List Int} {xs:List α} (h:Gc R ks xs): ∀j,j<ks.length->R (ks.getD j 0) (xs.getD j d):=by
 induction h with
 |nil=>intro j hj;exact absurd hj (Nat.not_lt_zero j)
 |cons h1 _ ih=>
  intro j hj;cases j with
  |zero=>exact h1
  |succ j=>exact ih j (Nat.lt_of_succ_lt_succ hj)
theorem Qmd {ks:List Int} {j:Nat} (hj:j<ks.length):ks[j]? =some (ks.getD j 0):=by rw [Yc,Y3 hj];rfl
theorem Qhi {ks:List Int} {j:Nat} (hj:j<ks.length):ks.getD j 0∈ks:=by rw [Yc,Y3 hj];exact F5 hj
theorem Q5t {P:Pl} (H:Wz P.l): ∀N i,i<N->i<P.l.length->Q6 (nd P.l i).kind=true-> ∀x,XE P.l (i:Int) x->Xg P i x:=by
 intro N
 induction N with
 |zero=>intro i h;omega
 |succ N ih=>
  intro i hiN hi hx e he;have kid: ∀k∈(nd P.l i).kids,Q6 (Yp P.l k)=true-> ∀x,XE P.l k x-> ∃q:Nat,k=(q:Int)/\q<P.l.length/\Q6 (nd P.l q).kind=true/\XE P.l (q:Int) x/\Xg P q x:=by intro k hk hkx x hX;have hk2:=H.kid hi hk;obtain ⟨q,rfl⟩: ∃q:Nat,k=q:=⟨k.toNat,by omega⟩;have hq:q<P.l.length:=(by omega);have Mw:Q6 (nd P.l q).kind=true:=hkx;exact ⟨q,rfl,hq,Mw,hX,ih q (by omega) hq Mw x hX⟩
  have hin:=Nk hx;have hcases:(nd P.l i).kind=1\/(nd P.l i).kind=2\/(nd P.l i).kind=3\/(nd P.l i).kind=4\/(nd P.l i).kind=5\/(nd P.l i).kind=6\/(nd P.l i).kind=7\/(nd P.l i).kind=8\/(nd P.l i).kind=9\/(nd P.l i).kind=10\/(nd P.l i).kind=11:=by omega
  rcases hcases with hK |hK |hK |hK |hK |hK |hK |hK |hK |hK |hK
  ·obtain ⟨m,ha,hX⟩:=H.k1 hi hK;rw [he.one hX];exact Wey ha
  ·obtain ⟨b,ha,hX⟩:=H.k2 hi hK;rw [he.one hX];exact Wj1 rfl ha
  ·obtain ⟨ha,hX⟩:=H.k3 hi hK;rw [he.one hX];exact Wef ha
  ·obtain ⟨s,hs,ha,hX⟩:=H.k4 hi hK;rw [he.one hX];exact Wl8 ha hs
  ·obtain ⟨op,a,b,x,y,h1,h16,ha,hxa,hxb,hX,hY,hE⟩:=H.k5 hi hK;rw [he.one hE];obtain ⟨q,rfl,hq,Mw,hX,hp⟩:=kid a (by rw [ha.ks];simp) hxa x hX;obtain ⟨r,rfl,hr,hrx,hY,hp'⟩:=kid b (by rw [ha.ks];simp) hxb y hY;exact Wk4 ha h1 h16 hq hX Mw hp hr hY hrx hp'
  ·obtain ⟨a,x,ha,hxa,hX,hE⟩:=H.k6 hi hK;rw [he.one hE];obtain ⟨q,rfl,hq,Mw,hX,hp⟩:=kid a (by rw [ha.ks];simp) hxa x hX;exact Whn ha hq hX Mw hp
  ·obtain ⟨a,x,ha,hxa,hX,hE⟩:=H.k7 hi hK;rw [he.one hE];obtain ⟨q,rfl,hq,Mw,hX,hp⟩:=kid a (by rw [ha.ks];simp) hxa x hX;exact Wkw ha hq hX Mw hp
  ·obtain ⟨a,b,x,y,ha,hxa,hxb,hX,hY,hE⟩:=H.k8 hi hK;rw [he.one hE];obtain ⟨q,rfl,hq,Mw,hX,hp⟩:=kid a (by rw [ha.ks];simp) hxa x hX;obtain ⟨r,rfl,hr,hrx,hY,hp'⟩:=kid b (by rw [ha.ks];simp) hxb y hY;exact Wlq ha hq hX Mw hp hp'
  ·obtain ⟨a,x,ha,hxa,hX,hE⟩:=H.k9 hi hK;rw [he.one hE];refine Wl7 (xs:=[x]) ha (by simp) (by rw [Ex.txt,Zo,Zo];simp [Ky]) rfl (by simp) ?_;intro j hj;have hj0:j=0:=(by simp at hj;exact hj);subst hj0;obtain ⟨q,rfl,hq,Mw,hX,hp⟩:=kid a (by rw [ha.ks];simp) hxa x hX;exact ⟨q,rfl,hp⟩
  ·obtain ⟨a,x,ha,hxa,hX,hE⟩:=H.k10 hi hK;rw [he.one hE];refine Wd5 (xs:=[x]) ha (by simp) (by rw [Ex.txt,Zo,Zo];simp [Ah]) rfl (by simp) ?_;intro j hj;have hj0:j=0:=(by simp at hj;exact hj);subst hj0;obtain ⟨q,rfl,hq,Mw,hX,hp⟩:=kid a (by rw [ha.ks];simp) hxa x hX;exact ⟨q,rfl,hp⟩
  ·obtain ⟨s,ks,xs,hs,h8,ha,hkx,hX,hE⟩:=H.k11 hi hK;rw [he.one hE];refine Wqb (xs:=xs) ha hs.short (by rw [Ex.txt];simp) (Qc6 hX) h8 ?_;intro j hj;have hm:=Qhi hj;obtain ⟨q,hq1,hq,Mw,hXq,hp⟩:=kid (ks.getD j 0) (by rw [ha.ks];exact hm) (hkx _ hm) _ (Qlt (d:=Ex.nil) hX j hj);exact ⟨q,by rw [Qmd hj,hq1],hp⟩
structure Ql where
 P:Pl
 lb:Nat
 xb:Nat
 sb:Nat
 eb:Nat
structure D8 (Q:Ql) (t:List UInt8) (w:World):Prop where
 ee:Zt Q.P t w
 lc:Held w Q.lb 22 #[.slice Q.P.a Q.P.n Q.P.c]
 xc:Held w Q.xb 39 #[.pointer (some ⟨Q.P.ob,0,none⟩)]
 sc:Held w Q.sb 43 #[.func (.func 46) #[] #[.pointer (some ⟨Q.lb,0,none⟩),.pointer (some ⟨Q.xb,0,none⟩),.pointer (some ⟨Q.sb,0,none⟩),.pointer (some ⟨Q.eb,0,none⟩)]]
 ec:Held w Q.eb 82 #[.func (.func 80) #[] #[.pointer (some ⟨Q.P.lb,0,none⟩),.pointer (some ⟨Q.P.xb,0,none⟩),.pointer (some ⟨Q.P.bb,0,none⟩),.pointer (some ⟨Q.P.pb,0,none⟩)]]
 lo:Q.lb≠Q.P.ob
 xo:Q.xb≠Q.P.ob
 so:Q.sb≠Q.P.ob
 eo:Q.eb≠Q.P.ob
theorem D8.step {Q:Ql} {t t':List UInt8} {w w':World} (h:D8 Q t w) (hk:Qi Q.P.B Q.P.ob w w') (he:Zt Q.P t' w'):D8 Q t' w':=
 ⟨he,hk.held h.lc h.lo (by decide),hk.held h.xc h.xo (by decide),hk.held h.sc h.so (by decide),hk.held h.ec h.eo (by decide),h.lo,h.xo,h.so,h.eo⟩
theorem D8.keep {Q:Ql} {t t':List UInt8} {w w':World} (h:D8 Q t w) (hk:Qi Q.P.B Q.P.ob w w') (hb:Bd Q.P.B Q.P.ob t' w'):D8 Q t' w':=h.step hk (h.ee.keep hk hb)
theorem D8.since {Q:Ql} {t:List UInt8} {w w':World} (h:D8 Q t w) (hb:Below w.heap.size w w'):D8 Q t w':=h.step (.of h.ee.bd.size hb) (h.ee.since hb)
def Q2a (Q:Ql) (t:List UInt8) (w:World) (e:Ending) (w':World):Prop:=e= .returned (.tuple #[])/\D8 Q t w'/\Qi Q.P.B Q.P.ob w w'
def Bc (Q:Ql) (q d:Nat) (T:List UInt8):Prop:= ∀(t:List UInt8) (w:World),D8 Q t w->t.length+T.length<=140737488355328->
 Calls prog 46 #[.int .i64 (q:Int),.int .i64 (d:Int),.pointer (some ⟨Q.lb,0,none⟩),.pointer (some ⟨Q.xb,0,none⟩),.pointer (some ⟨Q.sb,0,none⟩),.pointer (some ⟨Q.eb,0,none⟩)] w (Q2a Q (t++T) w)
theorem Xg.st {Q:Ql} {q:Nat} {x:Ex} (h:Xg Q.P q x) {t:List UInt8} {w:World} (hE:D8 Q t w) (hl:t.length+x.txt.length<=140737488355328):
  Calls prog 80 #[.int .i64 (q:Int),.pointer (some ⟨Q.P.lb,0,none⟩),.pointer (some ⟨Q.P.xb,0,none⟩),.pointer (some ⟨Q.P.bb,0,none⟩),.pointer (some ⟨Q.P.pb,0,none⟩)] w (Q2a Q (t++x.txt) w):=
 (h t w hE.ee hl).mono λe w' h=>⟨h.1,hE.step h.2.2 h.2.1,h.2.2⟩
theorem Qyz: ∀d,Lib.repeatL [9] d=tabs d
 | 0=>rfl
 |d+1=>by show [9]++Lib.repeatL [9] d=_;rw [Qyz d];rfl
theorem Qy6 (d:Nat):(tabs d).length=d:=by unfold tabs;simp
theorem Q4t (d:Nat) (w:World) (hd:d<=140737488355328):
  Calls prog 47 #[.string ⟨#[9]⟩,.int .i64 (d:Int)] w λe w'=>e= .returned (.string ⟨(tabs d).toArray⟩)/\Below w.heap.size w w':=by
 refine (Tryz.strings_Repeat ⟨#[9]⟩ d w (by omega) (by show 1*d<=_;omega)).mono ?_;rintro e w' ⟨he,hb⟩;refine ⟨?_,hb⟩;rw [he];show Ending.returned (.string ⟨(Lib.repeatL [9] d).toArray⟩)=_;rw [Qyz]
theorem Qu6 (b o m c:Nat) (h:m+1<=c) (hm:0<m) (w:World):
  (Instr.slice 35 (.slice (some ⟨b,o,none⟩) (m+1) c) (some (.int .i64 1)) none none).run prog w= .ok (.slice (some ⟨b,o+1,none⟩) m (c-1)) w:=by
 rw [run_slice_l (P:=prog) w 35 _ (m+1) c (by kernel_rfl) .i64 1 (by omega) (by omega)];have he:prog.elem 35=3:=by kernel_rfl
 have hs:Sem.run prog (Go.sizeOf (prog.elem 35)) w=Result.ok 1 w:=by rw [he];exact Tryz.sizeOf3 w
 rw [hs];show Result.ok (sliced _ _ _ _ _) w=_;unfold sliced;have e1:(1:Int).toNat=1:=rfl;rw [e1,Qd (by omega),Nat.add_sub_cancel];rfl
theorem Qwn (b o m c:Nat) (h:m+1<=c) (hm:0<m) (w:World):
  (Instr.sliceAt 35 (.slice (some ⟨b,o,none⟩) (m+1) c) (some (.int .i64 1)) none none).run prog w= .ok (.slice (some ⟨b,o+1,none⟩) m (c-1)) w:=by
 rw [run_sliceAt_slice (P:=prog) w 35 _ _ _ _ (by kernel_rfl)];exact Qu6 b o m c h hm w
end
end Go.Proofs.YtdncpkkhkbijfaaGreatDoor
