import Derived.Test.YtdncpkkhkbijfaaDoorTe14
import Derived.Test.YtdncpkkhkbijfaaDoorTe15
open Go.Proofs.Tryd
set_option linter.all false
set_option maxHeartbeats 0
set_option maxRecDepth 100000
namespace Go.Proofs.YtdncpkkhkbijfaaDoor
section
open Go.RowKit
theorem Qpk {P:Pl} {i:Nat} {m:Nat} (h:Qg P.l i 1 (m:Int) [] []):Yr P i (Ex.num m):=by
 intro t w hE hl;have hhd:=Qln h;obtain ⟨X,hX⟩:=Qb ((Ex.num m).txt);rw [<-hX]at hhd hl ⊢;have Qe:Hid (X=[]++X):=by show _=_;rw [Ba]
 clear hX;have hkk:=h.ks;have hk4:(nd P.l i).kind<=4:=by rw [h.k];decide
 have Wx:=Qa h.hi;have hcap:(i:Int)+1<=(P.c:Int):=by have:=hE.cap;have:=hE.len;have:=h.hi;omega
 have hci:i+1<=P.c:=by omega
 have hfw:(i:Int)+1<=1000000000:=by have:=hE.few;have:=hE.len;have:=h.hi;omega
 have Ay:=Qa (λ(t':List UInt8) (w':World) (hE':Ya P t' w') (nb no:Nat) (ha:P.a=some ⟨nb,no,none⟩) (c:Nat)=>Oc hE' h.hi hkk hk4 ha c);rw [hhd]at Ay;clear hhd hkk hk4;obtain ⟨nb,no,ka,kc,at_,hN⟩:=Zx hE h;have HE:=Qa hE;have HN:=Qa hN;have HL:=Qa hl;have hin:(i:Int)<(P.n:Int):=by have:=hE.len;have:=h.hi;omega
 clear hE hN hl h;have cL:=HE.out.lc.at_ (j:=0) rfl;rw [HN.out.base]at cL;obtain ⟨c0,c1,c2,c3,c4⟩:=HN.out.cells t w HE.out;have c1:w.cell? ⟨nb,no+i*5+1,none⟩=some (.slice ka 0 kc):=c1;obtain ⟨SB,hsb⟩:=Qb (⟨([]:List UInt8).toArray⟩:ByteArray);rw [<-hsb]at c3;have Wq:Hid (SB.data.toList=[]):=by show _=_;rw [hsb]
 clear hsb;have Zf:Hid (∀w',Below w.heap.size w w'->Calls prog 11 #[.agg #[.int .i64 1,.slice ka 0 kc,.int .i64 (m:Int),.string SB,.int .i64 at_]] w' λe w''=>e= .returned (.int .i64 ((7:Nat):Int))/\Below w'.heap.size w' w''):=by intro w' hb;have h1:=Vq 1 (m:Int) ka 0 kc SB at_ w' ⟨HE.out.tabs.tabs.below (HE.out.since hb).below,Wm HE.out.tabs.heads (HE.out.since hb).below,Wm HE.out.tabs.strs (HE.out.since hb).below⟩;rw [show Yf 1 (m:Int)=7 from rfl]at h1;exact h1
 go_enter func35,ntmps35;go_wp2_with fail;obtain ⟨w1,hw1⟩:=Qb (w.alloc (.cells #[.int .i64 1,.slice ka 0 kc,.int .i64 (m:Int),.string SB,.int .i64 at_] 25));obtain ⟨xn,hxn⟩:=Qb w.heap.size;have HB1:Hid (Below w.heap.size w w1):=by rw [hw1];exact Qn
 have Qs:Hid (Held w1 xn 25 #[.int .i64 1,.slice ka 0 kc,.int .i64 (m:Int),.string SB,.int .i64 at_]):=by rw [hw1,hxn];exact Held.new w _ _
 have Qm:Hid (xn≠P.ob):=by have:=HE.out.bd.lt;show _≠_;omega
 rw [<-hw1,<-hxn];clear hw1 hxn c0 c1 c2 c3 c4 cL;refine (Zf.out w1 HB1.out).mono ?_;rintro e w2 ⟨rfl,hb2⟩;have HE2:=Qa ((HE.out.since HB1.out).since hb2);have Ws:Hid (Qc P.B P.ob w w2):=(Qc.of HE.out.bd.size HB1.out).trans (.of (HE.out.since HB1.out).bd.size hb2);have Qh:=Qa (Qs.out.since hb2);clear hb2;have c0:=Qh.out.at_ (j:=0) rfl;have cX:=HE2.out.xc.at_ (j:=0) rfl;have cH:w2.cell? ⟨0,1,none⟩=some (.string ⟨([]:List UInt8).toArray⟩):=Wv (Wm HE2.out.tabs.heads HE2.out.below) (Z0 1 (by decide));go_wp2_with fail;go_still_tail 5,(by kernel_rfl);change wpList _ _ _ _ _ w2.drew;obtain ⟨v2,hv2⟩:=Qb w2.drew;have HD2:Hid (Below w2.heap.size w2 v2):=by rw [hv2];exact Q5 w2 1 _
 rw [<-hv2];clear hv2 c0 cX cH;go_wp2_with fail;refine (Yb [] (HE2.out.since HD2.out).bd (by have h1:=HL.out;rw [Qe.out]at h1;simp only [Qd,Qf,Qk]at h1 ⊢;omega)).mono ?_;rintro e w3 ⟨rfl,Qy,hk3⟩;have Wn:Hid (Qc P.B P.ob w w3):=(Ws.out.trans (.of HE2.out.bd.size HD2.out)).trans hk3;have Qr:=Qa (((Qc.of HE2.out.bd.size HD2.out).trans hk3).held Qh.out Qm.out (by decide));have Qj:=Qa (HE2.out.keep ((Qc.of HE2.out.bd.size HD2.out).trans hk3) Qy);clear Qy hk3;have c0:=Qr.out.at_ (j:=0) rfl;have cX:=Qj.out.xc.at_ (j:=0) rfl;have cL:=Qj.out.lc.at_ (j:=0) rfl;rw [HN.out.base]at cL;have Z7:=Qa (Qj.out.since (Q5 w3 1 _));have Yq:Hid (Qc P.B P.ob w w3.drew):=Wn.out.trans (.of Qj.out.bd.size (Q5 w3 1 _));have hsa:=λw'=>Ns nb no P.n P.c i hci w';have hsl:=λw'=>Iy nb no P.n P.c i hci w';have hwr:IntKind.i64.wrap ((i:Int)+1)=(i:Int)+1:=Go.IntWalk.i64_in _ (by omega);clear hcap hci hfw;go_wp2_with fail;go_region_with (first
  |(go_at_call 36;refine (Ay.out _ _ Z7.out nb no HN.out.base _).mono ?_;rintro e w9 ⟨rfl,Ju⟩;have Jy:=Qa (Z7.out.since Ju);have Ei:Hid (Qc P.B P.ob w w9):=Yq.out.trans (.of Z7.out.bd.size Ju);have U9:=Jy.out.xc.at_ (j:=0) rfl;clear Ju)
  |(go_at_call 15;refine (Yb X Jy.out.bd (by have h1:=HL.out;rw [Qe.out]at h1;simp only [Qd,Qf,Qk]at h1 ⊢;omega)).mono ?_;rintro e Fe ⟨rfl,Ar,hk10⟩;have E8:Hid (Qc P.B P.ob w Fe):=Ei.out.trans hk10;have E5:=Qa (Jy.out.keep hk10 Ar);clear Ar hk10))
 all_goals
  go_wp2_with fail;go_end0;refine ⟨rfl,?_,E8.out⟩;have h9:=E5.out;rw [Js]at h9;exact h9
theorem Qj1 {P:Pl} {i:Nat} {b:Bool} {z:Int} (hz:z=if b then 1 else 0) (h:Qg P.l i 2 z [] []):Yr P i (Ex.bool b):=by
 intro t w hE hl;have hhd:=Qm2 (hz▸h);obtain ⟨X,hX⟩:=Qb ((Ex.bool b).txt);rw [<-hX]at hhd hl ⊢;clear hz;have Qe:Hid (X=[]++X):=by show _=_;rw [Ba]
 clear hX;have hkk:=h.ks;have hk4:(nd P.l i).kind<=4:=by rw [h.k];decide
 have Wx:=Qa h.hi;have hcap:(i:Int)+1<=(P.c:Int):=by have:=hE.cap;have:=hE.len;have:=h.hi;omega
 have hci:i+1<=P.c:=by omega
 have hfw:(i:Int)+1<=1000000000:=by have:=hE.few;have:=hE.len;have:=h.hi;omega
 have Ay:=Qa (λ(t':List UInt8) (w':World) (hE':Ya P t' w') (nb no:Nat) (ha:P.a=some ⟨nb,no,none⟩) (c:Nat)=>Oc hE' h.hi hkk hk4 ha c);rw [hhd]at Ay;clear hhd hkk hk4;obtain ⟨nb,no,ka,kc,at_,hN⟩:=Zx hE h;have HE:=Qa hE;have HN:=Qa hN;have HL:=Qa hl;have hin:(i:Int)<(P.n:Int):=by have:=hE.len;have:=h.hi;omega
 clear hE hN hl h;have cL:=HE.out.lc.at_ (j:=0) rfl;rw [HN.out.base]at cL;obtain ⟨c0,c1,c2,c3,c4⟩:=HN.out.cells t w HE.out;have c1:w.cell? ⟨nb,no+i*5+1,none⟩=some (.slice ka 0 kc):=c1;obtain ⟨SB,hsb⟩:=Qb (⟨([]:List UInt8).toArray⟩:ByteArray);rw [<-hsb]at c3;have Wq:Hid (SB.data.toList=[]):=by show _=_;rw [hsb]
 clear hsb;have Zf:Hid (∀w',Below w.heap.size w w'->Calls prog 11 #[.agg #[.int .i64 2,.slice ka 0 kc,.int .i64 z,.string SB,.int .i64 at_]] w' λe w''=>e= .returned (.int .i64 ((7:Nat):Int))/\Below w'.heap.size w' w''):=by intro w' hb;have h1:=Vq 2 z ka 0 kc SB at_ w' ⟨HE.out.tabs.tabs.below (HE.out.since hb).below,Wm HE.out.tabs.heads (HE.out.since hb).below,Wm HE.out.tabs.strs (HE.out.since hb).below⟩;rw [show Yf 2 z=7 from rfl]at h1;exact h1
 go_enter func35,ntmps35;go_wp2_with fail;obtain ⟨w1,hw1⟩:=Qb (w.alloc (.cells #[.int .i64 2,.slice ka 0 kc,.int .i64 z,.string SB,.int .i64 at_] 25));obtain ⟨xn,hxn⟩:=Qb w.heap.size;have HB1:Hid (Below w.heap.size w w1):=by rw [hw1];exact Qn
 have Qs:Hid (Held w1 xn 25 #[.int .i64 2,.slice ka 0 kc,.int .i64 z,.string SB,.int .i64 at_]):=by rw [hw1,hxn];exact Held.new w _ _
 have Qm:Hid (xn≠P.ob):=by have:=HE.out.bd.lt;show _≠_;omega
 rw [<-hw1,<-hxn];clear hw1 hxn c0 c1 c2 c3 c4 cL;refine (Zf.out w1 HB1.out).mono ?_;rintro e w2 ⟨rfl,hb2⟩;have HE2:=Qa ((HE.out.since HB1.out).since hb2);have Ws:Hid (Qc P.B P.ob w w2):=(Qc.of HE.out.bd.size HB1.out).trans (.of (HE.out.since HB1.out).bd.size hb2);have Qh:=Qa (Qs.out.since hb2);clear hb2;have c0:=Qh.out.at_ (j:=0) rfl;have cX:=HE2.out.xc.at_ (j:=0) rfl;have cH:w2.cell? ⟨0,2,none⟩=some (.string ⟨([]:List UInt8).toArray⟩):=Wv (Wm HE2.out.tabs.heads HE2.out.below) (Z0 2 (by decide));go_wp2_with fail;go_still_tail 5,(by kernel_rfl);change wpList _ _ _ _ _ w2.drew;obtain ⟨v2,hv2⟩:=Qb w2.drew;have HD2:Hid (Below w2.heap.size w2 v2):=by rw [hv2];exact Q5 w2 1 _
 rw [<-hv2];clear hv2 c0 cX cH;go_wp2_with fail;refine (Yb [] (HE2.out.since HD2.out).bd (by have h1:=HL.out;rw [Qe.out]at h1;simp only [Qd,Qf,Qk]at h1 ⊢;omega)).mono ?_;rintro e w3 ⟨rfl,Qy,hk3⟩;have Wn:Hid (Qc P.B P.ob w w3):=(Ws.out.trans (.of HE2.out.bd.size HD2.out)).trans hk3;have Qr:=Qa (((Qc.of HE2.out.bd.size HD2.out).trans hk3).held Qh.out Qm.out (by decide));have Qj:=Qa (HE2.out.keep ((Qc.of HE2.out.bd.size HD2.out).trans hk3) Qy);clear Qy hk3;have c0:=Qr.out.at_ (j:=0) rfl;have cX:=Qj.out.xc.at_ (j:=0) rfl;have cL:=Qj.out.lc.at_ (j:=0) rfl;rw [HN.out.base]at cL;have Z7:=Qa (Qj.out.since (Q5 w3 1 _));have Yq:Hid (Qc P.B P.ob w w3.drew):=Wn.out.trans (.of Qj.out.bd.size (Q5 w3 1 _));have hsa:=λw'=>Ns nb no P.n P.c i hci w';have hsl:=λw'=>Iy nb no P.n P.c i hci w';have hwr:IntKind.i64.wrap ((i:Int)+1)=(i:Int)+1:=Go.IntWalk.i64_in _ (by omega);clear hcap hci hfw;go_wp2_with fail;go_region_with (first
  |(go_at_call 36;refine (Ay.out _ _ Z7.out nb no HN.out.base _).mono ?_;rintro e w9 ⟨rfl,Ju⟩;have Jy:=Qa (Z7.out.since Ju);have Ei:Hid (Qc P.B P.ob w w9):=Yq.out.trans (.of Z7.out.bd.size Ju);have U9:=Jy.out.xc.at_ (j:=0) rfl;clear Ju)
  |(go_at_call 15;refine (Yb X Jy.out.bd (by have h1:=HL.out;rw [Qe.out]at h1;simp only [Qd,Qf,Qk]at h1 ⊢;omega)).mono ?_;rintro e Fe ⟨rfl,Ar,hk10⟩;have E8:Hid (Qc P.B P.ob w Fe):=Ei.out.trans hk10;have E5:=Qa (Jy.out.keep hk10 Ar);clear Ar hk10))
 all_goals
  go_wp2_with fail;go_end0;refine ⟨rfl,?_,E8.out⟩;have h9:=E5.out;rw [Js]at h9;exact h9
theorem Qmd {P:Pl} {i:Nat} (h:Qg P.l i 3 0 [] []):Yr P i Ex.nil:=by
 intro t w hE hl;have hhd:=Qlv h;obtain ⟨X,hX⟩:=Qb Ex.nil.txt;rw [<-hX]at hhd hl ⊢;have Qe:Hid (X=[]++X):=by show _=_;rw [Ba]
 clear hX;have hkk:=h.ks;have hk4:(nd P.l i).kind<=4:=by rw [h.k];decide
 have Wx:=Qa h.hi;have hcap:(i:Int)+1<=(P.c:Int):=by have:=hE.cap;have:=hE.len;have:=h.hi;omega
 have hci:i+1<=P.c:=by omega
 have hfw:(i:Int)+1<=1000000000:=by have:=hE.few;have:=hE.len;have:=h.hi;omega
 have Ay:=Qa (λ(t':List UInt8) (w':World) (hE':Ya P t' w') (nb no:Nat) (ha:P.a=some ⟨nb,no,none⟩) (c:Nat)=>Oc hE' h.hi hkk hk4 ha c);rw [hhd]at Ay;clear hhd hkk hk4;obtain ⟨nb,no,ka,kc,at_,hN⟩:=Zx hE h;have HE:=Qa hE;have HN:=Qa hN;have HL:=Qa hl;have hin:(i:Int)<(P.n:Int):=by have:=hE.len;have:=h.hi;omega
 clear hE hN hl h;have cL:=HE.out.lc.at_ (j:=0) rfl;rw [HN.out.base]at cL;obtain ⟨c0,c1,c2,c3,c4⟩:=HN.out.cells t w HE.out;have c1:w.cell? ⟨nb,no+i*5+1,none⟩=some (.slice ka 0 kc):=c1;obtain ⟨SB,hsb⟩:=Qb (⟨([]:List UInt8).toArray⟩:ByteArray);rw [<-hsb]at c3;have Wq:Hid (SB.data.toList=[]):=by show _=_;rw [hsb]
 clear hsb;have Zf:Hid (∀w',Below w.heap.size w w'->Calls prog 11 #[.agg #[.int .i64 3,.slice ka 0 kc,.int .i64 0,.string SB,.int .i64 at_]] w' λe w''=>e= .returned (.int .i64 ((7:Nat):Int))/\Below w'.heap.size w' w''):=by intro w' hb;have h1:=Vq 3 0 ka 0 kc SB at_ w' ⟨HE.out.tabs.tabs.below (HE.out.since hb).below,Wm HE.out.tabs.heads (HE.out.since hb).below,Wm HE.out.tabs.strs (HE.out.since hb).below⟩;rw [show Yf 3 0=7 from rfl]at h1;exact h1
 go_enter func35,ntmps35;go_wp2_with fail;obtain ⟨w1,hw1⟩:=Qb (w.alloc (.cells #[.int .i64 3,.slice ka 0 kc,.int .i64 0,.string SB,.int .i64 at_] 25));obtain ⟨xn,hxn⟩:=Qb w.heap.size;have HB1:Hid (Below w.heap.size w w1):=by rw [hw1];exact Qn
 have Qs:Hid (Held w1 xn 25 #[.int .i64 3,.slice ka 0 kc,.int .i64 0,.string SB,.int .i64 at_]):=by rw [hw1,hxn];exact Held.new w _ _
 have Qm:Hid (xn≠P.ob):=by have:=HE.out.bd.lt;show _≠_;omega
 rw [<-hw1,<-hxn];clear hw1 hxn c0 c1 c2 c3 c4 cL;refine (Zf.out w1 HB1.out).mono ?_;rintro e w2 ⟨rfl,hb2⟩;have HE2:=Qa ((HE.out.since HB1.out).since hb2);have Ws:Hid (Qc P.B P.ob w w2):=(Qc.of HE.out.bd.size HB1.out).trans (.of (HE.out.since HB1.out).bd.size hb2);have Qh:=Qa (Qs.out.since hb2);clear hb2;have c0:=Qh.out.at_ (j:=0) rfl;have cX:=HE2.out.xc.at_ (j:=0) rfl;have cH:w2.cell? ⟨0,3,none⟩=some (.string ⟨([]:List UInt8).toArray⟩):=Wv (Wm HE2.out.tabs.heads HE2.out.below) (Z0 3 (by decide));go_wp2_with fail;go_still_tail 5,(by kernel_rfl);change wpList _ _ _ _ _ w2.drew;obtain ⟨v2,hv2⟩:=Qb w2.drew;have HD2:Hid (Below w2.heap.size w2 v2):=by rw [hv2];exact Q5 w2 1 _
 rw [<-hv2];clear hv2 c0 cX cH;go_wp2_with fail;refine (Yb [] (HE2.out.since HD2.out).bd (by have h1:=HL.out;rw [Qe.out]at h1;simp only [Qd,Qf,Qk]at h1 ⊢;omega)).mono ?_;rintro e w3 ⟨rfl,Qy,hk3⟩;have Wn:Hid (Qc P.B P.ob w w3):=(Ws.out.trans (.of HE2.out.bd.size HD2.out)).trans hk3;have Qr:=Qa (((Qc.of HE2.out.bd.size HD2.out).trans hk3).held Qh.out Qm.out (by decide));have Qj:=Qa (HE2.out.keep ((Qc.of HE2.out.bd.size HD2.out).trans hk3) Qy);clear Qy hk3;have c0:=Qr.out.at_ (j:=0) rfl;have cX:=Qj.out.xc.at_ (j:=0) rfl;have cL:=Qj.out.lc.at_ (j:=0) rfl;rw [HN.out.base]at cL;have Z7:=Qa (Qj.out.since (Q5 w3 1 _));have Yq:Hid (Qc P.B P.ob w w3.drew):=Wn.out.trans (.of Qj.out.bd.size (Q5 w3 1 _));have hsa:=λw'=>Ns nb no P.n P.c i hci w';have hsl:=λw'=>Iy nb no P.n P.c i hci w';have hwr:IntKind.i64.wrap ((i:Int)+1)=(i:Int)+1:=Go.IntWalk.i64_in _ (by omega);clear hcap hci hfw;go_wp2_with fail;go_region_with (first
  |(go_at_call 36;refine (Ay.out _ _ Z7.out nb no HN.out.base _).mono ?_;rintro e w9 ⟨rfl,Ju⟩;have Jy:=Qa (Z7.out.since Ju);have Ei:Hid (Qc P.B P.ob w w9):=Yq.out.trans (.of Z7.out.bd.size Ju);have U9:=Jy.out.xc.at_ (j:=0) rfl;clear Ju)
  |(go_at_call 15;refine (Yb X Jy.out.bd (by have h1:=HL.out;rw [Qe.out]at h1;simp only [Qd,Qf,Qk]at h1 ⊢;omega)).mono ?_;rintro e Fe ⟨rfl,Ar,hk10⟩;have E8:Hid (Qc P.B P.ob w Fe):=Ei.out.trans hk10;have E5:=Qa (Jy.out.keep hk10 Ar);clear Ar hk10))
 all_goals
  go_wp2_with fail;go_end0;refine ⟨rfl,?_,E8.out⟩;have h9:=E5.out;rw [Js]at h9;exact h9
theorem Qow {P:Pl} {i:Nat} {s:List UInt8} (h:Qg P.l i 4 0 s []) (hs:Y6 s):Yr P i (Ex.var s):=by
 intro t w hE hl;have hhd:=Qid h hs;obtain ⟨X,hX⟩:=Qb ((Ex.var s).txt);rw [<-hX]at hhd hl ⊢;have Qe:Hid (X=[]++X):=by show _=_;rw [Ba]
 clear hX;have hkk:=h.ks;have hk4:(nd P.l i).kind<=4:=by rw [h.k];decide
 have Wx:=Qa h.hi;have hcap:(i:Int)+1<=(P.c:Int):=by have:=hE.cap;have:=hE.len;have:=h.hi;omega
 have hci:i+1<=P.c:=by omega
 have hfw:(i:Int)+1<=1000000000:=by have:=hE.few;have:=hE.len;have:=h.hi;omega
 have Ay:=Qa (λ(t':List UInt8) (w':World) (hE':Ya P t' w') (nb no:Nat) (ha:P.a=some ⟨nb,no,none⟩) (c:Nat)=>Oc hE' h.hi hkk hk4 ha c);rw [hhd]at Ay;clear hhd hkk hk4;obtain ⟨nb,no,ka,kc,at_,hN⟩:=Zx hE h;have HE:=Qa hE;have HN:=Qa hN;have HL:=Qa hl;have hin:(i:Int)<(P.n:Int):=by have:=hE.len;have:=h.hi;omega
 clear hE hN hl h;have cL:=HE.out.lc.at_ (j:=0) rfl;rw [HN.out.base]at cL;obtain ⟨c0,c1,c2,c3,c4⟩:=HN.out.cells t w HE.out;have c1:w.cell? ⟨nb,no+i*5+1,none⟩=some (.slice ka 0 kc):=c1;obtain ⟨SB,hsb⟩:=Qb (⟨(s:List UInt8).toArray⟩:ByteArray);rw [<-hsb]at c3;have Wq:Hid (SB.data.toList=s):=by show _=_;rw [hsb]
 clear hsb;have Zf:Hid (∀w',Below w.heap.size w w'->Calls prog 11 #[.agg #[.int .i64 4,.slice ka 0 kc,.int .i64 0,.string SB,.int .i64 at_]] w' λe w''=>e= .returned (.int .i64 ((7:Nat):Int))/\Below w'.heap.size w' w''):=by intro w' hb;have h1:=Vq 4 0 ka 0 kc SB at_ w' ⟨HE.out.tabs.tabs.below (HE.out.since hb).below,Wm HE.out.tabs.heads (HE.out.since hb).below,Wm HE.out.tabs.strs (HE.out.since hb).below⟩;rw [show Yf 4 0=7 from rfl]at h1;exact h1
 go_enter func35,ntmps35;go_wp2_with fail;obtain ⟨w1,hw1⟩:=Qb (w.alloc (.cells #[.int .i64 4,.slice ka 0 kc,.int .i64 0,.string SB,.int .i64 at_] 25));obtain ⟨xn,hxn⟩:=Qb w.heap.size;have HB1:Hid (Below w.heap.size w w1):=by rw [hw1];exact Qn
 have Qs:Hid (Held w1 xn 25 #[.int .i64 4,.slice ka 0 kc,.int .i64 0,.string SB,.int .i64 at_]):=by rw [hw1,hxn];exact Held.new w _ _
 have Qm:Hid (xn≠P.ob):=by have:=HE.out.bd.lt;show _≠_;omega
 rw [<-hw1,<-hxn];clear hw1 hxn c0 c1 c2 c3 c4 cL;refine (Zf.out w1 HB1.out).mono ?_;rintro e w2 ⟨rfl,hb2⟩;have HE2:=Qa ((HE.out.since HB1.out).since hb2);have Ws:Hid (Qc P.B P.ob w w2):=(Qc.of HE.out.bd.size HB1.out).trans (.of (HE.out.since HB1.out).bd.size hb2);have Qh:=Qa (Qs.out.since hb2);clear hb2;have c0:=Qh.out.at_ (j:=0) rfl;have cX:=HE2.out.xc.at_ (j:=0) rfl;have cH:w2.cell? ⟨0,4,none⟩=some (.string ⟨([]:List UInt8).toArray⟩):=Wv (Wm HE2.out.tabs.heads HE2.out.below) (Z0 4 (by decide));go_wp2_with fail;go_still_tail 5,(by kernel_rfl);change wpList _ _ _ _ _ w2.drew;obtain ⟨v2,hv2⟩:=Qb w2.drew;have HD2:Hid (Below w2.heap.size w2 v2):=by rw [hv2];exact Q5 w2 1 _
 rw [<-hv2];clear hv2 c0 cX cH;go_wp2_with fail;refine (Yb [] (HE2.out.since HD2.out).bd (by have h1:=HL.out;rw [Qe.out]at h1;simp only [Qd,Qf,Qk]at h1 ⊢;omega)).mono ?_;rintro e w3 ⟨rfl,Qy,hk3⟩;have Wn:Hid (Qc P.B P.ob w w3):=(Ws.out.trans (.of HE2.out.bd.size HD2.out)).trans hk3;have Qr:=Qa (((Qc.of HE2.out.bd.size HD2.out).trans hk3).held Qh.out Qm.out (by decide));have Qj:=Qa (HE2.out.keep ((Qc.of HE2.out.bd.size HD2.out).trans hk3) Qy);clear Qy hk3;have c0:=Qr.out.at_ (j:=0) rfl;have cX:=Qj.out.xc.at_ (j:=0) rfl;have cL:=Qj.out.lc.at_ (j:=0) rfl;rw [HN.out.base]at cL;have Z7:=Qa (Qj.out.since (Q5 w3 1 _));have Yq:Hid (Qc P.B P.ob w w3.drew):=Wn.out.trans (.of Qj.out.bd.size (Q5 w3 1 _));have hsa:=λw'=>Ns nb no P.n P.c i hci w';have hsl:=λw'=>Iy nb no P.n P.c i hci w';have hwr:IntKind.i64.wrap ((i:Int)+1)=(i:Int)+1:=Go.IntWalk.i64_in _ (by omega);clear hcap hci hfw;go_wp2_with fail;go_region_with (first
  |(go_at_call 36;refine (Ay.out _ _ Z7.out nb no HN.out.base _).mono ?_;rintro e w9 ⟨rfl,Ju⟩;have Jy:=Qa (Z7.out.since Ju);have Ei:Hid (Qc P.B P.ob w w9):=Yq.out.trans (.of Z7.out.bd.size Ju);have U9:=Jy.out.xc.at_ (j:=0) rfl;clear Ju)
  |(go_at_call 15;refine (Yb X Jy.out.bd (by have h1:=HL.out;rw [Qe.out]at h1;simp only [Qd,Qf,Qk]at h1 ⊢;omega)).mono ?_;rintro e Fe ⟨rfl,Ar,hk10⟩;have E8:Hid (Qc P.B P.ob w Fe):=Ei.out.trans hk10;have E5:=Qa (Jy.out.keep hk10 Ar);clear Ar hk10))
 all_goals
  go_wp2_with fail;go_end0;refine ⟨rfl,?_,E8.out⟩;have h9:=E5.out;rw [Js]at h9;exact h9
theorem Nn {α:Type} {R:Int->α->Prop} {d:α} {ks:List Int} {xs:List α} (h:Xr R ks xs): ∀j,j<ks.length->R (ks.getD j 0) (xs.getD j d):=by
 induction h with
 |nil=>intro j hj;exact absurd hj (Nat.not_lt_zero j)
 |cons h1 _ ih=>
  intro j hj;cases j with
  |zero=>exact h1
  |succ j=>exact ih j (Nat.lt_of_succ_lt_succ hj)
theorem Nt {ks:List Int} {j:Nat} (hj:j<ks.length):ks[j]? =some (ks.getD j 0):=by rw [Yh,Za hj];rfl
theorem Ll {ks:List Int} {j:Nat} (hj:j<ks.length):ks.getD j 0∈ks:=by rw [Yh,Za hj];exact Ca hj
theorem Qcx {P:Pl} (H:Qo P.l): ∀N i,i<N->i<P.l.length->Qt (nd P.l i).kind=true-> ∀x,XE P.l (i:Int) x->Yr P i x:=by
 intro N
 induction N with
 |zero=>intro i h;omega
 |succ N ih=>
  intro i Cv hi hx e he;have kid: ∀k∈(nd P.l i).kids,Qt (Qz P.l k)=true-> ∀x,XE P.l k x-> ∃q:Nat,k=(q:Int)/\q<P.l.length/\Qt (nd P.l q).kind=true/\XE P.l (q:Int) x/\Yr P q x:=by intro k hk hkx x hX;have hk2:=H.kid hi hk;obtain ⟨q,rfl⟩: ∃q:Nat,k=q:=⟨k.toNat,by omega⟩;have hq:q<P.l.length:=(by omega);have Kj:Qt (nd P.l q).kind=true:=hkx;exact ⟨q,rfl,hq,Kj,hX,ih q (by omega) hq Kj x hX⟩
  have hin:=Ke hx;have hcases:(nd P.l i).kind=1\/(nd P.l i).kind=2\/(nd P.l i).kind=3\/(nd P.l i).kind=4\/(nd P.l i).kind=5\/(nd P.l i).kind=6\/(nd P.l i).kind=7\/(nd P.l i).kind=8\/(nd P.l i).kind=9\/(nd P.l i).kind=10\/(nd P.l i).kind=11:=by omega
  rcases hcases with hK |hK |hK |hK |hK |hK |hK |hK |hK |hK |hK
  ·obtain ⟨m,ha,hX⟩:=H.k1 hi hK;rw [he.one hX];exact Qpk ha
  ·obtain ⟨b,ha,hX⟩:=H.k2 hi hK;rw [he.one hX];exact Qj1 rfl ha
  ·obtain ⟨ha,hX⟩:=H.k3 hi hK;rw [he.one hX];exact Qmd ha
  ·obtain ⟨s,hs,ha,hX⟩:=H.k4 hi hK;rw [he.one hX];exact Qow ha hs
  ·obtain ⟨op,a,b,x,y,h1,h16,ha,hxa,hxb,hX,hY,hE⟩:=H.k5 hi hK;rw [he.one hE];obtain ⟨q,rfl,hq,Kj,hX,hp⟩:=kid a (by rw [ha.ks];simp) hxa x hX;obtain ⟨r,rfl,hr,hrx,hY,hp'⟩:=kid b (by rw [ha.ks];simp) hxb y hY;exact Qmo ha h1 h16 hq hX Kj hp hr hY hrx hp'
  ·obtain ⟨a,x,ha,hxa,hX,hE⟩:=H.k6 hi hK;rw [he.one hE];obtain ⟨q,rfl,hq,Kj,hX,hp⟩:=kid a (by rw [ha.ks];simp) hxa x hX;exact Qjd ha hq hX Kj hp
  ·obtain ⟨a,x,ha,hxa,hX,hE⟩:=H.k7 hi hK;rw [he.one hE];obtain ⟨q,rfl,hq,Kj,hX,hp⟩:=kid a (by rw [ha.ks];simp) hxa x hX;exact Qjv ha hq hX Kj hp
  ·obtain ⟨a,b,x,y,ha,hxa,hxb,hX,hY,hE⟩:=H.k8 hi hK;rw [he.one hE];obtain ⟨q,rfl,hq,Kj,hX,hp⟩:=kid a (by rw [ha.ks];simp) hxa x hX;obtain ⟨r,rfl,hr,hrx,hY,hp'⟩:=kid b (by rw [ha.ks];simp) hxb y hY;exact Qqn ha hq hX Kj hp hp'
  ·obtain ⟨a,x,ha,hxa,hX,hE⟩:=H.k9 hi hK;rw [he.one hE];refine Qja (xs:=[x]) ha (by simp) (by rw [Ex.txt,Q8,Q8];simp [Ij]) rfl (by simp) ?_;intro j hj;have hj0:j=0:=(by simp at hj;exact hj);subst hj0;obtain ⟨q,rfl,hq,Kj,hX,hp⟩:=kid a (by rw [ha.ks];simp) hxa x hX;exact ⟨q,rfl,hp⟩
  ·obtain ⟨a,x,ha,hxa,hX,hE⟩:=H.k10 hi hK;rw [he.one hE];refine Qho (xs:=[x]) ha (by simp) (by rw [Ex.txt,Q8,Q8];simp [Hf]) rfl (by simp) ?_;intro j hj;have hj0:j=0:=(by simp at hj;exact hj);subst hj0;obtain ⟨q,rfl,hq,Kj,hX,hp⟩:=kid a (by rw [ha.ks];simp) hxa x hX;exact ⟨q,rfl,hp⟩
  ·obtain ⟨s,ks,xs,hs,h8,ha,hkx,hX,hE⟩:=H.k11 hi hK;rw [he.one hE];refine Qit (xs:=xs) ha hs.short (by rw [Ex.txt];simp) (Cw hX) h8 ?_;intro j hj;have hm:=Ll hj;obtain ⟨q,hq1,hq,Kj,hXq,hp⟩:=kid (ks.getD j 0) (by rw [ha.ks];exact hm) (hkx _ hm) _ (Nn (d:=Ex.nil) hX j hj);exact ⟨q,by rw [Nt hj,hq1],hp⟩
structure Ql where
 P:Pl
 lb:Nat
 xb:Nat
 sb:Nat
 eb:Nat
structure X0 (Q:Ql) (t:List UInt8) (w:World):Prop where
 ee:Ya Q.P t w
 lc:Held w Q.lb 22 #[.slice Q.P.a Q.P.n Q.P.c]
 xc:Held w Q.xb 36 #[.pointer (some ⟨Q.P.ob,0,none⟩)]
 sc:Held w Q.sb 40 #[.func (.func 29) #[] #[.pointer (some ⟨Q.lb,0,none⟩),.pointer (some ⟨Q.xb,0,none⟩),.pointer (some ⟨Q.sb,0,none⟩),.pointer (some ⟨Q.eb,0,none⟩)]]
 ec:Held w Q.eb 50 #[.func (.func 35) #[] #[.pointer (some ⟨Q.P.lb,0,none⟩),.pointer (some ⟨Q.P.xb,0,none⟩),.pointer (some ⟨Q.P.bb,0,none⟩),.pointer (some ⟨Q.P.pb,0,none⟩)]]
 lo:Q.lb≠Q.P.ob
 xo:Q.xb≠Q.P.ob
 so:Q.sb≠Q.P.ob
 eo:Q.eb≠Q.P.ob
theorem X0.step {Q:Ql} {t t':List UInt8} {w w':World} (h:X0 Q t w) (hk:Qc Q.P.B Q.P.ob w w') (he:Ya Q.P t' w'):X0 Q t' w':=
 ⟨he,hk.held h.lc h.lo (by decide),hk.held h.xc h.xo (by decide),hk.held h.sc h.so (by decide),hk.held h.ec h.eo (by decide),h.lo,h.xo,h.so,h.eo⟩
theorem X0.keep {Q:Ql} {t t':List UInt8} {w w':World} (h:X0 Q t w) (hk:Qc Q.P.B Q.P.ob w w') (hb:Bd Q.P.B Q.P.ob t' w'):X0 Q t' w':=h.step hk (h.ee.keep hk hb)
theorem X0.since {Q:Ql} {t:List UInt8} {w w':World} (h:X0 Q t w) (hb:Below w.heap.size w w'):X0 Q t w':=h.step (.of h.ee.bd.size hb) (h.ee.since hb)
def Qce (Q:Ql) (t:List UInt8) (w:World) (e:Ending) (w':World):Prop:=e= .returned (.tuple #[])/\X0 Q t w'/\Qc Q.P.B Q.P.ob w w'
def Xf (Q:Ql) (q d:Nat) (T:List UInt8):Prop:= ∀(t:List UInt8) (w:World),X0 Q t w->t.length+T.length<=140737488355328->
 Calls prog 29 #[.int .i64 (q:Int),.int .i64 (d:Int),.pointer (some ⟨Q.lb,0,none⟩),.pointer (some ⟨Q.xb,0,none⟩),.pointer (some ⟨Q.sb,0,none⟩),.pointer (some ⟨Q.eb,0,none⟩)] w (Qce Q (t++T) w)
theorem Yr.st {Q:Ql} {q:Nat} {x:Ex} (h:Yr Q.P q x) {t:List UInt8} {w:World} (hE:X0 Q t w) (hl:t.length+x.txt.length<=140737488355328):
  Calls prog 35 #[.int .i64 (q:Int),.pointer (some ⟨Q.P.lb,0,none⟩),.pointer (some ⟨Q.P.xb,0,none⟩),.pointer (some ⟨Q.P.bb,0,none⟩),.pointer (some ⟨Q.P.pb,0,none⟩)] w (Qce Q (t++x.txt) w):=
 (h t w hE.ee hl).mono λe w' h=>⟨h.1,hE.step h.2.2 h.2.1,h.2.2⟩
theorem Qf0: ∀d,Lib.repeatL [9] d=tabs d
 | 0=>rfl
 |d+1=>by show [9]++Lib.repeatL [9] d=_;rw [Qf0 d];rfl
theorem Qgq (d:Nat):(tabs d).length=d:=by unfold tabs;simp
theorem Qf7 (d:Nat) (w:World) (hd:d<=140737488355328):
  Calls prog 30 #[.string ⟨#[9]⟩,.int .i64 (d:Int)] w λe w'=>e= .returned (.string ⟨(tabs d).toArray⟩)/\Below w.heap.size w w':=by
 refine (Tryd.strings_Repeat ⟨#[9]⟩ d w (by omega) (by show 1*d<=_;omega)).mono ?_;rintro e w' ⟨he,hb⟩;refine ⟨?_,hb⟩;rw [he];show Ending.returned (.string ⟨(Lib.repeatL [9] d).toArray⟩)=_;rw [Qf0]
theorem Tp (b o m c:Nat) (h:m+1<=c) (hm:0<m) (w:World):
  (Instr.slice 23 (.slice (some ⟨b,o,none⟩) (m+1) c) (some (.int .i64 1)) none none).run prog w= .ok (.slice (some ⟨b,o+1,none⟩) m (c-1)) w:=by
 rw [run_slice_l (P:=prog) w 23 _ (m+1) c (by kernel_rfl) .i64 1 (by omega) (by omega)];have he:prog.elem 23=3:=by kernel_rfl
 have hs:Sem.run prog (Go.sizeOf (prog.elem 23)) w=Result.ok 1 w:=by rw [he];exact Tryd.sizeOf3 w
 rw [hs];show Result.ok (sliced _ _ _ _ _) w=_;unfold sliced;have e1:(1:Int).toNat=1:=rfl;rw [e1,Q6 (by omega),Nat.add_sub_cancel];rfl
theorem Qa3 (b o m c:Nat) (h:m+1<=c) (hm:0<m) (w:World):
  (Instr.sliceAt 23 (.slice (some ⟨b,o,none⟩) (m+1) c) (some (.int .i64 1)) none none).run prog w= .ok (.slice (some ⟨b,o+1,none⟩) m (c-1)) w:=by
 rw [run_sliceAt_slice (P:=prog) w 23 _ _ _ _ (by kernel_rfl)];exact Tp b o m c h hm w
end
end Go.Proofs.YtdncpkkhkbijfaaDoor
