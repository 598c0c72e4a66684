import Derived.Test.YtdncpkkhkbijfaaGreatDoorAg21
open Go.Proofs.Tryz
set_option linter.all false
set_option maxHeartbeats 0
set_option maxRecDepth 100000
namespace Go.Proofs.YtdncpkkhkbijfaaGreatDoor
section
open Go.RowKit
def four (k:Nat) (S:ByteArray) (n p:Nat):Array Value:= #[.int .i64 (k:Int),.string S,.int .i64 (n:Int),.int .i64 (p:Int)]
def Qm5 (t:Tk):Array Value:=four t.kind ⟨t.text.toArray⟩ t.n t.place
def Qsf (r:List UInt8) (q:Nat) (e:Ending):Prop:=
 (er r=0/\e= .returned (.tuple #[.agg (Qm5 (tk r q)),.int .i64 0]))\/(er r≠0/\e= .returned (.tuple #[.agg (four 0 ⟨#[]⟩ 0 0),.int .i64 (er r:Int)]))
structure Duo (w V:World) (A B k:Nat) (S:ByteArray) (n p:Nat):Prop where
 out:Held V A 69 (four 0 ⟨#[]⟩ 0 0)
 own:Held V B 69 (four k S n p)
 Ti:Below w.heap.size w V
 Qfp:w.heap.size<=A
 Qo3:w.heap.size<=B
 ne:A≠B
theorem Duo.tell {w V:World} {A B k:Nat} {S:ByteArray} {n p:Nat} (h:Duo w V A B k S n p) (k':Nat) (S':ByteArray) (n' p':Nat):
  ∃W',W'=((((V.setCell ⟨A,0,none⟩ (.int .i64 (k':Int))).setCell ⟨A,1,none⟩ (.string S')).setCell ⟨A,2,none⟩ (.int .i64 (n':Int))).setCell ⟨A,3,none⟩ (.int .i64 (p':Int)))/\Held W' A 69 (four k' S' n' p')/\Below w.heap.size w W':=
 ⟨_,rfl,(((h.out.set 0 _).set 1 _).set 2 _).set 3 _,(((h.Ti.setCell h.Qfp _).setCell h.Qfp _).setCell h.Qfp _).setCell h.Qfp _⟩
theorem Duo.num {w V:World} {A B k:Nat} {S:ByteArray} {n p:Nat} (h:Duo w V A B k S n p) (m:Nat):Duo w (V.setCell ⟨B,2,none⟩ (.int .i64 (m:Int))) A B k S m p:=
 ⟨h.out.off h.ne _ _,h.own.set 2 _,h.Ti.setCell h.Qo3 _,h.Qfp,h.Qo3,h.ne⟩
theorem Duo.kind {w V:World} {A B k:Nat} {S:ByteArray} {n p:Nat} (h:Duo w V A B k S n p) (m:Nat):Duo w (V.setCell ⟨B,0,none⟩ (.int .i64 (m:Int))) A B m S n p:=
 ⟨h.out.off h.ne _ _,h.own.set 0 _,h.Ti.setCell h.Qo3 _,h.Qfp,h.Qo3,h.ne⟩
theorem Qmp {r:List UInt8} {q:Nat} {e:Ending} (k:Nat) (S:ByteArray) (n:Nat) (he:er r=0) (hk:Bl (k0 r) (r.take (ln r))=k) (hS:S=⟨(r.take (ln r)).toArray⟩) (hn:Kv (k0 r) (r.take (ln r))=n) (h:e= .returned (.tuple #[.agg (four k S n q),.int .i64 0])):Qsf r q e:=by subst hk hS hn h;exact .inl ⟨he,rfl⟩
theorem Qsx {r:List UInt8} {q:Nat} {e:Ending} (x:Nat) (he:er r=x) (hx:x≠0) (h:e= .returned (.tuple #[.agg (four 0 ⟨#[]⟩ 0 0),.int .i64 (x:Int)])):Qsf r q e:=by subst he h;exact .inr ⟨hx,rfl⟩
theorem Wbq (S:ByteArray) (b:List UInt8) (hb:S=⟨b.toArray⟩) (w:World) (hT:Tab w):
  Calls prog 90 #[.string S] w λe w'=>e= .returned (.bool (isKey b))/\w'=w:=by
 subst hb;exact Wmp b w hT
theorem Woj (S:ByteArray) (b:List UInt8) (hb:S=⟨b.toArray⟩) (w:World) (hs:S.size<=1000000000):
  Calls prog 89 #[.string S] w λe w'=>e= .returned (Mr b)/\w'=w:=by
 subst hb;exact Wes _ w hs
theorem Wrc (r:List UInt8):k0 r=1\/k0 r=2\/k0 r=4:=by
 cases r with
 |nil=>exact .inr (.inr rfl)
 |cons c cs=>
  show (if isLt c.toNat then 1 else if Yn c.toNat then 2 else 4)=1\/_\/_
  repeat' split
  all_goals simp [k0, *]
theorem Wby (s:ByteArray) (q:Nat) (w:World) (hT:Tab w) (hs:s.size<=1000000) (hq:q<s.size):
  Calls prog 51 #[.string s,.int .i64 (q:Int)] w λe w'=>Qsf (s.data.toList.drop q) q e/\Below w.heap.size w w':=by
 obtain ⟨r,hr⟩:=Qb (s.data.toList.drop q);have hln:q+ln r<=s.size:=by have:=Qgf r;rw [hr,Vf,Qa3]at this;rw [hr];omega
 obtain ⟨E,hE⟩:=Qb (q+ln r);rw [<-hE]at hln;have hqE:q<=E:=by omega
 obtain ⟨k,hk⟩:=Qb (k0 r);have hk3:k=1\/k=2\/k=4:=by rw [hk];exact Wrc r
 obtain ⟨S,hS⟩:=Qb (s.extract q E);have hSs:S.size=E-q:=by rw [hS,ByteArray.size_extract];omega
 have hSb:S=⟨(r.take (ln r)).toArray⟩:=by rw [hS,Wg4];unfold cut;rw [hE,List.drop_take,hr,show q+ln (s.data.toList.drop q)-q=ln (s.data.toList.drop q) by omega]
 rw [<-hr];have HR:=Qa hr;have HE:=Qa hE;have HK:=Qa hk;have Yj:=Qa hk3;have HS:=Qa hS;have C8:=Qa hSs;have Zj:=Qa hSb;have HT:=Qa hT;clear hr hE hk hS hSs hSb hT hk3;go_enter func51,ntmps51;rw [Qz 2,Qz 3,Qz 14];go_wp2_with fail;obtain ⟨W,hW⟩:=Qb (w.alloc (.cells #[.int .i64 0,.string ⟨#[]⟩,.int .i64 0,.int .i64 0] 69));rw [<-hW];have HW:=Qa hW;clear hW;refine (Wmx s q W (by omega) hq).mono ?_;rintro e w1 ⟨rfl,hw1⟩;rw [hw1,<-HR.out,<-HE.out,<-HK.out];clear hw1 w1;go_wp2_with fail;refine Qn ?_;obtain ⟨cap,C,fr,Woq,hback⟩:=Wnv W (s.extract q E) (E-q) (by rw [ByteArray.size_extract];omega);go_wp2_with fail;refine Qn ?_;clear Woq hback;rw [<-HS.out];obtain ⟨V,hV⟩:=Qb (((W.alloc (.cells C 5 fr)).alloc (.cells #[.int .i64 (k:Int),.string S,.int .i64 0,.int .i64 (q:Int)] 69)).drew);obtain ⟨B,hB⟩:=Qb (W.heap.size+1);obtain ⟨A,hA⟩:=Qb w.heap.size;have HD:Hid (Duo w V A B k S 0 q):=by
  have hWs:W.heap.size=w.heap.size+1:=by rw [HW.out];exact Array.size_push _
  refine ⟨?_,?_,?_,by omega,by omega,by omega⟩
  ·rw [hV,hA,HW.out];exact (((Held.new _ _ _).alloc _).alloc _).drew
  ·rw [hV,hB];have:=Held.new (W.alloc (.cells C 5 fr)) 69 (four k S 0 q);rw [show (W.alloc (.cells C 5 fr)).heap.size=W.heap.size+1 from Array.size_push _]at this;exact this.drew
  ·rw [hV,HW.out];have h1:=(Below.refl w.heap.size w).alloc (Qh _) (.cells #[.int .i64 0,.string ⟨#[]⟩,.int .i64 0,.int .i64 0] 69);have h2:=h1.alloc h1.size (.cells C 5 fr);have h3:=h2.alloc h2.size (.cells #[.int .i64 (k:Int),.string S,.int .i64 0,.int .i64 (q:Int)] 69);exact h3.trans (Wq _ 1 _)
 rw [<-hV,<-hB,<-hA];have HTV:Hid (Tab V):=HT.out.below (HD.out.Ti);clear hV hB hA HW HT;have a0:V.cell? ⟨A,0,none⟩=some (.int .i64 ((0:Nat):Int)):=HD.out.out.at_ rfl;have a1:V.cell? ⟨A,1,none⟩=some (.string ⟨#[]⟩):=HD.out.out.at_ rfl;have a2:V.cell? ⟨A,2,none⟩=some (.int .i64 ((0:Nat):Int)):=HD.out.out.at_ rfl;have a3:V.cell? ⟨A,3,none⟩=some (.int .i64 ((0:Nat):Int)):=HD.out.out.at_ rfl;have z0:=HD.out.out.frozen 0;have z1:=HD.out.out.frozen 1;have z2:=HD.out.out.frozen 2;have z3:=HD.out.out.frozen 3;by_cases h0:E=q
 ·
  have e0:((E:Int)==(q:Int))=true:=by rw [h0];simp
  have H6:Hid (er r=6):=by show er r=6;unfold er Kw;exact Qk (by have:=HE.out;omega)
  clear h0;go_wp2_with fail;obtain ⟨W',hW',hH,hBel⟩:=HD.out.tell 0 ⟨#[]⟩ 0 0;simp only [Int.natCast_zero]at hW';rw [<-hW'];have c0:W'.cell? ⟨A,0,none⟩=some (.int .i64 ((0:Nat):Int)):=hH.at_ rfl;have c1:W'.cell? ⟨A,1,none⟩=some (.string ⟨#[]⟩):=hH.at_ rfl;have c2:W'.cell? ⟨A,2,none⟩=some (.int .i64 ((0:Nat):Int)):=hH.at_ rfl;have c3:W'.cell? ⟨A,3,none⟩=some (.int .i64 ((0:Nat):Int)):=hH.at_ rfl;clear hW' hH;exact bodyPost_ret (v:=.tuple #[.agg (four 0 ⟨#[]⟩ 0 0),.int .i64 6]) (by simp [results,results51,go_sem,c0,c1,c2,c3];rfl) rfl ⟨Qsx 6 H6.out (by decide) rfl,hBel⟩
 ·have e0:((E:Int)==(q:Int))=false:=by simp;omega
  have X3:Hid (¬ln r=0):=by show¬ln r=0;have:=HE.out;omega
  clear h0;have b1:V.cell? ⟨B,1,none⟩=some (.string S):=HD.out.own.at_ rfl;have y0:V.cell? ⟨B,0,none⟩=some (.int .i64 (k:Int)):=HD.out.own.at_ rfl;have y2:V.cell? ⟨B,2,none⟩=some (.int .i64 ((0:Nat):Int)):=HD.out.own.at_ rfl;have x0:=HD.out.own.frozen 0;have x2:=HD.out.own.frozen 2;obtain ⟨b,hb⟩:=Qb (r.take (ln r));have Q8b:Hid (S=⟨b.toArray⟩):=by show S=⟨b.toArray⟩;rw [hb];exact Zj.out
  have HB:=Qa hb;clear hb;rcases Yj.out with h1 |h2 |h4
  ·
   subst h1;go_wp2_with fail;refine (Wbq S b Q8b.out V HTV.out).mono ?_;rintro e w1 ⟨rfl,hw1⟩;rw [hw1];clear hw1 w1;cases hkey:isKey b with
   |true=>
    have HKEY:=Qa hkey;clear hkey;go_wp2_with fail;obtain ⟨V',hV'⟩: ∃V',V'=V.setCell ⟨B,0,none⟩ (.int .i64 3):=⟨_,rfl⟩;have Jz:Hid (Duo w V' A B 3 S 0 q):=(by rw [hV'];exact HD.out.kind _);rw [<-hV'];clear hV' a0 a1 a2 a3 z0 z1 z2 z3 HD;clear b1 y0 y2 x0 x2;have Vp:Hid (er r=0):=by show er r=0;unfold er Kw;rw [Qd X3.out,<-HK.out,<-HB.out,Qd (by decide),Qk ⟨rfl,HKEY.out⟩]
    refine Qn ?_;have a0:V'.cell? ⟨A,0,none⟩=some (.int .i64 ((0:Nat):Int)):=Jz.out.out.at_ rfl;have a1:V'.cell? ⟨A,1,none⟩=some (.string ⟨#[]⟩):=Jz.out.out.at_ rfl;have a2:V'.cell? ⟨A,2,none⟩=some (.int .i64 ((0:Nat):Int)):=Jz.out.out.at_ rfl;have a3:V'.cell? ⟨A,3,none⟩=some (.int .i64 ((0:Nat):Int)):=Jz.out.out.at_ rfl;have z0:=Jz.out.out.frozen 0;have z1:=Jz.out.out.frozen 1;have z2:=Jz.out.out.frozen 2;have z3:=Jz.out.out.frozen 3;have b0:V'.cell? ⟨B,0,none⟩=some (.int .i64 ((3:Nat):Int)):=Jz.out.own.at_ rfl;have b1:V'.cell? ⟨B,1,none⟩=some (.string S):=Jz.out.own.at_ rfl;have b2:V'.cell? ⟨B,2,none⟩=some (.int .i64 ((0:Nat):Int)):=Jz.out.own.at_ rfl;have b3:V'.cell? ⟨B,3,none⟩=some (.int .i64 (q:Int)):=Jz.out.own.at_ rfl;go_wp2_with fail;obtain ⟨W',hW',hH,hBel⟩:=Jz.out.tell 3 S 0 q
    try simp only [Int.natCast_zero]at hW'
    try rw [show ((1:Nat):Int)=1 from rfl]at hW'
    try rw [show ((2:Nat):Int)=2 from rfl]at hW'
    try rw [show ((3:Nat):Int)=3 from rfl]at hW'
    try rw [show ((4:Nat):Int)=4 from rfl]at hW'
    rw [<-hW'];have c0:W'.cell? ⟨A,0,none⟩=some (.int .i64 ((3:Nat):Int)):=hH.at_ rfl;have c1:W'.cell? ⟨A,1,none⟩=some (.string S):=hH.at_ rfl;have c2:W'.cell? ⟨A,2,none⟩=some (.int .i64 ((0:Nat):Int)):=hH.at_ rfl;have c3:W'.cell? ⟨A,3,none⟩=some (.int .i64 (q:Int)):=hH.at_ rfl;clear hW' hH;exact bodyPost_ret (v:=.tuple #[.agg (four 3 S 0 q),.int .i64 0]) (by simp [results,results51,go_sem,c0,c1,c2,c3];rfl) rfl ⟨Qmp 3 S 0 Vp.out (by unfold Bl;rw [<-HK.out,<-HB.out];exact Qk ⟨rfl,HKEY.out⟩) Zj.out (by unfold Kv;rw [<-HK.out];rfl) rfl,hBel⟩
   |false=>
    have HKEY:=Qa hkey;clear hkey;by_cases hlong:32<S.size
    ·have hl':(32:Int)<(S.size:Int):=(by omega);have Vp:Hid (er r=3):=by show er r=3;unfold er Kw;have h3:32<ln r:=(by have:=HE.out;have:=C8.out;omega);rw [Qd X3.out,<-HK.out,<-HB.out,Qd (by decide),Qd (λh=>by rw [HKEY.out]at h;exact absurd h.2 (by decide)),Qk ⟨rfl,h3⟩]
     clear hlong;go_wp2_with fail;obtain ⟨W',hW',hH,hBel⟩:=HD.out.tell 0 ⟨#[]⟩ 0 0;simp only [Int.natCast_zero]at hW';rw [<-hW'];have c0:W'.cell? ⟨A,0,none⟩=some (.int .i64 ((0:Nat):Int)):=hH.at_ rfl;have c1:W'.cell? ⟨A,1,none⟩=some (.string ⟨#[]⟩):=hH.at_ rfl;have c2:W'.cell? ⟨A,2,none⟩=some (.int .i64 ((0:Nat):Int)):=hH.at_ rfl;have c3:W'.cell? ⟨A,3,none⟩=some (.int .i64 ((0:Nat):Int)):=hH.at_ rfl;clear hW' hH;exact bodyPost_ret (v:=.tuple #[.agg (four 0 ⟨#[]⟩ 0 0),.int .i64 3]) (by simp [results,results51,go_sem,c0,c1,c2,c3];rfl) rfl ⟨Qsx 3 Vp.out (by decide) rfl,hBel⟩
    ·have hl': ¬(32:Int)<(S.size:Int):=(by omega);have Vp:Hid (er r=0):=by show er r=0;unfold er Kw;have h3: ¬32<ln r:=(by have:=HE.out;have:=C8.out;omega);rw [Qd X3.out,<-HK.out,<-HB.out,Qd (by decide),Qd (λh=>by rw [HKEY.out]at h;exact absurd h.2 (by decide)),Qd (λh=>h3 h.2)]
     clear hlong;go_wp2_with fail;clear a0 a1 a2 a3 z0 z1 z2 z3 b1 y0 y2 x0 x2;refine Qn ?_;have a0:V.cell? ⟨A,0,none⟩=some (.int .i64 ((0:Nat):Int)):=HD.out.out.at_ rfl;have a1:V.cell? ⟨A,1,none⟩=some (.string ⟨#[]⟩):=HD.out.out.at_ rfl;have a2:V.cell? ⟨A,2,none⟩=some (.int .i64 ((0:Nat):Int)):=HD.out.out.at_ rfl;have a3:V.cell? ⟨A,3,none⟩=some (.int .i64 ((0:Nat):Int)):=HD.out.out.at_ rfl;have z0:=HD.out.out.frozen 0;have z1:=HD.out.out.frozen 1;have z2:=HD.out.out.frozen 2;have z3:=HD.out.out.frozen 3;have b0:V.cell? ⟨B,0,none⟩=some (.int .i64 ((1:Nat):Int)):=HD.out.own.at_ rfl;have b1:V.cell? ⟨B,1,none⟩=some (.string S):=HD.out.own.at_ rfl;have b2:V.cell? ⟨B,2,none⟩=some (.int .i64 ((0:Nat):Int)):=HD.out.own.at_ rfl;have b3:V.cell? ⟨B,3,none⟩=some (.int .i64 (q:Int)):=HD.out.own.at_ rfl;go_wp2_with fail;obtain ⟨W',hW',hH,hBel⟩:=HD.out.tell 1 S 0 q
     try simp only [Int.natCast_zero]at hW'
     try rw [show ((1:Nat):Int)=1 from rfl]at hW'
     try rw [show ((2:Nat):Int)=2 from rfl]at hW'
     try rw [show ((3:Nat):Int)=3 from rfl]at hW'
     try rw [show ((4:Nat):Int)=4 from rfl]at hW'
     rw [<-hW'];have c0:W'.cell? ⟨A,0,none⟩=some (.int .i64 ((1:Nat):Int)):=hH.at_ rfl;have c1:W'.cell? ⟨A,1,none⟩=some (.string S):=hH.at_ rfl;have c2:W'.cell? ⟨A,2,none⟩=some (.int .i64 ((0:Nat):Int)):=hH.at_ rfl;have c3:W'.cell? ⟨A,3,none⟩=some (.int .i64 (q:Int)):=hH.at_ rfl;clear hW' hH;exact bodyPost_ret (v:=.tuple #[.agg (four 1 S 0 q),.int .i64 0]) (by simp [results,results51,go_sem,c0,c1,c2,c3];rfl) rfl ⟨Qmp 1 S 0 Vp.out (by unfold Bl;rw [<-HK.out,<-HB.out];exact Qd (λh=>by rw [HKEY.out]at h;exact absurd h.2 (by decide))) Zj.out (by unfold Kv;rw [<-HK.out];rfl) rfl,hBel⟩
  ·
   subst h2;go_wp2_with fail;refine (Woj S b Q8b.out V (by have:=C8.out;omega)).mono ?_;rintro e w1 ⟨rfl,hw1⟩;rw [hw1];clear hw1 w1;unfold Mr;cases J5:num b with
   |none=>
    have Vp:Hid (er r=7):=by show er r=7;unfold er Kw;rw [Qd X3.out,<-HK.out,<-HB.out,Qk rfl,J5];rfl
    clear J5;go_wp2_with fail;obtain ⟨W',hW',hH,hBel⟩:=HD.out.tell 0 ⟨#[]⟩ 0 0;simp only [Int.natCast_zero]at hW';rw [<-hW'];have c0:W'.cell? ⟨A,0,none⟩=some (.int .i64 ((0:Nat):Int)):=hH.at_ rfl;have c1:W'.cell? ⟨A,1,none⟩=some (.string ⟨#[]⟩):=hH.at_ rfl;have c2:W'.cell? ⟨A,2,none⟩=some (.int .i64 ((0:Nat):Int)):=hH.at_ rfl;have c3:W'.cell? ⟨A,3,none⟩=some (.int .i64 ((0:Nat):Int)):=hH.at_ rfl;clear hW' hH;exact bodyPost_ret (v:=.tuple #[.agg (four 0 ⟨#[]⟩ 0 0),.int .i64 7]) (by simp [results,results51,go_sem,c0,c1,c2,c3];rfl) rfl ⟨Qsx 7 Vp.out (by decide) rfl,hBel⟩
   |some n=>
    have Vp:Hid (er r=0):=by show er r=0;unfold er Kw;rw [Qd X3.out,<-HK.out,<-HB.out,Qk rfl,J5];rfl
    have Qdw:=Qa J5;clear J5;go_wp2_with fail;obtain ⟨V',hV'⟩: ∃V',V'=V.setCell ⟨B,2,none⟩ (.int .i64 (n:Int)):=⟨_,rfl⟩;have Jz:Hid (Duo w V' A B 2 S n q):=(by rw [hV'];exact HD.out.num _);rw [<-hV'];clear hV' a0 a1 a2 a3 z0 z1 z2 z3 HD;clear b1 y0 y2 x0 x2;refine Qn ?_;have a0:V'.cell? ⟨A,0,none⟩=some (.int .i64 ((0:Nat):Int)):=Jz.out.out.at_ rfl;have a1:V'.cell? ⟨A,1,none⟩=some (.string ⟨#[]⟩):=Jz.out.out.at_ rfl;have a2:V'.cell? ⟨A,2,none⟩=some (.int .i64 ((0:Nat):Int)):=Jz.out.out.at_ rfl;have a3:V'.cell? ⟨A,3,none⟩=some (.int .i64 ((0:Nat):Int)):=Jz.out.out.at_ rfl;have z0:=Jz.out.out.frozen 0;have z1:=Jz.out.out.frozen 1;have z2:=Jz.out.out.frozen 2;have z3:=Jz.out.out.frozen 3;have b0:V'.cell? ⟨B,0,none⟩=some (.int .i64 ((2:Nat):Int)):=Jz.out.own.at_ rfl;have b1:V'.cell? ⟨B,1,none⟩=some (.string S):=Jz.out.own.at_ rfl;have b2:V'.cell? ⟨B,2,none⟩=some (.int .i64 ((n:Nat):Int)):=Jz.out.own.at_ rfl;have b3:V'.cell? ⟨B,3,none⟩=some (.int .i64 (q:Int)):=Jz.out.own.at_ rfl;go_wp2_with fail;obtain ⟨W',hW',hH,hBel⟩:=Jz.out.tell 2 S n q
    try simp only [Int.natCast_zero]at hW'
    try rw [show ((1:Nat):Int)=1 from rfl]at hW'
    try rw [show ((2:Nat):Int)=2 from rfl]at hW'
    try rw [show ((3:Nat):Int)=3 from rfl]at hW'
    try rw [show ((4:Nat):Int)=4 from rfl]at hW'
    rw [<-hW'];have c0:W'.cell? ⟨A,0,none⟩=some (.int .i64 ((2:Nat):Int)):=hH.at_ rfl;have c1:W'.cell? ⟨A,1,none⟩=some (.string S):=hH.at_ rfl;have c2:W'.cell? ⟨A,2,none⟩=some (.int .i64 ((n:Nat):Int)):=hH.at_ rfl;have c3:W'.cell? ⟨A,3,none⟩=some (.int .i64 (q:Int)):=hH.at_ rfl;clear hW' hH;exact bodyPost_ret (v:=.tuple #[.agg (four 2 S n q),.int .i64 0]) (by simp [results,results51,go_sem,c0,c1,c2,c3];rfl) rfl ⟨Qmp 2 S n Vp.out (by unfold Bl;rw [<-HK.out];rfl) Zj.out (by unfold Kv;rw [<-HK.out,<-HB.out,Qdw.out];rfl) rfl,hBel⟩
  ·
   subst h4;have Vp:Hid (er r=0):=by show er r=0;unfold er Kw;rw [Qd X3.out,<-HK.out];rfl
   go_wp2_with fail;clear a0 a1 a2 a3 z0 z1 z2 z3 b1 y0 y2 x0 x2;refine Qn ?_;have a0:V.cell? ⟨A,0,none⟩=some (.int .i64 ((0:Nat):Int)):=HD.out.out.at_ rfl;have a1:V.cell? ⟨A,1,none⟩=some (.string ⟨#[]⟩):=HD.out.out.at_ rfl;have a2:V.cell? ⟨A,2,none⟩=some (.int .i64 ((0:Nat):Int)):=HD.out.out.at_ rfl;have a3:V.cell? ⟨A,3,none⟩=some (.int .i64 ((0:Nat):Int)):=HD.out.out.at_ rfl;have z0:=HD.out.out.frozen 0;have z1:=HD.out.out.frozen 1;have z2:=HD.out.out.frozen 2;have z3:=HD.out.out.frozen 3;have b0:V.cell? ⟨B,0,none⟩=some (.int .i64 ((4:Nat):Int)):=HD.out.own.at_ rfl;have b1:V.cell? ⟨B,1,none⟩=some (.string S):=HD.out.own.at_ rfl;have b2:V.cell? ⟨B,2,none⟩=some (.int .i64 ((0:Nat):Int)):=HD.out.own.at_ rfl;have b3:V.cell? ⟨B,3,none⟩=some (.int .i64 (q:Int)):=HD.out.own.at_ rfl;go_wp2_with fail;obtain ⟨W',hW',hH,hBel⟩:=HD.out.tell 4 S 0 q
   try simp only [Int.natCast_zero]at hW'
   try rw [show ((1:Nat):Int)=1 from rfl]at hW'
   try rw [show ((2:Nat):Int)=2 from rfl]at hW'
   try rw [show ((3:Nat):Int)=3 from rfl]at hW'
   try rw [show ((4:Nat):Int)=4 from rfl]at hW'
   rw [<-hW'];have c0:W'.cell? ⟨A,0,none⟩=some (.int .i64 ((4:Nat):Int)):=hH.at_ rfl;have c1:W'.cell? ⟨A,1,none⟩=some (.string S):=hH.at_ rfl;have c2:W'.cell? ⟨A,2,none⟩=some (.int .i64 ((0:Nat):Int)):=hH.at_ rfl;have c3:W'.cell? ⟨A,3,none⟩=some (.int .i64 (q:Int)):=hH.at_ rfl;clear hW' hH;exact bodyPost_ret (v:=.tuple #[.agg (four 4 S 0 q),.int .i64 0]) (by simp [results,results51,go_sem,c0,c1,c2,c3];rfl) rfl ⟨Qmp 4 S 0 Vp.out (by unfold Bl;rw [<-HK.out];rfl) Zj.out (by unfold Kv;rw [<-HK.out];rfl) rfl,hBel⟩
def Tq (L:List Tk):List Value:=L.flatMap (λt=>(Qm5 t).toList)
theorem Qz3 (L:List Tk) (t:Tk):Tq (L++[t])=Tq L++(Qm5 t).toList:=by unfold Tq;rw [List.flatMap_append,List.flatMap_singleton]
def Wd0 (l:List UInt8) (w:World) (e:Ending) (w':World):Prop:=
 (∃L v,T l 0= .ok L/\e= .returned (.tuple #[v,.agg #[.int .i64 0,.int .i64 0]])/\Xi 69 4 w w' v L.length (Tq L))\/
 (∃x p:Nat,T l 0= .error (x,p)/\e= .returned (.tuple #[.slice none 0 0,.agg #[.int .i64 (x:Int),.int .i64 (p:Int)]])/\Below w.heap.size w w')
theorem Q0l:(prog.info? 69).map (λi=>(i.zero,i.size,i.bytes))=some (some (.agg #[.int .i64 0,.string ⟨#[]⟩,.int .i64 0,.int .i64 0]),4,40):=by kernel_rfl
theorem Qrz {w w1 w2:World} (h:Below w.heap.size w w1) (k:Below w1.heap.size w1 w2):Below w.heap.size w w2:=h.trans (k.mono h.size)
theorem Wd6 (s:ByteArray) (w:World) (hT:Tab w) (hs:s.size<=65536):
  Calls prog 22 #[.string s] w λe w'=>Wd0 s.data.toList w e w':=by
 obtain ⟨l,hl⟩:=Qb s.data.toList;have hlen:l.length=s.size:=by rw [hl];exact Au
 have HLEN:=Qa hlen;rw [<-hl];have HL:=Qa hl;have HT:=Qa hT;clear hl hlen hT;have hz:Yh false l<=s.size:=by rw [<-HLEN.out];exact Qeo _ _
 obtain ⟨z,hzz⟩:=Qb (Yh false l);rw [<-hzz]at hz;have HZ:=Qa hzz;clear hzz;go_enter func22,ntmps22;rw [Qz 7,Qz 9,Qz 10,Qz 11];go_wp2_with fail;obtain ⟨W,hW⟩:=Qb (w.alloc (.cells #[.int .i64 0,.int .i64 0] 29));rw [<-hW];obtain ⟨A,hA⟩:=Qb w.heap.size;have HA:Hid (w.heap.size<=A):=by show w.heap.size<=A;omega
 have HH:Hid (Held W A 29 #[.int .i64 0,.int .i64 0]):=by rw [hW,hA];exact Held.new _ _ _
 have HB:Hid (Below w.heap.size w W):=by rw [hW];exact Qag
 rw [<-hA];have HTW:Hid (Tab W):=HT.out.below HB.out;clear hW hA HT;refine (Q68 s 0 W (by omega) (Vh _)).mono ?_;rintro e w1 ⟨rfl,hw1⟩;rw [hw1,<-HL.out,List.drop_zero,Bq,<-HZ.out];clear hw1 w1;go_wp2_with fail;go_loopw [4,5] (λv i wr=> ∃(p n:Nat) (L:List Tk),p<=s.size/\n<=p/\i= .int .i64 (p:Int)/\Hid (n=L.length)/\Hid (From l L p)/\Hid (Xi 69 4 W wr v n (Tq L))) (λ_ i _=>s.size-(intOf i).toNat)
 case atStart=>exact ⟨z,0,[],hz,Vh _,rfl,rfl,(show From l [] z by rw [HZ.out];exact From.start l),Xi.nil _ _ _⟩
 case round=>
  obtain ⟨p,n,L,hp,hnp,rfl,hn,hF,hV⟩:=hrel;by_cases hlt:p<s.size
  ·have hpl:Hid (p<l.length):=(by show p<l.length;rw [HLEN.out];exact hlt);go_wp2_with fail;refine (Wby s p wr (HTW.out.below hV.out.2) (by omega) hlt).mono ?_;rintro e w1 ⟨Qdc,hb⟩;rw [<-HL.out]at Qdc;obtain ⟨r,hr⟩:=Qb (l.drop p);rw [<-hr]at Qdc;rcases Qdc with ⟨he,rfl⟩ |⟨he,rfl⟩
   ·obtain ⟨k,hk⟩:=Qb ((tk r p).kind);obtain ⟨S,hS⟩:=Qb (⟨(tk r p).text.toArray⟩:ByteArray);obtain ⟨N,hN⟩:=Qb ((tk r p).n);have hcs:Qm5 (tk r p)= #[.int .i64 (k:Int),.string S,.int .i64 (N:Int),.int .i64 (p:Int)]:=(by rw [hk,hS,hN];rfl);have hlr:=Qgf r;have hrl:r.length=s.size-p:=(by rw [hr,Vf,HLEN.out]);have hSs:S.size=ln r:=by rw [hS];show (r.take (ln r)).toArray.size=_;rw [List.size_toArray,F9];omega
    obtain ⟨E,hE⟩:=Qb (p+S.size);have hES:E<=s.size:=(by omega);have hpE:(p:Int)+(S.size:Int)=(E:Int):=(by omega);have hoff:p+off r=E+Yh false (l.drop E):=by unfold off;rw [hE,hSs,hr,List.drop_drop];omega
    have hlow:p<E:=(by have:=Qhd he;omega);have Qq3:=Qj3 r;rw [hcs];have HCS:=Qa hcs;have HR:=Qa hr;have Vp:=Qa he;have Qdg:=Qa hoff;have Qul:Hid (E+Yh false (l.drop E)<=s.size):=(by show E+Yh false (l.drop E)<=s.size;omega);have HB1:=Qa hb;clear hk hS hN hcs hlr hrl hSs hE hr he hoff Qq3 hb;go_wp2_with fail;refine Qn ?_;obtain ⟨W2,hW2⟩:=Qb (w1.alloc (.cells #[.int .i64 (k:Int),.string S,.int .i64 (N:Int),.int .i64 (p:Int)] 69));obtain ⟨g,hg⟩:=Qb w1.heap.size;have HG:Hid (Held W2 g 69 #[.int .i64 (k:Int),.string S,.int .i64 (N:Int),.int .i64 (p:Int)]):=(by rw [hW2,hg];exact Held.new _ _ _);have HB2:Hid (Below wr.heap.size wr W2):=(by rw [hW2];exact HB1.out.alloc HB1.out.size _);have Jm:Hid (wr.heap.size<=g):=(by show wr.heap.size<=g;rw [hg];exact HB1.out.size);have Gj:=Qa (hV.out.quiet HB2.out);rw [<-hW2,<-hg];clear hW2 hg HB1;go_wp2_with fail;refine Qn ?_;have b0:W2.cell? ⟨g,0,none⟩=some (.int .i64 (k:Int)):=HG.out.at_ rfl;have b1:W2.cell? ⟨g,1,none⟩=some (.string S):=HG.out.at_ rfl;have b2:W2.cell? ⟨g,2,none⟩=some (.int .i64 (N:Int)):=HG.out.at_ rfl;have b3:W2.cell? ⟨g,3,none⟩=some (.int .i64 (p:Int)):=HG.out.at_ rfl;go_wp2_with (at_builtin;refine Qnr rfl (.tmp 29) (.tmp 31) 53 69 (.agg #[.int .i64 0,.string ⟨#[]⟩,.int .i64 0,.int .i64 0]) 4 40 underlying53 Q0l rfl (by decide) (by decide) rfl W W2 _ n (Tq L) [.int .i64 (k:Int),.string S,.int .i64 (N:Int),.int .i64 (p:Int)] _ rfl rfl Gj.out (by omega) rfl rfl (by intro u hu;simp at hu;rcases hu with rfl |rfl |rfl |rfl<;>rfl) ?_;intro v1 w3 Rw hkeep);refine Qn ?_;have Mv:=Qa Rw;have V5:Hid (Held w3 g 69 #[.int .i64 (k:Int),.string S,.int .i64 (N:Int),.int .i64 (p:Int)]):=by refine HG.out.block (hkeep g HG.out.lt ?_);intro e;have:=hV.out.lt g e;have:=Jm.out;omega
    clear b0 b1 b2 b3 Rw hkeep HG;have b1:w3.cell? ⟨g,1,none⟩=some (.string S):=V5.out.at_ rfl;go_wp2_with fail;refine (Q68 s E w3 (by omega) hES).mono ?_;rintro e w4 ⟨rfl,hw4⟩;rw [hw4,<-HL.out];clear hw4 w4;obtain ⟨q,hq⟩:=Qb (E+Yh false (l.drop E));rw [<-hq];have hqE:E<=q:=(by omega);have hqs:q<=s.size:=(by have:=Qul.out;omega);have HQ:=Qa hq;clear hq;go_wp2_with fail;go_roundw
    case rel=>
     refine ⟨q,n+1,L++[tk r p],hqs,by omega,rfl,?_,?_,?_⟩
     ·show n+1=(L++[tk r p]).length;rw [Qf,<-hn.out];rfl
     ·show From l (L++[tk r p]) q;have:=hF.out.next hpl.out (by rw [<-HR.out];exact Vp.out);rw [<-HR.out,Qdg.out,<-HQ.out]at this;exact this
     ·show Xi _ 4 W w3 v1 (n+1) (Tq (L++[tk r p]));rw [Qz3,HCS.out];exact Mv.out
    case measure=>simp [intOf];omega
   ·obtain ⟨x,hx⟩:=Qb (er r);rw [<-hx]at he ⊢;have hx0:((x:Int) != 0)=true:=(by simp;omega);have HX:Hid (T l 0= .error (x,p)):=by show T l 0= .error (x,p);rw [hx,hr];refine hF.out.bad hpl.out ?_;rw [<-hr,<-hx];exact he
    have HB1:=Qa hb;clear hx hr he hb;unfold four;go_wp2_with fail;refine Qn ?_;obtain ⟨W2,hW2⟩:=Qb (w1.alloc (.cells #[.int .i64 0,.string ⟨#[]⟩,.int .i64 0,.int .i64 0] 69));have HB2:Hid (Below wr.heap.size wr W2):=(by rw [hW2];exact HB1.out.alloc HB1.out.size _);rw [<-hW2];clear hW2 HB1;have Xz:Hid (Below W.heap.size W W2):=Qrz hV.out.2 HB2.out;have Q7:Hid (Held W2 A 29 #[.int .i64 0,.int .i64 0]):=HH.out.since Xz.out;have a0:W2.cell? ⟨A,0,none⟩=some (.int .i64 0):=Q7.out.at_ rfl;have a1:W2.cell? ⟨A,1,none⟩=some (.int .i64 0):=Q7.out.at_ rfl;have z0:=Q7.out.frozen 0;have z1:=Q7.out.frozen 1;go_wp2_with fail;obtain ⟨W',hW'⟩: ∃W',W'=(W2.setCell ⟨A,0,none⟩ (.int .i64 (x:Int))).setCell ⟨A,1,none⟩ (.int .i64 (p:Int)):=⟨_,rfl⟩;have hH:Held W' A 29 #[.int .i64 (x:Int),.int .i64 (p:Int)]:=(by rw [hW'];exact (Q7.out.set 0 _).set 1 _);have hBel:Below w.heap.size w W':=by rw [hW'];exact ((Qrz HB.out Xz.out).setCell HA.out _).setCell HA.out _
    rw [<-hW'];have c0:W'.cell? ⟨A,0,none⟩=some (.int .i64 (x:Int)):=hH.at_ rfl;have c1:W'.cell? ⟨A,1,none⟩=some (.int .i64 (p:Int)):=hH.at_ rfl;clear hW' hH;exact bodyPost_ret (v:=.tuple #[.slice none 0 0,.agg #[.int .i64 (x:Int),.int .i64 (p:Int)]]) (by simp [results,results22,go_sem,c0,c1]) rfl (.inr ⟨x,p,HX.out,rfl,hBel⟩)
  ·obtain rfl:p=s.size:=(by omega);have HX:Hid (T l 0= .ok (L++[⟨0,[],0,s.size⟩])):=hF.out.done HLEN.out.symm;go_wp2_with fail;refine Qn ?_;go_wp2_with (at_builtin;refine Qnr rfl (.tmp 40) (.tmp 44) 53 69 (.agg #[.int .i64 0,.string ⟨#[]⟩,.int .i64 0,.int .i64 0]) 4 40 underlying53 Q0l rfl (by decide) (by decide) rfl W wr _ n (Tq L) [.int .i64 0,.string ⟨#[]⟩,.int .i64 0,.int .i64 (s.size:Int)] _ rfl rfl hV.out (by omega) rfl rfl (by intro u hu;simp at hu;rcases hu with rfl |rfl |rfl |rfl<;>rfl) ?_;intro v1 w3 Rw hkeep;have Mv:=Qa Rw;clear Rw hkeep;have Q9:Hid (Held w3 A 29 #[.int .i64 0,.int .i64 0]):=HH.out.since Mv.out.2;have a0:w3.cell? ⟨A,0,none⟩=some (.int .i64 0):=Q9.out.at_ rfl;have a1:w3.cell? ⟨A,1,none⟩=some (.int .i64 0):=Q9.out.at_ rfl;have z0:=Q9.out.frozen 0;have z1:=Q9.out.frozen 1);obtain ⟨W',hW'⟩: ∃W',W'=(w3.setCell ⟨A,0,none⟩ (.int .i64 0)).setCell ⟨A,1,none⟩ (.int .i64 0):=⟨_,rfl⟩;have hH:Held W' A 29 #[.int .i64 0,.int .i64 0]:=(by rw [hW'];exact (Q9.out.set 0 _).set 1 _);have hBel:Below w.heap.size w W':=by rw [hW'];exact ((Qrz HB.out Mv.out.2).setCell HA.out _).setCell HA.out _
   have hVV:Xi 69 4 w W' v1 (n+1) (Tq (L++[⟨0,[],0,s.size⟩])):=by rw [Qz3];refine Mv.out.apart HB.out ?_ hBel;intro k hk;have hlt:=HH.out.lt;have hne:k≠A:=(by omega);rw [hW',Below.heap_setCell _ _ _ _ hne,Below.heap_setCell _ _ _ _ hne]
   rw [<-hW'];have c0:W'.cell? ⟨A,0,none⟩=some (.int .i64 0):=hH.at_ rfl;have c1:W'.cell? ⟨A,1,none⟩=some (.int .i64 0):=hH.at_ rfl;clear hW' hH;have hln:(L++[(⟨0,[],0,s.size⟩:Tk)]).length=n+1:=(by rw [Qf,<-hn.out];rfl);exact bodyPost_ret (v:=.tuple #[v1,.agg #[.int .i64 0,.int .i64 0]]) (by simp [results,results22,go_sem,c0,c1]) rfl (.inl ⟨_,v1,HX.out,rfl,by rw [hln];exact hVV⟩)
end
section
open Go.RowKit
variable {B g P T N:Nat}{L:List Tk}{w0 w w':World}{R R':Bx}{d:Nat}{o:Except Qq PS}
theorem Rd.elsewhere {N p:Nat} {t:TypeId} {d e q:Int} {l:List Nd} {h:List Nat} {cs:Array Value} (H:Rd B g L w R p d l h e q) (hN:Held w N t cs) (h1:t≠98) (h2:t≠69) (h3:t≠37) (h4:t≠3) (hx:Vw<=N) (hg:w.grownBy w' (some N)):Rd B g L w' R p d l h e q:=by
 obtain ⟨cs',fz,hty⟩:=H.ty;have hgN:g≠N:=by
  intro e;subst e;have h4:w.heap[g]? =_:=H.box;have h5:w.heap[g]? =_:=hN;rw [h4]at h5;injection h5 with h6
  injection h6 with _ h7
  exact h1 h7.symm
 have htN:R.tb≠N:=by
  intro e;rw [e]at hty;have h5:w.heap[N]? =_:=hN;rw [hty]at h5;injection h5 with h6
  injection h6 with _ h7
  exact h2 h7.symm
 have K: ∀k,k≠N->k<w.heap.size->w'.heap[k]? =w.heap[k]?:=λk hk hs=>hg.block k hs (λe=>hk (by injection e));have htb:=K R.tb htN H.Jh;refine ⟨⟨H.box.block (K g hgN H.box.lt),H.toks.block htb,Fe H.Jh hg.size,H.told,⟨cs',fz,htb.trans hty⟩,World.ownsRow.kept H.own hg (.inr (Yr H.own hN (λe=>h3 e.symm))),World.ownsRow.kept H.hts hg (.inr (Yr H.hts hN (λe=>h4 e.symm))),λx hx=>World.ownsRow.kept (H.kids x hx) hg (.inr (Yr (H.kids x hx) hN (λe=>h4 e.symm))),H.off,H.old,H.fin,H.many,
  H.tabs.keep (λk hk=>K k (by omega) (by have:=H.tabs.size;omega)),H.base,λk hk=>⟨Fe (H.zone k hk).1 hg.size,(H.zone k hk).2⟩⟩,H.len,H.here,H.few,H.low⟩
theorem Any.elsewhere {N:Nat} {t:TypeId} {cs:Array Value} (H:Any B g L w R d o) (hN:Held w N t cs) (h1:t≠98) (h2:t≠69) (h3:t≠37) (h4:t≠3) (hx:Vw<=N) (hg:w.grownBy w' (some N)):Any B g L w' R d o:=by
 cases o with
 |ok s=>obtain ⟨p,l,h,r⟩:=H;exact ⟨p,l,h.elsewhere hN h1 h2 h3 h4 hx hg,r⟩
 |error f=>obtain ⟨p,l,h,H,r⟩:=H;exact ⟨p,l,h,H.elsewhere hN h1 h2 h3 h4 hx hg,r⟩
theorem Qcj.below (h:Qcj w) (hb:Below w.heap.size w w'):Qcj w':=by obtain ⟨t,fr,hk⟩:=h;exact ⟨t,fr,(hb.block _ (Array.getElem?_eq_some_iff.1 hk).1).trans hk⟩
theorem Q6n {G N:Nat} {t t':TypeId} {cs cs':Array Value} (h:Held w G t cs) (h':Held w N t' cs') (hne:t≠t'):G≠N:=by
 intro e;subst e;have h5:w.heap[G]? =_:=h;have h6:w.heap[G]? =_:=h';rw [h5]at h6;injection h6 with h6
 injection h6 with _ h7
 exact hne h7
theorem Wpo {L:List Tk} (b off c:Nat) (w:World) (hT:Co w) (hK:Qcj w) (hL:IsL L) (hk:Uo w b off L):
  Calls prog 23 #[.slice (some ⟨b,off,none⟩) L.length c] w λen w'=> ∃g P T R,en= .returned (.pointer (some ⟨P,0,none⟩))/\Any w.heap.size g L w' R 0 (.ok ⟨L,[],[]⟩)/\Ke w' g P T/\Below w.heap.size w w':=by
 have HK:=Qa hK;have HTS:=Qa hT.size;have HC:=Qa (Wg2 b off c w hT hL hk);have hmf: ∀(fn:Fn) (first cap:Array Value) (w:World),(Instr.makeFunc fn first cap).run prog w= .ok (.func fn first cap) w:=λ_ _ _ _=>rfl;clear hT hL hk hK;go_enter func23,ntmps23;rw [Qz 2,Qz 3];go_wp2_with fail;refine HC.out.mono ?_;rintro en w1 ⟨g,R,rfl,hR,hb⟩;have HGD:Hid (Any w.heap.size g L w1 R 0 (.ok ⟨L,[],[]⟩)):=⟨0,[],hR,rfl,rfl⟩;have HB:=Qa hb;clear hR hb;obtain ⟨W1,hW1⟩:=Qb (w1.alloc (.cells #[.pointer (some ⟨g,0,none⟩),.slice none 0 0] 62));obtain ⟨P,hP⟩:=Qb w1.heap.size;have HH:Hid (Held W1 P 62 #[.pointer (some ⟨g,0,none⟩),.slice none 0 0]):=by rw [hW1,hP];exact Held.new _ _ _
 have hb1:Below w1.heap.size w1 W1:=by rw [hW1];exact Qag
 have HB1:Hid (Below w.heap.size w W1):=HB.out.trans (hb1.mono HB.out.size);replace HGD:=Qa (HGD.out.below hb1);have O7:Hid (w.heap.size<=P):=by rw [hP];exact HB.out.size
 clear hb1;go_wp2_with fail;rw [<-hW1,<-hP];clear hW1 hP;obtain ⟨W2,hW2⟩:=Qb (W1.alloc (.cells (Qml P) 95));obtain ⟨T,hT⟩:=Qb W1.heap.size;have HT2:Hid (Held W2 T 95 (Qml P)):=by rw [hW2,hT];exact Held.new _ _ _
 have hb2:Below W1.heap.size W1 W2:=by rw [hW2];exact Qag
 have HB2:Hid (Below w.heap.size w W2):=HB1.out.trans (hb2.mono HB1.out.size);replace HGD:=Qa (HGD.out.below hb2);replace HH:=Qa (HH.out.since hb2);have Hz:Hid (T≠P):=Q6n HT2.out HH.out (by decide);have c1:W2.cell? ⟨P,1,none⟩=some (.slice none 0 0):=HH.out.at_ rfl;have f1:W2.frozen? ⟨P,1,none⟩=false:=HH.out.frozen 1;rw [hW2]at c1 f1;unfold Qml at c1 f1;refine Qn ?_;go_wp2_with fail;rw [show W1.alloc (.cells #[.string ⟨#[118,97,114]⟩,.int .i64 12,.func (.func 53) #[.pointer (some ⟨P,0,none⟩)] #[],
  .string ⟨#[105,102]⟩,.int .i64 15,.func (.func 54) #[.pointer (some ⟨P,0,none⟩)] #[],
  .string ⟨#[119,104,105,108,101]⟩,.int .i64 16,.func (.func 55) #[.pointer (some ⟨P,0,none⟩)] #[],
  .string ⟨#[102,111,114]⟩,.int .i64 17,.func (.func 56) #[.pointer (some ⟨P,0,none⟩)] #[],
  .string ⟨#[98,114,101,97,107]⟩,.int .i64 18,.func (.func 57) #[.pointer (some ⟨P,0,none⟩)] #[],
  .string ⟨#[99,111,110,116,105,110,117,101]⟩,.int .i64 19,.func (.func 57) #[.pointer (some ⟨P,0,none⟩)] #[],
  .string ⟨#[114,101,116,117,114,110]⟩,.int .i64 20,.func (.func 58) #[.pointer (some ⟨P,0,none⟩)] #[],
  .string ⟨#[112,114,105,110,116]⟩,.int .i64 21,.func (.func 58) #[.pointer (some ⟨P,0,none⟩)] #[]] 95)=W2 from hW2.symm,<-hT];clear c1 f1 hW2 hT;obtain ⟨W3,hW3⟩:=Qb (W2.setCell ⟨P,1,none⟩ (.slice (some ⟨T,0,none⟩) 8 8));have gr:=Gv W2 P 1 (.slice (some ⟨T,0,none⟩) 8 8);have HX:Hid (Vw<=P):=by have h1:=HTS.out;have h2:=O7.out;show _<=_;omega
 have HA:Hid (Any w.heap.size g L W3 R 0 (.ok ⟨L,[],[]⟩)):=by rw [hW3];exact HGD.out.elsewhere HH.out (by decide) (by decide) (by decide) (by decide) HX.out gr
 have Uq:Hid (Ke W3 g P T):=by rw [hW3];refine ⟨HH.out.set 1 _,HT2.out.block (Below.heap_setCell W2 ⟨P,1,none⟩ _ T Hz.out),?_⟩;obtain ⟨t,fr,hk⟩:=HK.out.below HB2.out;exact ⟨t,fr,(Below.heap_setCell W2 ⟨P,1,none⟩ _ _ (by have h1:=Qog;have h2:=HX.out;show 5≠P;omega)).trans hk⟩
 have HB3:Hid (Below w.heap.size w W3):=by rw [hW3];exact HB2.out.setCell (p:=⟨P,1,none⟩) O7.out _
 rw [<-hW3];clear hW3 gr;refine Qn ?_;go_wp2_with fail;go_ret;exact ⟨g,P,T,R,rfl,HA.out,Uq.out,HB3.out⟩
end
section
open Go.RowKit
def Qqb (l:List UInt8) (w:World) (en:Ending) (w':World):Prop:=Below w.heap.size w w'/\
 ((∃x q:Nat,T l 0= .error (x,q)/\en= .returned (.tuple #[.slice none 0 0,.agg #[.int .i64 (x:Int),.int .i64 (q:Int)]]))\/
  (∃L v,T l 0= .ok L/\Qs (.prog []) 0 ⟨L,[],[]⟩ v/\
   ((∃r val,Q4j v= .ok r/\en= .returned (.tuple #[val,.agg #[.int .i64 0,.int .i64 0]])/\Given w w' val r)\/
   (∃x q:Nat,Q4j v= .error (x,q)/\x≠0/\en= .returned (.tuple #[.slice none 0 0,.agg #[.int .i64 (x:Int),.int .i64 (q:Int)]])))))
theorem Wjd (L:List Tk):Tq L=Ey L:=rfl
theorem Wpq {B g:Nat} {L:List Tk} {w:World} {R:Bx} {d:Nat} {s:PS} (H:Good B g L w R d s):
  Calls prog 25 #[.pointer (some ⟨g,0,none⟩)] w λen w'=>en= .returned (.agg #[.int .i64 0,.int .i64 0])/\Below w.heap.size w w':=by
 obtain ⟨p,l,H,_⟩:=H;exact Qyt H
theorem Qp9 {l:List UInt8} {x q:Nat} (h:T l 0= .error (x,q)):x≠0:=(Wfc h).1
theorem Wh7 {L:List Tk} {l:List Int} {s':PS} (hI:I8 L) (hL:IsL L) (h:Qs (.prog []) 0 ⟨L,[],[]⟩ (.ok (l,s'))) (hr:1<=s'.r.length):0<s'.l.length/\ ∀x∈s'.l,x.kids.length<=100000:=by
 have h1:=Qfa hI hL.some h;obtain ⟨n,hn⟩:=h;have h2:=Qr7 n [] 0 ⟨L,[],[]⟩ l s' hn;have e0:([]:List Nd).length=0:=rfl;simp only [e0]at h2;have h3:=hL.many;refine ⟨?_,λx hx=>F7 (h1.2.2.2.1 x hx) (by omega)⟩;rcases Nat.eq_zero_or_pos s'.l.length with h4 |h4
 ·have h5:=h1.2.1;rw [List.length_eq_zero_iff.1 h4]at h5;cases h5
 ·exact h4
theorem Wih (s:ByteArray) (w:World) (hT:Tab w) (hX:Co w) (hK:Qcj w) (hs:s.size<=65536):
  Calls prog 9 #[.string s] w (Qqb s.data.toList w):=by
 obtain ⟨W,hW⟩:=Qb (w.alloc (.cells #[.int .i64 0,.int .i64 0] 29));obtain ⟨A,hA⟩:=Qb w.heap.size;have HG:Hid (Held W A 29 #[.int .i64 0,.int .i64 0]):=by rw [hW,hA];exact Held.new _ _ _
 have HB:Hid (Below w.heap.size w W):=by rw [hW];exact Qag
 have G7:Hid (w.heap.size<=A):=by rw [hA];exact Qh _
 have Nc:=Qa hX.size;have HX:Hid (Co W):=hX.keep (λk hk=>HB.out.block k (by have:=hX.size;omega));have HK:Hid (Qcj W):=hK.below HB.out;have Qah:=Qa (Wd6 s W (hT.below HB.out) hs);obtain ⟨l,hl⟩:=Qb s.data.toList;have HLEN:Hid (l.length<=65536):=by rw [hl];exact (show s.data.toList.length<=65536 by rw [Au];exact hs)
 rw [<-hl]at Qah ⊢;clear hT hX hK hs hl;go_enter func9,ntmps9;rw [Qz 1,Qz 2,Qz 7];go_wp2_with fail;rw [<-hW,<-hA];clear hW hA;refine Qn ?_;go_wp2_with fail;refine Qah.out.mono ?_;clear Qah;rintro en w1 (⟨L,v,Kt,rfl,hV⟩ |⟨x,q,Kt,rfl,hb⟩)
 ·rw [Wjd]at hV;have X9:=Qa Kt;have HV:=Qa hV;have L9:=Qiq Kt HLEN.out;have Xl:=Qa L9;obtain ⟨a,c,rfl,_,hp⟩:=hV.shape;obtain ⟨b0,rfl,hg0,hc0⟩:=hp L9.some;obtain ⟨W2,hW2⟩:=Qb (w1.alloc (.cells #[.int .i64 0,.int .i64 0] 29));obtain ⟨A2,hA2⟩:=Qb w1.heap.size;have HG2:Hid (Held W2 A2 29 #[.int .i64 0,.int .i64 0]):=by rw [hW2,hA2];exact Held.new _ _ _
  have hbW:Below w1.heap.size w1 W2:=by rw [hW2];exact Qag
  have Xz:Hid (Below W.heap.size W W2):=hV.2.trans (hbW.mono hV.2.size);have J6:Hid (Uo W2 b0 0 L):=λj u hj=>by rw [Bq];exact ((hbW.cell (p:=⟨b0,j,none⟩) hg0).trans (hc0 j u hj))
  have HA2:Hid (w.heap.size<=A2):=by rw [hA2];have h1:=HB.out.size;have h2:=hV.2.size;show _<=_;omega
  have Weg:Hid (W.heap.size<=A2):=by rw [hA2];exact hV.2.size
  have Hz:Hid (A≠A2):=by have h1:=HG.out.lt;have h2:=Weg.out;show A≠A2;omega
  have HNP:=Qa (Wpo b0 0 c W2 (HX.out.keep (λk hk=>Xz.out.block k (by have:=HX.out.size;omega))) (HK.out.below Xz.out) L9 J6.out);clear Kt hV L9 hp hg0 hc0 hbW;go_wp2_with fail;rw [<-hW2,<-hA2];clear hW2 hA2;have z0:W2.cell? ⟨A2,0,none⟩=some (.int .i64 0):=HG2.out.at_ rfl;refine Qn ?_;go_wp2_with fail;refine HNP.out.mono ?_;clear HNP;rintro en w3 ⟨g,P,TB,R,rfl,hany,hpar,hb3⟩;have Qnf:=Qa hany;have Qit:=Qa hpar;have HB3:=Qa hb3;clear hany hpar hb3 z0;go_wp2_with fail;refine (Wcl Qnf.out Qit.out (by omega) (λs' e=>by injection e with e;subst e;exact ⟨by show 0+L.length<=_;omega,Qh _⟩)).mono ?_;rintro en w4 ⟨u,R4,⟨x4,rfl⟩,hdo,hf4,ha4⟩;have Wu:=Qa hdo.to_preads;have HP4:=Qa (Qit.out.keep Qnf.out hf4);have Jf:=Qa (HB3.out.trans (Qnf.out.Uf hf4));have HA4:=Qa ha4;clear hdo hf4 ha4 Qnf Qit HB3;have hp:=HP4.out.c0;go_wp2_with fail
  match u,Wu,HA4 with
  | .error (fx,fq),Wu,HA4=>
   have Ta:Hid (fx≠0):=(by obtain ⟨_,_,_,_,h⟩:=HA4.out;exact h);refine (Wde (show Bad W2.heap.size g L w4 R4 0 (fx,fq)from HA4.out)).mono ?_;rintro en w5 ⟨rfl,hb5⟩;have E5:=Qa (Jf.out.trans (hb5.mono Jf.out.size));have Q7:=Qa (HG2.out.since E5.out);have Wo:=Qa ((HG.out.since Xz.out).since E5.out);clear hb5 hp;have y0:w5.cell? ⟨A2,0,none⟩=some (.int .i64 0):=Q7.out.at_ rfl;have y1:w5.cell? ⟨A2,1,none⟩=some (.int .i64 0):=Q7.out.at_ rfl;have f0:=Q7.out.frozen 0;have f1:=Q7.out.frozen 1;go_wp2_with fail;obtain ⟨W6,Va⟩:=Qb ((w5.setCell ⟨A2,0,none⟩ (.int .i64 (fx:Int))).setCell ⟨A2,1,none⟩ (.int .i64 (fq:Int)));have Mh:Hid (Held W6 A2 29 #[.int .i64 (fx:Int),.int .i64 (fq:Int)]):=(by rw [Va];exact (Q7.out.set 0 _).set 1 _);have Aa:Hid (Below w.heap.size w W6):=(by rw [Va];exact ((HB.out.trans ((Xz.out.trans (E5.out.mono Xz.out.size)).mono HB.out.size)).setCell (p:=⟨A2,0,none⟩) HA2.out _).setCell (p:=⟨A2,1,none⟩) HA2.out _);have Og:Hid (Held W6 A 29 #[.int .i64 0,.int .i64 0]):=(by rw [Va];exact (Wo.out.block (Below.heap_setCell w5 ⟨A2,0,none⟩ _ A Hz.out)).block (Below.heap_setCell _ ⟨A2,1,none⟩ _ A Hz.out));rw [<-Va];clear Va y0 y1 f0 f1;have y0:W6.cell? ⟨A2,0,none⟩=some (.int .i64 (fx:Int)):=Mh.out.at_ rfl;have y1:W6.cell? ⟨A2,1,none⟩=some (.int .i64 (fq:Int)):=Mh.out.at_ rfl;have HD6:Hid (Held W6.drew A 29 #[.int .i64 0,.int .i64 0]):=Og.out.block rfl;have hxb:((fx:Int) != 0)=true:=(by have:=Ta.out;simp;omega);refine Qn ?_;go_wp2_with fail;go_still_tail 2,(by kernel_rfl);change wpList _ _ _ _ _ W6.drew;have x0:W6.drew.cell? ⟨A,0,none⟩=some (.int .i64 0):=HD6.out.at_ rfl;have x1:W6.drew.cell? ⟨A,1,none⟩=some (.int .i64 0):=HD6.out.at_ rfl;have e0:=HD6.out.frozen 0;have e1:=HD6.out.frozen 1;obtain ⟨W7,Xr⟩:=Qb W6.drew;have Bv:Hid (Below w.heap.size w W7):=(by rw [Xr];exact Aa.out.trans ((Zk W6).mono Aa.out.size));rw [<-Xr]at x0 x1 e0 e1 HD6 ⊢;clear Xr;go_wp2_with fail;obtain ⟨W',hW',hH,hBel⟩:=Uw HD6.out Bv.out G7.out (.int .i64 (fx:Int)) (.int .i64 (fq:Int));rw [<-hW'];have r0:W'.cell? ⟨A,0,none⟩=some (.int .i64 (fx:Int)):=hH.at_ rfl;have r1:W'.cell? ⟨A,1,none⟩=some (.int .i64 (fq:Int)):=hH.at_ rfl;clear hW' hH;exact bodyPost_ret (v:=.tuple #[.slice none 0 0,.agg #[.int .i64 (fx:Int),.int .i64 (fq:Int)]]) (by simp [results,results9,go_sem,r0,r1]) rfl ⟨hBel,.inr ⟨L,_,X9.out,Wu.out,.inr ⟨fx,fq,rfl,Ta.out,rfl⟩⟩⟩
  | .ok (l1,s1),Wu,HA4=>
   refine (Wpq (show Good W2.heap.size g L w4 R4 0 s1 from HA4.out)).mono ?_;rintro en w5 ⟨rfl,hb5⟩;have E5:=Qa (Jf.out.trans (hb5.mono Jf.out.size));have Q7:=Qa (HG2.out.since E5.out);have Wo:=Qa ((HG.out.since Xz.out).since E5.out);have HP5:Hid (Held w5 P 62 #[.pointer (some ⟨g,0,none⟩),.slice (some ⟨TB,0,none⟩) 8 8]):=HP4.out.box.since hb5;have HA5:Hid (Any W2.heap.size g L w5 R4 0 (.ok s1)):=Any.below (show Any W2.heap.size g L w4 R4 0 (.ok s1)from HA4.out) hb5;clear hb5 hp;have y0:w5.cell? ⟨A2,0,none⟩=some (.int .i64 0):=Q7.out.at_ rfl;have y1:w5.cell? ⟨A2,1,none⟩=some (.int .i64 0):=Q7.out.at_ rfl;have f0:=Q7.out.frozen 0;have f1:=Q7.out.frozen 1;go_wp2_with fail;obtain ⟨W6,Va⟩:=Qb ((w5.setCell ⟨A2,0,none⟩ (.int .i64 0)).setCell ⟨A2,1,none⟩ (.int .i64 0));have Mh:Hid (Held W6 A2 29 #[.int .i64 0,.int .i64 0]):=(by rw [Va];exact (Q7.out.set 0 _).set 1 _);have Aa:Hid (Below w.heap.size w W6):=(by rw [Va];exact ((HB.out.trans ((Xz.out.trans (E5.out.mono Xz.out.size)).mono HB.out.size)).setCell (p:=⟨A2,0,none⟩) HA2.out _).setCell (p:=⟨A2,1,none⟩) HA2.out _);have Og:Hid (Held W6 A 29 #[.int .i64 0,.int .i64 0]):=(by rw [Va];exact (Wo.out.block (Below.heap_setCell w5 ⟨A2,0,none⟩ _ A Hz.out)).block (Below.heap_setCell _ ⟨A2,1,none⟩ _ A Hz.out));have HXA:Hid (Vw<=A2):=F7 Nc.out HA2.out;have HA6:Hid (Any W2.heap.size g L W6 R4 0 (.ok s1)):=(by rw [Va];exact (HA5.out.elsewhere Q7.out (by decide) (by decide) (by decide) (by decide) HXA.out (Gv _ _ _ _)).elsewhere (Q7.out.set 0 _) (by decide) (by decide) (by decide) (by decide) HXA.out (Gv _ _ _ _));have HPN:Hid (P≠A2):=Q6n HP5.out Q7.out (by decide);have HP6:Hid (Held W6 P 62 #[.pointer (some ⟨g,0,none⟩),.slice (some ⟨TB,0,none⟩) 8 8]):=(by rw [Va];exact (HP5.out.block (Below.heap_setCell w5 ⟨A2,0,none⟩ _ P HPN.out)).block (Below.heap_setCell _ ⟨A2,1,none⟩ _ P HPN.out));have HSH:Hid (0<s1.l.length/\ ∀x∈s1.l,x.kids.length<=100000):=Wh7 (Qbp X9.out) Xl.out Wu.out (Good.some (show Good W2.heap.size g L W6 R4 0 s1 from HA6.out));rw [<-Va];clear Va y0 y1 f0 f1;have z0:W6.cell? ⟨A2,0,none⟩=some (.int .i64 0):=Mh.out.at_ rfl;have hp:W6.cell? ⟨P,0,none⟩=some (.pointer (some ⟨g,0,none⟩)):=HP6.out.at_ rfl;refine Qn ?_;go_wp2_with fail;refine (Wbp (show Good W2.heap.size g L W6 R4 0 s1 from HA6.out) HSH.out.1 HSH.out.2).mono ?_;rintro en w7 ⟨val,rfl,hgv,M4⟩;have Bv:=Qa (Aa.out.trans (M4.mono Aa.out.size));have Li:=Qa (Og.out.since M4);have HGV:=Qa hgv;have K9:Hid (w.heap.size<=W6.heap.size):=Aa.out.size;clear M4 hgv z0 hp;have y0:w7.cell? ⟨A,0,none⟩=some (.int .i64 0):=Li.out.at_ rfl;have y1:w7.cell? ⟨A,1,none⟩=some (.int .i64 0):=Li.out.at_ rfl;have f0:=Li.out.frozen 0;have f1:=Li.out.frozen 1;go_wp2_with fail;obtain ⟨W',hW',hH,hBel⟩:=Uw Li.out Bv.out G7.out (.int .i64 0) (.int .i64 0);have hgr:Given w W' val s1.l:=by
    obtain ⟨l',h1,h2,h3⟩:=HGV.out.base K9.out;have gr1:=Gv w7 A 0 (.int .i64 0);have gr2:=Gv (w7.setCell ⟨A,0,none⟩ (.int .i64 0)) A 1 (.int .i64 0);have hx1:=Li.out.set 0 (.int .i64 0);refine ⟨l',?_,h2,λx hx=> ?_⟩
    ·have k1:=World.ownsRow.kept h1 gr1 (.inr (Yr h1 Li.out (by decide)));rw [hW'];exact World.ownsRow.kept k1 gr2 (.inr (Yr k1 hx1 (by decide)))
    ·have k1:=World.ownsRow.kept (h3 x hx) gr1 (.inr (Yr (h3 x hx) Li.out (by decide)));rw [hW'];exact World.ownsRow.kept k1 gr2 (.inr (Yr k1 hx1 (by decide)))
   rw [<-hW'];have r0:W'.cell? ⟨A,0,none⟩=some (.int .i64 0):=hH.at_ rfl;have r1:W'.cell? ⟨A,1,none⟩=some (.int .i64 0):=hH.at_ rfl;clear hW' hH;exact bodyPost_ret (v:=.tuple #[val,.agg #[.int .i64 0,.int .i64 0]]) (by simp [results,results9,go_sem,r0,r1]) rfl ⟨hBel,.inr ⟨L,_,X9.out,Wu.out,.inl ⟨_,val,rfl,rfl,hgr⟩⟩⟩
 ·have X9:=Qa Kt;have Ta:Hid (x≠0):=Qp9 Kt;obtain ⟨W6,Va⟩:=Qb (w1.alloc (.cells #[.int .i64 (x:Int),.int .i64 (q:Int)] 29));obtain ⟨A2,hA2⟩:=Qb w1.heap.size;have Mh:Hid (Held W6 A2 29 #[.int .i64 (x:Int),.int .i64 (q:Int)]):=by rw [Va,hA2];exact Held.new _ _ _
  have hb6:Below w1.heap.size w1 W6:=by rw [Va];exact Qag
  have O5:Hid (Below W.heap.size W W6):=hb.trans (hb6.mono hb.size);have Og:Hid (Held W6 A 29 #[.int .i64 0,.int .i64 0]):=HG.out.since O5.out;have Aa:Hid (Below w.heap.size w W6):=HB.out.trans (O5.out.mono HB.out.size);clear Kt hb hb6;go_wp2_with fail;rw [<-Va,<-hA2];clear Va hA2;have y0:W6.cell? ⟨A2,0,none⟩=some (.int .i64 (x:Int)):=Mh.out.at_ rfl;have y1:W6.cell? ⟨A2,1,none⟩=some (.int .i64 (q:Int)):=Mh.out.at_ rfl;have HD6:Hid (Held W6.drew A 29 #[.int .i64 0,.int .i64 0]):=Og.out.block rfl;have hxb:((x:Int) != 0)=true:=by have:=Ta.out;simp;omega
  refine Qn ?_;go_wp2_with fail;go_still_tail 2,(by kernel_rfl);change wpList _ _ _ _ _ W6.drew;have x0:W6.drew.cell? ⟨A,0,none⟩=some (.int .i64 0):=HD6.out.at_ rfl;have x1:W6.drew.cell? ⟨A,1,none⟩=some (.int .i64 0):=HD6.out.at_ rfl;have e0:=HD6.out.frozen 0;have e1:=HD6.out.frozen 1;obtain ⟨W7,Xr⟩:=Qb W6.drew;have Bv:Hid (Below w.heap.size w W7):=by rw [Xr];exact Aa.out.trans ((Zk W6).mono Aa.out.size)
  rw [<-Xr]at x0 x1 e0 e1 HD6 ⊢;clear Xr;go_wp2_with fail;obtain ⟨W',hW',hH,hBel⟩:=Uw HD6.out Bv.out G7.out (.int .i64 (x:Int)) (.int .i64 (q:Int));rw [<-hW'];have r0:W'.cell? ⟨A,0,none⟩=some (.int .i64 (x:Int)):=hH.at_ rfl;have r1:W'.cell? ⟨A,1,none⟩=some (.int .i64 (q:Int)):=hH.at_ rfl;clear hW' hH;exact bodyPost_ret (v:=.tuple #[.slice none 0 0,.agg #[.int .i64 (x:Int),.int .i64 (q:Int)]]) (by simp [results,results9,go_sem,r0,r1]) rfl ⟨hBel,.inl ⟨x,q,X9.out,rfl⟩⟩
theorem Wnz (l:List Nd):Al l (l.map bare):=⟨by simp,λj _=>by rw [Qdf];exact ⟨rfl,rfl,rfl,rfl⟩⟩
theorem Q9p {l:List Nd} (h:Rt (l.map bare)):Rt l:=(Wnz l).symm.rt (λi=>by rw [Qdf];exact Iff.rfl) h
structure Qaw (w:World):Prop where
 lex:Tab w
 ex:Co w
 kw:Qcj w
theorem Qaw.below {w w':World} (h:Qaw w) (hb:Below w.heap.size w w'):Qaw w':=⟨h.lex.below hb,h.ex.keep (λk hk=>hb.block k (by have:=h.ex.size;omega)),h.kw.below hb⟩
def PT (l:List UInt8) (w:World) (e:Ending) (w':World):Prop:=Below w.heap.size w w'/\
 ((∃x q:Nat,T l 0= .error (x,q)/\e= .returned (.tuple #[.slice none 0 0,.agg #[.int .i64 (x:Int),.int .i64 (q:Int)]]))\/
  (∃L v,T l 0= .ok L/\Qs (.prog []) 0 ⟨L,[],[]⟩ v/\
   ((∃ps s' l' a c,v= .ok (ps,s')/\e= .returned (.tuple #[.slice a l'.length c,.agg #[.int .i64 0,.int .i64 0]])/\Nodes w' a l'/\l'.map bare=s'.l/\l'.length<=100000)\/
   (∃x q:Nat,v= .error (x,q)/\x≠0/\e= .returned (.tuple #[.slice none 0 0,.agg #[.int .i64 (x:Int),.int .i64 (q:Int)]])))))
theorem Qqg {L:List Tk} {ps:List Int} {s':PS} (h:Qs (.prog []) 0 ⟨L,[],[]⟩ (.ok (ps,s'))):s'.l.length<=L.length+1:=by obtain ⟨n,hn⟩:=h;have h2:=Qr7 n [] 0 ⟨L,[],[]⟩ ps s' hn;have e0:([]:List Nd).length=0:=rfl;simp only [e0]at h2;omega
end
section
open Go.RowKit
variable {B g M:Nat}{L:List Tk}{w0 w w':World}{R0 R R':Bx}{d d':Nat}{o o' o1:Except Qq PS}{acc:List Int}
theorem Wof {b:List UInt8} {s:PS} {F:PS->Option Out} {G:List Int->PS->Option Out}:Qm b s (λs1=>Out.go (F s1) G)=Out.go (Qm b s F) G:=by
 unfold Qm;split
 ·rfl
 ·rfl
theorem Does.Q7j {tb:Nat} {Ux:List Int} {v1 v2 u:Out} (ht: ∀s,o= .ok s->tb=s.tok.place) (h1:Does (Vg o) (Qa8 d) v1) (hq: ∀p s,v1= .ok (p,s)->Ux=p) (h2:Does (F3 (toO v1)) (λs n=>Qac n .block d s) v2)
  (h3:Does (toO v2) (λs _=>some (lay (En 25 (Ux++[Qt v2]) (Lv (toO v1):Nat) (Cj o) (tb:Int)) s)) u):Does o (λs n=>Qac n .func d s) u:=by
 refine Does.Qj (F:=λs n=>Xf s λnm at_ s1=>Out.go (Qa8 d s1 n) λps s3=>V3 s3 λk s4=>Out.go (Qac n .block d s4) λb s5=>some (lay (En 25 (ps++[hd1 b]) k nm (at_:Int)) s5)) (λs _ n=> ?_) ?_
 ·rw [Qac];congr 1
  funext nm at_ s1
  exact Wof
 ·refine Does.name (G:=λnm at_ s1 n=>Out.go (Qa8 d s1 n) λps s3=>V3 s3 λk s4=>Out.go (Qac n .block d s4) λb s5=>some (lay (En 25 (ps++[hd1 b]) k nm (at_:Int)) s5)) ht ?_;refine Does.go' (G:=λps s3 n=>V3 s3 λk s4=>Out.go (Qac n .block d s4) λb s5=>some (lay (En 25 (ps++[hd1 b]) k (Cj o) (tb:Int)) s5)) h1 hq ?_;refine Does.kind (G:=λk s4 n=>Out.go (Qac n .block d s4) λb s5=>some (lay (En 25 (Ux++[hd1 b]) k (Cj o) (tb:Int)) s5)) ?_;exact Does.go (G:=λb s5 _=>some (lay (En 25 (Ux++[b]) (Lv (toO v1):Nat) (Cj o) (tb:Int)) s5)) h2 h3
theorem Does.Qr2 {s:PS} {v u:Out} (hk:s.tok.kind≠0) (hl:acc.length<200) (h1:Does (Yv Ki (.ok s)) (λs n=>Qac n .func d s) v) (h2:Does (toO v) (λs n=>Qac n (.prog (acc++[Qt v])) d s) u):Does (.ok s) (λs n=>Qac n (.prog acc) d s) u:=by
 refine Does.Qj (F:=λs n=>Qm Ki s λs1=>Out.go (Qac n .func d s1) λq s2=>Qac n (.prog (acc++[hd1 q])) d s2) (λs' hs n=> ?_) ?_
 ·injection hs with hs
  subst hs;rw [Qac,Qd hk];congr 1
  funext s1
  exact Qd (by omega)
 ·exact Does.need (b:=Ki) (G:=λs1 n=>Out.go (Qac n .func d s1) λq s2=>Qac n (.prog (acc++[hd1 q])) d s2) (Does.go (G:=λq s2 n=>Qac n (.prog (acc++[q])) d s2) h1 h2)
theorem Does.Qlj {s:PS} {f:Qq} (hk:s.tok.kind≠0) (hl:200<=acc.length) (hf:Lu 3 s.tok.place (Yv Ki (.ok s))= .error f):Does (.ok s) (λs n=>Qac n (.prog acc) d s) (.error f):=by
 cases hb:s.is Ki with
 |true=>rw [Oq hb]at hf;injection hf with hf;subst hf;exact (Qs.Qlj hb hl).ev
 |false=>rw [Ov hb]at hf;injection hf with hf;subst hf;exact (Qs.Qw9 hk hb).ev
theorem Does.Qiy {s:PS} {u:Out} (hk:s.tok.kind=0) (h:Does (.ok s) (λs _=>some (lay (En 26 acc 0 ⟨#[]⟩ ((0:Nat):Int)) s)) u):Does (.ok s) (λs n=>Qac n (.prog acc) d s) u:=by rw [Ev.Qbo h];exact (Qs.Qiy hk).ev
def Q02 (B g:Nat) (L:List Tk) (w0:World) (R0:Bx) (t7:Value) (wr:World):Prop:=
 ∃(o2:Except Qq PS) (R2:Bx) (acc:List Int),Ar B g L w0 R0 0 wr R2 o2 t7 acc/\Qc o2 L.length L.length/\acc.length<=201/\(∀s,o2= .ok s->acc.length<=200)/\
  ∀u,Does o2 (λs n=>Qac n (.prog acc) 0 s) u->Does (.ok ⟨L,[],[]⟩) (λs n=>Qac n (.prog []) 0 s) u
theorem Wmy {L:List Tk} (tb tc:Nat) (w:World) (B:Nat) (hT:Co w) (hB:Vw<=B) (hBs:B<=w.heap.size) (hL:IsL L) (ho:w.ownsRow B 69 4 (.slice (some ⟨tb,0,none⟩) L.length tc) L.length (Ey L)) (htb:B<=tb):
  Qw B w.heap.size L (w.alloc (.cells #[.slice (some ⟨tb,0,none⟩) L.length tc,.int .i64 0,.int .i64 0,.slice none 0 0,.slice none 0 0,.int .i64 0,.int .i64 0] 67)) ⟨tb,tc,.slice none 0 0,.slice none 0 0,λ_=>False⟩ 0 (.ok ⟨L,[],[]⟩):=by
 have hbb:Below w.heap.size w (w.alloc (.cells #[.slice (some ⟨tb,0,none⟩) L.length tc,.int .i64 0,.int .i64 0,.slice none 0 0,.slice none 0 0,.int .i64 0,.int .i64 0] 67)):=Qag;have hlt:=(ho.lt tb rfl).2;refine ⟨0,[],⟨⟨Held.new w _ _,?_,?_,htb,?_,⟨rfl,.inl ⟨rfl,rfl⟩⟩,⟨rfl,.inl ⟨rfl,rfl⟩⟩,(λx hx=>by cases hx),(λx hx=>by cases hx),hBs,hL.fin,hL.many,hT.keep (λk hk=>hbb.block k (by have:=hT.size;omega)),hB,(λk hk=>hk.elim)⟩,rfl,hL.some,by simp,(λx hx=>by cases hx)⟩,rfl,rfl⟩
 ·intro j u hj;have h1:=ho.cells (g:=tb) rfl j u hj;rw [Qef]at h1;have h2:=hbb.cell (p:=⟨tb,j,none⟩) hlt;rw [Bq];exact h2.trans h1
 ·exact Fe hlt hbb.size
 ·rcases ho.2 with ⟨h1,_⟩ |⟨g',cap,cur,h1,_,h3,_⟩
  ·cases h1
  ·injection h1 with h1
   injection h1 with h1
   injection h1 with h1
   subst h1;exact ⟨cur,(0,0),(hbb.block _ hlt).trans h3⟩
end
end Go.Proofs.YtdncpkkhkbijfaaGreatDoor
