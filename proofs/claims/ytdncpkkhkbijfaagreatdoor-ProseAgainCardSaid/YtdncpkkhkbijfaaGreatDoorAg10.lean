import Derived.Test.YtdncpkkhkbijfaaGreatDoorAg9
import Derived.StillTailTactics
import Derived.IntWalk
open Go.Proofs.Tryz
set_option linter.all false
set_option maxHeartbeats 0
set_option maxRecDepth 100000
namespace Go.Proofs.YtdncpkkhkbijfaaGreatDoor
section
open Go.RowKit
def Qpv (r:List UInt8) (q:Nat) (e:Ending):Prop:=
 (er r=0/\e= .returned (.tuple #[.agg (tkv (tk r q)).toArray,.int .i64 0]))\/(er r≠0/\e= .returned (.tuple #[.agg #[.int .i64 0,.string ⟨#[]⟩,.int .i64 0,.int .i64 0],.int .i64 (er r:Int)]))
theorem Qel {r:List UInt8} {q:Nat} {e:Ending} (k:Nat) (X:ByteArray) (n:Nat) (he:er r=0) (hk:Bl (k0 r) (r.take (ln r))=k) (hX:X=⟨(r.take (ln r)).toArray⟩) (hn:Kv (k0 r) (r.take (ln r))=n) (h:e= .returned (.tuple #[.agg #[.int .i64 (k:Int),.string X,.int .i64 (n:Int),.int .i64 (q:Int)],.int .i64 0])):Qpv r q e:=by subst hk hX hn h;exact .inl ⟨he,rfl⟩
theorem Qid {r:List UInt8} {q:Nat} {e:Ending} (x:Nat) (he:er r=x) (hx:x≠0) (h:e= .returned (.tuple #[.agg #[.int .i64 0,.string ⟨#[]⟩,.int .i64 0,.int .i64 0],.int .i64 (x:Int)])):Qpv r q e:=by subst he h;exact .inr ⟨hx,rfl⟩
structure Hold (w V:World) (A:Nat):Prop where
 out:Held V A 69 #[.int .i64 0,.string ⟨#[]⟩,.int .i64 0,.int .i64 0]
 Ti:Below w.heap.size w V
 low:w.heap.size<=A
theorem Hold.tell {w V:World} {A:Nat} (h:Hold w V A) (k:Int) (S:ByteArray) (n p:Int):
  ∃W',W'=((((V.setCell ⟨A,0,none⟩ (.int .i64 k)).setCell ⟨A,1,none⟩ (.string S)).setCell ⟨A,2,none⟩ (.int .i64 n)).setCell ⟨A,3,none⟩ (.int .i64 p))/\Held W' A 69 #[.int .i64 k,.string S,.int .i64 n,.int .i64 p]/\Below w.heap.size w W':=
 ⟨_,rfl,(((h.out.set 0 _).set 1 _).set 2 _).set 3 _,(((h.Ti.setCell h.low _).setCell h.low _).setCell h.low _).setCell h.low _⟩
theorem Hold.then_ {w V V':World} {A:Nat} (h:Hold w V A) (hb:Below V.heap.size V V'):Hold w V' A:=⟨h.out.since hb,h.Ti.trans (hb.mono h.Ti.size),h.low⟩
theorem Qpf {l:List UInt8} (h:0<l.length): ∃c cs,l=c::cs:=by
 cases l with
 |nil=>simp at h
 |cons c cs=>exact ⟨c,cs,rfl⟩
theorem Qyv {n:Nat} (h:Yn n=true):isLt n=false:=by unfold Yn at h;unfold isLt;simp only [Yo,Wt]at h;rw [decide_eq_false (by omega: ¬97<=n),decide_eq_false (by omega: ¬65<=n),show (n==95)=false from beq_eq_false_iff_ne.2 (by omega)];rfl
theorem Wag {l:List UInt8} (h:0<l.length) (hd:Yn (bt l 0)=true):k0 l=2/\ln l=rn Yn l:=by
 obtain ⟨c,cs,rfl⟩:=Qpf h;have hd':Yn c.toNat=true:=hd;have hl:=Qyv hd';constructor
 ·show (if isLt c.toNat then 1 else if Yn c.toNat then 2 else 4)=2;rw [hl,hd'];rfl
 ·show (if isLt c.toNat then _ else if Yn c.toNat then _ else _)=_;rw [hl,hd'];rfl
theorem Qpx {l:List UInt8} (h:0<l.length) (hd:isLt (bt l 0)=true):k0 l=1/\ln l=rn Vt l:=by
 obtain ⟨c,cs,rfl⟩:=Qpf h;have hd':isLt c.toNat=true:=hd;constructor
 ·show (if isLt c.toNat then 1 else if Yn c.toNat then 2 else 4)=1;rw [hd'];rfl
 ·show (if isLt c.toNat then _ else if Yn c.toNat then _ else _)=_;rw [hd'];rfl
theorem Wab {l:List UInt8} (h:0<l.length) (hd:Yn (bt l 0)=false) (hl:isLt (bt l 0)=false):k0 l=4/\ln l=Y4 (bt l 0) (bt l 1):=by
 obtain ⟨c,cs,rfl⟩:=Qpf h;have hd':Yn c.toNat=false:=hd;have hl':isLt c.toNat=false:=hl;constructor
 ·show (if isLt c.toNat then 1 else if Yn c.toNat then 2 else 4)=4;rw [hl',hd'];rfl
 ·show (if isLt c.toNat then _ else if Yn c.toNat then _ else Y4 c.toNat (bt cs 0))=_;rw [hl',hd'];rfl
theorem Qma (p:Nat->Bool): ∀(l:List UInt8) (k:Nat),k<rn p l->p (bt l k)=true
 | [],k,h=>by simp [rn]at h
 |c::cs,k,h=>by
  unfold rn at h;split at h
  ·rename_i g;cases k with
   |zero=>exact g
   |succ k=>exact Qma p cs k (by omega)
  ·omega
theorem Qet {s:ByteArray} {l:List UInt8} (hl:l=s.data.toList) (m:Nat):s.extract 0 m=⟨(l.take m).toArray⟩:=by apply ByteArray.ext;apply Array.toList_inj.1;rw [Qce,<-hl]
theorem Wlj (s:ByteArray) (q:Nat) (w:World) (hs:s.size<=1000000) (h0:0<s.size):
  Calls prog 68 #[.string s,.int .i64 (q:Int)] w λe w'=>Qpv s.data.toList q e/\Below w.heap.size w w':=by
 obtain ⟨l,hl⟩:=Qb s.data.toList;have hlen:l.length=s.size:=by rw [hl];exact Au
 have HLEN:=Qa hlen;rw [<-hl];have HL:=Qa hl;have X3:Hid (0<l.length):=by show 0<l.length;rw [hlen];exact h0
 have HB0:=Qa (Hq hl h0);clear hl hlen;have h0i:(0:Int)<(s.size:Int):=by omega
 go_enter func68,ntmps68;go_wp2_with fail;obtain ⟨W,hW⟩:=Qb (w.alloc (.cells #[.int .i64 0,.string ⟨#[]⟩,.int .i64 0,.int .i64 0] 69));rw [<-hW];obtain ⟨A,hA⟩:=Qb w.heap.size;have HD:Hid (Hold w W A):=by rw [hW,hA];exact ⟨Held.new _ _ _,Qag,Qh _⟩
 rw [<-hA];clear hW hA;have a0:W.cell? ⟨A,0,none⟩=some (.int .i64 0):=HD.out.out.at_ rfl;have a1:W.cell? ⟨A,1,none⟩=some (.string ⟨#[]⟩):=HD.out.out.at_ rfl;have a2:W.cell? ⟨A,2,none⟩=some (.int .i64 0):=HD.out.out.at_ rfl;have a3:W.cell? ⟨A,3,none⟩=some (.int .i64 0):=HD.out.out.at_ rfl;have z0:=HD.out.out.frozen 0;have z1:=HD.out.out.frozen 1;have z2:=HD.out.out.frozen 2;have z3:=HD.out.out.frozen 3;refine (Qqc s[0].toNat W).mono ?_;rintro e w1 ⟨rfl,hw1⟩;rw [hw1,<-HB0.out];clear hw1 w1;cases hdig:Cm (bt l 0)with
 |true=>
  have HDG:Hid (k0 l=2/\ln l=rn Yn l):=Wag X3.out hdig;have Xj:Hid (0<rn Yn l):=by show 0<rn Yn l;have:=Qc2 (p:=Yn) X3.out hdig;rw [List.drop_zero]at this;omega
  clear hdig;obtain ⟨m,hm⟩:=Qb (rn Yn l);have hml:m<=s.size:=by rw [hm,<-HLEN.out];exact Qgz _ _
  have HM:=Qa hm;clear hm;go_wp2_with fail;go_loop [6] (λi=> ∃k:Nat,k<=s.size/\i= .int .i64 (k:Int)/\Hid (m=k+rn Yn (l.drop k))) (λi=>s.size-(intOf i).toNat)
  case atStart=>exact ⟨0,Vh _,rfl,(show m=0+rn Yn (l.drop 0) by rw [HM.out,List.drop_zero];omega)⟩
  case round=>
   obtain ⟨k,hk,rfl,hK⟩:=hrel;by_cases hlt:k<s.size
   ·have hb:=Qa (Hq HL.out hlt);have hkl:Hid (k<l.length):=(by show k<l.length;rw [HLEN.out];exact hlt);go_wp2_with fail;refine (Qqc s[k].toNat W).mono ?_;rintro e w1 ⟨rfl,hw1⟩;rw [hw1,<-hb.out];clear hw1 w1;cases hp:Cm (bt l k)with
    |true=>
     have HP:Hid (Yn (bt l k)=true):=hp;clear hp;go_wp2_with fail;go_round
     case rel=>exact ⟨k+1,by omega,by go_num,(show m=k+1+rn Yn (l.drop (k+1)) by rw [hK.out,Qc2 hkl.out HP.out];omega)⟩
     case measure=>simp [intOf];omega
    |false=>
     have HP:Hid (Yn (bt l k)=false):=hp;clear hp;have hkm:k=m:=(by rw [hK.out,Qot hkl.out HP.out];rfl);clear hb hkl HP hlt hk hK;subst hkm;have hmi:(k:Int)<=(s.size:Int):=(by omega);go_wp2_with fail;refine (Q1r (s.extract 0 k) W (by rw [size_extract s k (by omega)];omega) (λj hj=>by
      rw [Qce,<-HL.out]at hj ⊢;rw [F9]at hj;rw [Ql9 (by omega)];exact Qma Yn l j (by rw [<-HM.out];omega))).mono ?_;rintro e w1 ⟨rfl,hw1⟩;rw [hw1,Qce,<-HL.out];clear hw1 w1;have HE:Hid (l.take (ln l)=l.take k):=(by show l.take (ln l)=l.take k;rw [HDG.out.2,<-HM.out]);have Ms:=Qa HDG.out.1;have Yk:Hid (¬ln l=0):=by
      show¬ln l=0;rw [HDG.out.2];intro e;have h1:=Qgz Yn l;exact absurd e (by have:=Xj.out;omega)
     cases J5:num (l.take k)with
     |none=>
      have H7:Hid (er l=7):=by show er l=7;unfold er Kw;rw [Qd Yk.out,Qk Ms.out,HE.out,J5];rfl
      unfold Mr;rw [J5];clear J5;go_wp2_with fail;obtain ⟨W',hW',hH,hBel⟩:=HD.out.tell 0 (⟨#[]⟩) 0 0;rw [<-hW'];have c0:W'.cell? ⟨A,0,none⟩=some (.int .i64 0):=hH.at_ rfl;have c1:W'.cell? ⟨A,1,none⟩=some (.string (⟨#[]⟩)):=hH.at_ rfl;have c2:W'.cell? ⟨A,2,none⟩=some (.int .i64 0):=hH.at_ rfl;have c3:W'.cell? ⟨A,3,none⟩=some (.int .i64 0):=hH.at_ rfl;clear hW' hH;exact bodyPost_ret (v:=.tuple #[.agg #[.int .i64 0,.string (⟨#[]⟩),.int .i64 0,.int .i64 0],.int .i64 7]) (by simp [results,results68,go_sem,c0,c1,c2,c3]) rfl ⟨Qid 7 H7.out (by decide) rfl,hBel⟩
     |some n=>
      have Vp:Hid (er l=0):=by show er l=0;unfold er Kw;rw [Qd Yk.out,Qk Ms.out,HE.out,J5];rfl
      have HNM:Hid (Kv (k0 l) (l.take (ln l))=n):=by show Kv (k0 l) (l.take (ln l))=n;unfold Kv;rw [Qk Ms.out,HE.out,J5];rfl
      unfold Mr;rw [J5];clear J5;go_wp2_with fail;obtain ⟨W',hW',hH,hBel⟩:=HD.out.tell 2 (s.extract 0 k) (n:Int) (q:Int);rw [<-hW'];have c0:W'.cell? ⟨A,0,none⟩=some (.int .i64 2):=hH.at_ rfl;have c1:W'.cell? ⟨A,1,none⟩=some (.string (s.extract 0 k)):=hH.at_ rfl;have c2:W'.cell? ⟨A,2,none⟩=some (.int .i64 (n:Int)):=hH.at_ rfl;have c3:W'.cell? ⟨A,3,none⟩=some (.int .i64 (q:Int)):=hH.at_ rfl;clear hW' hH;exact bodyPost_ret (v:=.tuple #[.agg #[.int .i64 2,.string (s.extract 0 k),.int .i64 (n:Int),.int .i64 (q:Int)],.int .i64 0]) (by simp [results,results68,go_sem,c0,c1,c2,c3]) rfl ⟨Qel 2 _ n Vp.out (by unfold Bl;rw [Ms.out];rfl) (by rw [HE.out];exact Qet HL.out k) HNM.out rfl,hBel⟩
   ·have hkm:k=m:=(by rw [hK.out,Qmr (by rw [HLEN.out];omega)];rfl);clear hK;subst hkm;have hmi:(k:Int)<=(s.size:Int):=(by omega);go_wp2_with fail;refine (Q1r (s.extract 0 k) W (by rw [size_extract s k (by omega)];omega) (λj hj=>by
     rw [Qce,<-HL.out]at hj ⊢;rw [F9]at hj;rw [Ql9 (by omega)];exact Qma Yn l j (by rw [<-HM.out];omega))).mono ?_;rintro e w1 ⟨rfl,hw1⟩;rw [hw1,Qce,<-HL.out];clear hw1 w1;have HE:Hid (l.take (ln l)=l.take k):=(by show l.take (ln l)=l.take k;rw [HDG.out.2,<-HM.out]);have Ms:=Qa HDG.out.1;have Yk:Hid (¬ln l=0):=by
     show¬ln l=0;rw [HDG.out.2];intro e;have h1:=Qgz Yn l;exact absurd e (by have:=Xj.out;omega)
    cases J5:num (l.take k)with
    |none=>
     have H7:Hid (er l=7):=by show er l=7;unfold er Kw;rw [Qd Yk.out,Qk Ms.out,HE.out,J5];rfl
     unfold Mr;rw [J5];clear J5;go_wp2_with fail;obtain ⟨W',hW',hH,hBel⟩:=HD.out.tell 0 (⟨#[]⟩) 0 0;rw [<-hW'];have c0:W'.cell? ⟨A,0,none⟩=some (.int .i64 0):=hH.at_ rfl;have c1:W'.cell? ⟨A,1,none⟩=some (.string (⟨#[]⟩)):=hH.at_ rfl;have c2:W'.cell? ⟨A,2,none⟩=some (.int .i64 0):=hH.at_ rfl;have c3:W'.cell? ⟨A,3,none⟩=some (.int .i64 0):=hH.at_ rfl;clear hW' hH;exact bodyPost_ret (v:=.tuple #[.agg #[.int .i64 0,.string (⟨#[]⟩),.int .i64 0,.int .i64 0],.int .i64 7]) (by simp [results,results68,go_sem,c0,c1,c2,c3]) rfl ⟨Qid 7 H7.out (by decide) rfl,hBel⟩
    |some n=>
     have Vp:Hid (er l=0):=by show er l=0;unfold er Kw;rw [Qd Yk.out,Qk Ms.out,HE.out,J5];rfl
     have HNM:Hid (Kv (k0 l) (l.take (ln l))=n):=by show Kv (k0 l) (l.take (ln l))=n;unfold Kv;rw [Qk Ms.out,HE.out,J5];rfl
     unfold Mr;rw [J5];clear J5;go_wp2_with fail;obtain ⟨W',hW',hH,hBel⟩:=HD.out.tell 2 (s.extract 0 k) (n:Int) (q:Int);rw [<-hW'];have c0:W'.cell? ⟨A,0,none⟩=some (.int .i64 2):=hH.at_ rfl;have c1:W'.cell? ⟨A,1,none⟩=some (.string (s.extract 0 k)):=hH.at_ rfl;have c2:W'.cell? ⟨A,2,none⟩=some (.int .i64 (n:Int)):=hH.at_ rfl;have c3:W'.cell? ⟨A,3,none⟩=some (.int .i64 (q:Int)):=hH.at_ rfl;clear hW' hH;exact bodyPost_ret (v:=.tuple #[.agg #[.int .i64 2,.string (s.extract 0 k),.int .i64 (n:Int),.int .i64 (q:Int)],.int .i64 0]) (by simp [results,results68,go_sem,c0,c1,c2,c3]) rfl ⟨Qel 2 _ n Vp.out (by unfold Bl;rw [Ms.out];rfl) (by rw [HE.out];exact Qet HL.out k) HNM.out rfl,hBel⟩
 |false=>
  have HDG:Hid (Yn (bt l 0)=false):=hdig;clear hdig;obtain ⟨m,hm⟩:=Qb (if isLt (bt l 0)=true then rn Vt l else 0);have HM:=Qa hm;clear hm;go_wp2_with fail;go_loop [6] (λi=> ∃k:Nat,k<=s.size/\i= .int .i64 (k:Int)/\Hid (0<k->isLt (bt l 0)=true/\m=k+rn Vt (l.drop k))) (λi=>s.size-(intOf i).toNat)
  case atStart=>exact ⟨0,Vh _,rfl,λh=>by omega⟩
  case round=>
   obtain ⟨k,hk,rfl,hK⟩:=hrel;by_cases hlt:k<s.size
   ·have hb:=Qa (Hq HL.out hlt);have hkl:Hid (k<l.length):=(by show k<l.length;rw [HLEN.out];exact hlt);by_cases hk0:k=0
    ·subst hk0;go_wp2_with fail;refine (Q5k s[0].toNat W).mono ?_;rintro e w1 ⟨rfl,hw1⟩;rw [hw1,<-hb.out];clear hw1 w1;cases hp:Hg (bt l 0)with
     |true=>
      have HP:=Qa hp;clear hp;go_wp2_with fail;go_round
      case rel=>exact ⟨1,by omega,rfl,λ_=>by have e:isLt (bt l 0)=true:=HP.out;refine ⟨e,?_⟩;rw [HM.out,Qk e];have:=Qc2 (p:=Vt) hkl.out (by unfold Vt;rw [e];rfl);rw [List.drop_zero]at this;rw [this]⟩
      case measure=>simp [intOf];omega
     |false=>
      have Ai:Hid (isLt (bt l 0)=false):=hp;clear hp hb hkl;have Iq:Hid (k0 l=4/\ln l=Y4 (bt l 0) (bt l 1)):=Wab X3.out HDG.out Ai.out;clear HDG Ai;obtain ⟨z,hz⟩:=Qb (Y4 (bt l 0) (bt l 1));have hzs:z<=s.size:=(by rw [hz,<-Iq.out.2,<-HLEN.out];exact Qgf l);have HZ:Hid (ln l=z):=(by show ln l=z;rw [hz];exact Iq.out.2);clear a0 a1 a2 a3 z0 z1 z2 z3;go_wp2_with fail;refine (Wbt s W (by omega) h0).mono ?_;rintro e w1 ⟨rfl,hb1⟩;rw [<-HL.out,<-hz];clear hz;have HD1:=Qa (HD.out.then_ hb1);clear hb1 HD;have a0:w1.cell? ⟨A,0,none⟩=some (.int .i64 0):=HD1.out.out.at_ rfl;have a1:w1.cell? ⟨A,1,none⟩=some (.string ⟨#[]⟩):=HD1.out.out.at_ rfl;have a2:w1.cell? ⟨A,2,none⟩=some (.int .i64 0):=HD1.out.out.at_ rfl;have a3:w1.cell? ⟨A,3,none⟩=some (.int .i64 0):=HD1.out.out.at_ rfl;have z0:=HD1.out.out.frozen 0;have z1:=HD1.out.out.frozen 1;have z2:=HD1.out.out.frozen 2;have z3:=HD1.out.out.frozen 3;by_cases hz0:z=0
      ·have hz1:((z:Int)==0)=true:=(by rw [hz0];rfl);have H6:Hid (er l=6):=by show er l=6;unfold er Kw;exact Qk (HZ.out.trans hz0)
       clear hz0;go_wp2_with fail;obtain ⟨W',hW',hH,hBel⟩:=HD1.out.tell 0 (⟨#[]⟩) 0 0;rw [<-hW'];have c0:W'.cell? ⟨A,0,none⟩=some (.int .i64 0):=hH.at_ rfl;have c1:W'.cell? ⟨A,1,none⟩=some (.string (⟨#[]⟩)):=hH.at_ rfl;have c2:W'.cell? ⟨A,2,none⟩=some (.int .i64 0):=hH.at_ rfl;have c3:W'.cell? ⟨A,3,none⟩=some (.int .i64 0):=hH.at_ rfl;clear hW' hH;exact bodyPost_ret (v:=.tuple #[.agg #[.int .i64 0,.string (⟨#[]⟩),.int .i64 0,.int .i64 0],.int .i64 6]) (by simp [results,results68,go_sem,c0,c1,c2,c3]) rfl ⟨Qid 6 H6.out (by decide) rfl,hBel⟩
      ·have hz1:((z:Int)==0)=false:=(by simp;omega);have Vp:Hid (er l=0):=by show er l=0;unfold er Kw;rw [Qd (by rw [HZ.out];exact hz0),Iq.out.1,Qd (by decide),Qd (λh=>by cases h.1),Qd (λh=>by cases h.1)]
       clear hz0;go_wp2_with fail;obtain ⟨W',hW',hH,hBel⟩:=HD1.out.tell 4 (s.extract 0 z) 0 (q:Int);rw [<-hW'];have c0:W'.cell? ⟨A,0,none⟩=some (.int .i64 4):=hH.at_ rfl;have c1:W'.cell? ⟨A,1,none⟩=some (.string (s.extract 0 z)):=hH.at_ rfl;have c2:W'.cell? ⟨A,2,none⟩=some (.int .i64 0):=hH.at_ rfl;have c3:W'.cell? ⟨A,3,none⟩=some (.int .i64 (q:Int)):=hH.at_ rfl;clear hW' hH;exact bodyPost_ret (v:=.tuple #[.agg #[.int .i64 4,.string (s.extract 0 z),.int .i64 0,.int .i64 (q:Int)],.int .i64 0]) (by simp [results,results68,go_sem,c0,c1,c2,c3]) rfl ⟨Qel 4 _ 0 Vp.out (by unfold Bl;rw [Iq.out.1];rfl) (by rw [HZ.out];exact Qet HL.out z) (by unfold Kv;rw [Iq.out.1];rfl) rfl,hBel⟩
    ·have hk1:(0:Int)<(k:Int):=(by omega);have hkk:=hK.out (by omega);have Ai:=Qa hkk.1;have HKK:=Qa hkk.2;clear hkk hK;go_wp2_with fail;refine (Q5k s[k].toNat W).mono ?_;rintro e w1 ⟨rfl,hw1⟩;rw [hw1,<-hb.out];clear hw1 w1;cases hp:Hg (bt l k)with
     |true=>
      have HP:Hid (isLt (bt l k)=true):=hp;clear hp;go_wp2_with fail;go_round
      case rel=>exact ⟨k+1,by omega,by go_num,λ_=>⟨Ai.out,by rw [HKK.out,Qc2 hkl.out (by unfold Vt;rw [HP.out];rfl)];omega⟩⟩
      case measure=>simp [intOf];omega
     |false=>
      have HP:Hid (isLt (bt l k)=false):=hp;clear hp;go_wp2_with fail;refine (Qqc s[k].toNat W).mono ?_;rintro e w1 ⟨rfl,hw1⟩;rw [hw1,<-hb.out];clear hw1 w1;cases hp2:Cm (bt l k)with
      |true=>
       have Gl:Hid (Yn (bt l k)=true):=hp2;clear hp2;go_wp2_with fail;go_round
       case rel=>exact ⟨k+1,by omega,by go_num,λ_=>⟨Ai.out,by rw [HKK.out,Qc2 hkl.out (by unfold Vt;rw [HP.out,Gl.out];rfl)];omega⟩⟩
       case measure=>simp [intOf];omega
      |false=>
       have Gl:Hid (Yn (bt l k)=false):=hp2;clear hp2;have hkm:k=m:=(by rw [HKK.out,Qot hkl.out (by unfold Vt;rw [HP.out,Gl.out];rfl)];rfl);clear hb hkl HP Gl hlt HKK hk0;subst hkm;have hmi:(k:Int)<=(s.size:Int):=(by omega);have Ew:=Qa (Qpx X3.out Ai.out);have HE:Hid (l.take (ln l)=l.take k):=(by show l.take (ln l)=l.take k;rw [Ew.out.2,HM.out,Qk Ai.out]);have Yk:Hid (ln l=k):=(by show ln l=k;rw [Ew.out.2,HM.out,Qk Ai.out]);have hk0:0<k:=(by omega);clear a0 a1 a2 a3 z0 z1 z2 z3 Ai;go_wp2_with fail;refine (Qz5 (s.extract 0 k) W).mono ?_;rintro e w1 ⟨rfl,hb1⟩;rw [Qce,<-HL.out];have HD1:=Qa (HD.out.then_ hb1);clear hb1 HD;have a0:w1.cell? ⟨A,0,none⟩=some (.int .i64 0):=HD1.out.out.at_ rfl;have a1:w1.cell? ⟨A,1,none⟩=some (.string ⟨#[]⟩):=HD1.out.out.at_ rfl;have a2:w1.cell? ⟨A,2,none⟩=some (.int .i64 0):=HD1.out.out.at_ rfl;have a3:w1.cell? ⟨A,3,none⟩=some (.int .i64 0):=HD1.out.out.at_ rfl;have z0:=HD1.out.out.frozen 0;have z1:=HD1.out.out.frozen 1;have z2:=HD1.out.out.frozen 2;have z3:=HD1.out.out.frozen 3;cases hkey:Tg (l.take k)with
       |true=>
        have HKEY:Hid (isKey (l.take k)=true):=hkey;clear hkey;have Vp:Hid (er l=0):=by show er l=0;unfold er Kw;rw [Qd (by rw [Yk.out];omega),Ew.out.1,Qd (by decide),HE.out,Qk ⟨rfl,HKEY.out⟩]
        go_wp2_with fail;obtain ⟨W',hW',hH,hBel⟩:=HD1.out.tell 3 (s.extract 0 k) 0 (q:Int);rw [<-hW'];have c0:W'.cell? ⟨A,0,none⟩=some (.int .i64 3):=hH.at_ rfl;have c1:W'.cell? ⟨A,1,none⟩=some (.string (s.extract 0 k)):=hH.at_ rfl;have c2:W'.cell? ⟨A,2,none⟩=some (.int .i64 0):=hH.at_ rfl;have c3:W'.cell? ⟨A,3,none⟩=some (.int .i64 (q:Int)):=hH.at_ rfl;clear hW' hH;exact bodyPost_ret (v:=.tuple #[.agg #[.int .i64 3,.string (s.extract 0 k),.int .i64 0,.int .i64 (q:Int)],.int .i64 0]) (by simp [results,results68,go_sem,c0,c1,c2,c3]) rfl ⟨Qel 3 _ 0 Vp.out (by unfold Bl;rw [Ew.out.1,HE.out];exact Qk ⟨rfl,HKEY.out⟩) (by rw [HE.out];exact Qet HL.out k) (by unfold Kv;rw [Ew.out.1];rfl) rfl,hBel⟩
       |false=>
        have HKEY:Hid (isKey (l.take k)=false):=hkey;clear hkey;by_cases hlong:32<k
        ·have hl':(32:Int)<(k:Int):=(by omega);have H3:Hid (er l=3):=by show er l=3;unfold er Kw;rw [Qd (by rw [Yk.out];omega),Ew.out.1,Qd (by decide),HE.out,Qd (λh=>by rw [HKEY.out]at h;exact absurd h.2 (by decide)),Qk ⟨rfl,by rw [Yk.out];exact hlong⟩]
         go_wp2_with fail;obtain ⟨W',hW',hH,hBel⟩:=HD1.out.tell 0 (⟨#[]⟩) 0 0;rw [<-hW'];have c0:W'.cell? ⟨A,0,none⟩=some (.int .i64 0):=hH.at_ rfl;have c1:W'.cell? ⟨A,1,none⟩=some (.string (⟨#[]⟩)):=hH.at_ rfl;have c2:W'.cell? ⟨A,2,none⟩=some (.int .i64 0):=hH.at_ rfl;have c3:W'.cell? ⟨A,3,none⟩=some (.int .i64 0):=hH.at_ rfl;clear hW' hH;exact bodyPost_ret (v:=.tuple #[.agg #[.int .i64 0,.string (⟨#[]⟩),.int .i64 0,.int .i64 0],.int .i64 3]) (by simp [results,results68,go_sem,c0,c1,c2,c3]) rfl ⟨Qid 3 H3.out (by decide) rfl,hBel⟩
        ·have hl': ¬(32:Int)<(k:Int):=(by omega);have Vp:Hid (er l=0):=by show er l=0;unfold er Kw;rw [Qd (by rw [Yk.out];omega),Ew.out.1,Qd (by decide),HE.out,Qd (λh=>by rw [HKEY.out]at h;exact absurd h.2 (by decide)),Qd (λh=>by have:=h.2;rw [Yk.out]at this;exact hlong this)]
         go_wp2_with fail;obtain ⟨W',hW',hH,hBel⟩:=HD1.out.tell 1 (s.extract 0 k) 0 (q:Int);rw [<-hW'];have c0:W'.cell? ⟨A,0,none⟩=some (.int .i64 1):=hH.at_ rfl;have c1:W'.cell? ⟨A,1,none⟩=some (.string (s.extract 0 k)):=hH.at_ rfl;have c2:W'.cell? ⟨A,2,none⟩=some (.int .i64 0):=hH.at_ rfl;have c3:W'.cell? ⟨A,3,none⟩=some (.int .i64 (q:Int)):=hH.at_ rfl;clear hW' hH;exact bodyPost_ret (v:=.tuple #[.agg #[.int .i64 1,.string (s.extract 0 k),.int .i64 0,.int .i64 (q:Int)],.int .i64 0]) (by simp [results,results68,go_sem,c0,c1,c2,c3]) rfl ⟨Qel 1 _ 0 Vp.out (by unfold Bl;rw [Ew.out.1,HE.out];exact Qd (λh=>by rw [HKEY.out]at h;exact absurd h.2 (by decide))) (by rw [HE.out];exact Qet HL.out k) (by unfold Kv;rw [Ew.out.1];rfl) rfl,hBel⟩
   ·have hkk:=hK.out (by omega);have hkm:k=m:=(by rw [hkk.2,Qmr (by rw [HLEN.out];omega)];rfl);have Ai:=Qa hkk.1;have hk1:(0:Int)<(k:Int):=(by omega);clear hkk hK;subst hkm;have hmi:(k:Int)<=(s.size:Int):=(by omega);have Ew:=Qa (Qpx X3.out Ai.out);have HE:Hid (l.take (ln l)=l.take k):=(by show l.take (ln l)=l.take k;rw [Ew.out.2,HM.out,Qk Ai.out]);have Yk:Hid (ln l=k):=(by show ln l=k;rw [Ew.out.2,HM.out,Qk Ai.out]);have hk0:0<k:=(by omega);clear a0 a1 a2 a3 z0 z1 z2 z3 Ai;go_wp2_with fail;refine (Qz5 (s.extract 0 k) W).mono ?_;rintro e w1 ⟨rfl,hb1⟩;rw [Qce,<-HL.out];have HD1:=Qa (HD.out.then_ hb1);clear hb1 HD;have a0:w1.cell? ⟨A,0,none⟩=some (.int .i64 0):=HD1.out.out.at_ rfl;have a1:w1.cell? ⟨A,1,none⟩=some (.string ⟨#[]⟩):=HD1.out.out.at_ rfl;have a2:w1.cell? ⟨A,2,none⟩=some (.int .i64 0):=HD1.out.out.at_ rfl;have a3:w1.cell? ⟨A,3,none⟩=some (.int .i64 0):=HD1.out.out.at_ rfl;have z0:=HD1.out.out.frozen 0;have z1:=HD1.out.out.frozen 1;have z2:=HD1.out.out.frozen 2;have z3:=HD1.out.out.frozen 3;cases hkey:Tg (l.take k)with
    |true=>
     have HKEY:Hid (isKey (l.take k)=true):=hkey;clear hkey;have Vp:Hid (er l=0):=by show er l=0;unfold er Kw;rw [Qd (by rw [Yk.out];omega),Ew.out.1,Qd (by decide),HE.out,Qk ⟨rfl,HKEY.out⟩]
     go_wp2_with fail;obtain ⟨W',hW',hH,hBel⟩:=HD1.out.tell 3 (s.extract 0 k) 0 (q:Int);rw [<-hW'];have c0:W'.cell? ⟨A,0,none⟩=some (.int .i64 3):=hH.at_ rfl;have c1:W'.cell? ⟨A,1,none⟩=some (.string (s.extract 0 k)):=hH.at_ rfl;have c2:W'.cell? ⟨A,2,none⟩=some (.int .i64 0):=hH.at_ rfl;have c3:W'.cell? ⟨A,3,none⟩=some (.int .i64 (q:Int)):=hH.at_ rfl;clear hW' hH;exact bodyPost_ret (v:=.tuple #[.agg #[.int .i64 3,.string (s.extract 0 k),.int .i64 0,.int .i64 (q:Int)],.int .i64 0]) (by simp [results,results68,go_sem,c0,c1,c2,c3]) rfl ⟨Qel 3 _ 0 Vp.out (by unfold Bl;rw [Ew.out.1,HE.out];exact Qk ⟨rfl,HKEY.out⟩) (by rw [HE.out];exact Qet HL.out k) (by unfold Kv;rw [Ew.out.1];rfl) rfl,hBel⟩
    |false=>
     have HKEY:Hid (isKey (l.take k)=false):=hkey;clear hkey;by_cases hlong:32<k
     ·have hl':(32:Int)<(k:Int):=(by omega);have H3:Hid (er l=3):=by show er l=3;unfold er Kw;rw [Qd (by rw [Yk.out];omega),Ew.out.1,Qd (by decide),HE.out,Qd (λh=>by rw [HKEY.out]at h;exact absurd h.2 (by decide)),Qk ⟨rfl,by rw [Yk.out];exact hlong⟩]
      go_wp2_with fail;obtain ⟨W',hW',hH,hBel⟩:=HD1.out.tell 0 (⟨#[]⟩) 0 0;rw [<-hW'];have c0:W'.cell? ⟨A,0,none⟩=some (.int .i64 0):=hH.at_ rfl;have c1:W'.cell? ⟨A,1,none⟩=some (.string (⟨#[]⟩)):=hH.at_ rfl;have c2:W'.cell? ⟨A,2,none⟩=some (.int .i64 0):=hH.at_ rfl;have c3:W'.cell? ⟨A,3,none⟩=some (.int .i64 0):=hH.at_ rfl;clear hW' hH;exact bodyPost_ret (v:=.tuple #[.agg #[.int .i64 0,.string (⟨#[]⟩),.int .i64 0,.int .i64 0],.int .i64 3]) (by simp [results,results68,go_sem,c0,c1,c2,c3]) rfl ⟨Qid 3 H3.out (by decide) rfl,hBel⟩
     ·have hl': ¬(32:Int)<(k:Int):=(by omega);have Vp:Hid (er l=0):=by show er l=0;unfold er Kw;rw [Qd (by rw [Yk.out];omega),Ew.out.1,Qd (by decide),HE.out,Qd (λh=>by rw [HKEY.out]at h;exact absurd h.2 (by decide)),Qd (λh=>by have:=h.2;rw [Yk.out]at this;exact hlong this)]
      go_wp2_with fail;obtain ⟨W',hW',hH,hBel⟩:=HD1.out.tell 1 (s.extract 0 k) 0 (q:Int);rw [<-hW'];have c0:W'.cell? ⟨A,0,none⟩=some (.int .i64 1):=hH.at_ rfl;have c1:W'.cell? ⟨A,1,none⟩=some (.string (s.extract 0 k)):=hH.at_ rfl;have c2:W'.cell? ⟨A,2,none⟩=some (.int .i64 0):=hH.at_ rfl;have c3:W'.cell? ⟨A,3,none⟩=some (.int .i64 (q:Int)):=hH.at_ rfl;clear hW' hH;exact bodyPost_ret (v:=.tuple #[.agg #[.int .i64 1,.string (s.extract 0 k),.int .i64 0,.int .i64 (q:Int)],.int .i64 0]) (by simp [results,results68,go_sem,c0,c1,c2,c3]) rfl ⟨Qel 1 _ 0 Vp.out (by unfold Bl;rw [Ew.out.1,HE.out];exact Qd (λh=>by rw [HKEY.out]at h;exact absurd h.2 (by decide))) (by rw [HE.out];exact Qet HL.out k) (by unfold Kv;rw [Ew.out.1];rfl) rfl,hBel⟩
theorem Qwi (L:List Tk) (t:Tk):Ey (L++[t])=Ey L++tkv t:=by unfold Ey;rw [List.flatMap_append,List.flatMap_singleton]
def Wjh (l:List UInt8) (w:World) (e:Ending) (w':World):Prop:=
 (∃L v,T l 0= .ok L/\e= .returned (.tuple #[v,.agg #[.int .i64 0,.int .i64 0]])/\Xi 69 4 w w' v L.length (Ey L))\/
 (∃x p:Nat,T l 0= .error (x,p)/\e= .returned (.tuple #[.slice none 0 0,.agg #[.int .i64 (x:Int),.int .i64 (p:Int)]])/\Below w.heap.size w w')
theorem Qzx:(prog.info? 69).map (λi=>(i.zero,i.size,i.bytes))=some (some (.agg #[.int .i64 0,.string ⟨#[]⟩,.int .i64 0,.int .i64 0]),4,40):=by kernel_rfl
theorem Qsl {w w1 w2:World} (h:Below w.heap.size w w1) (k:Below w1.heap.size w1 w2):Below w.heap.size w w2:=h.trans (k.mono h.size)
theorem Q65 {s:ByteArray} {l:List UInt8} (hl:l=s.data.toList) (p:Nat):(s.extract p s.size).data.toList=l.drop p:=by
 rw [ByteArray.data_extract];have hlen:l.length=s.size:=by rw [hl];exact Au
 simp [hl];have e:s.size-p=s.data.toList.length-p:=by rw [Qa3]
 rw [e,<-Vf,List.take_length]
def From (l:List UInt8) (L:List Tk) (p:Nat):Prop:=T l 0=(S (l.drop p) p).map (λM=>L++M)
theorem From.start (l:List UInt8):From l [] (Yh false l):=by unfold From T;rw [Bq];cases S (l.drop (Yh false l)) (Yh false l)<;>rfl
theorem From.next {l:List UInt8} {L:List Tk} {p:Nat} (h:From l L p) (hp:p<l.length) (he:er (l.drop p)=0):From l (L++[tk (l.drop p) p]) (p+off (l.drop p)):=by
 unfold From at h ⊢;have hne:l.drop p≠[]:=by intro e;have:=congrArg List.length e;rw [Vf]at this;simp at this;omega
 rw [h,Qnz p hne he];have hn:Iw (l.drop p)=l.drop (p+off (l.drop p)):=by unfold Iw;rw [List.drop_drop]
 rw [hn];cases S (l.drop (p+off (l.drop p))) (p+off (l.drop p))with
 |error x=>rfl
 |ok M=>show Except.ok (L++tk (l.drop p) p::M)=Except.ok (L++[tk (l.drop p) p]++M);rw [Qy];rfl
theorem From.bad {l:List UInt8} {L:List Tk} {p:Nat} (h:From l L p) (hp:p<l.length) (he:er (l.drop p)≠0):T l 0= .error (er (l.drop p),p):=by
 unfold From at h;have hne:l.drop p≠[]:=by intro e;have:=congrArg List.length e;rw [Vf]at this;simp at this;omega
 rw [h,Qhl p hne he];rfl
theorem From.done {l:List UInt8} {L:List Tk} {p:Nat} (h:From l L p) (hp:p=l.length):T l 0= .ok (L++[⟨0,[],0,p⟩]):=by unfold From at h;rw [h,Qla (by omega),Q48];rfl
theorem We0 (s:ByteArray) (w:World) (hs:s.size<=65536):
  Calls prog 30 #[.string s] w λe w'=>Wjh s.data.toList w e w':=by
 obtain ⟨l,hl⟩:=Qb s.data.toList;have hlen:l.length=s.size:=by rw [hl];exact Au
 have HLEN:=Qa hlen;rw [<-hl];have HL:=Qa hl;clear hl hlen;have hz:Yh false l<=s.size:=by rw [<-HLEN.out];exact Qeo _ _
 obtain ⟨z,hzz⟩:=Qb (Yh false l);rw [<-hzz]at hz;have HZ:=Qa hzz;clear hzz;go_enter func30,ntmps30;rw [Qz 7,Qz 9,Qz 10,Qz 11,Qz 12];go_wp2_with fail;obtain ⟨W,hW⟩:=Qb (w.alloc (.cells #[.int .i64 0,.int .i64 0] 29));rw [<-hW];obtain ⟨A,hA⟩:=Qb w.heap.size;have HA:Hid (w.heap.size<=A):=by show w.heap.size<=A;omega
 have HH:Hid (Held W A 29 #[.int .i64 0,.int .i64 0]):=by rw [hW,hA];exact Held.new _ _ _
 have HB:Hid (Below w.heap.size w W):=by rw [hW];exact Qag
 rw [<-hA];clear hW hA;refine (Qzs s W (by omega)).mono ?_;rintro e w1 ⟨rfl,hw1⟩;rw [hw1,<-HL.out,<-HZ.out];clear hw1 w1;go_wp2_with fail;go_loopw [4,5] (λv i wr=> ∃(p n:Nat) (L:List Tk),p<=s.size/\n<=p/\i= .int .i64 (p:Int)/\Hid (n=L.length)/\Hid (From l L p)/\Hid (Xi 69 4 W wr v n (Ey L))) (λ_ i _=>s.size-(intOf i).toNat)
 case atStart=>exact ⟨z,0,[],hz,Vh _,rfl,rfl,(show From l [] z by rw [HZ.out];exact From.start l),Xi.nil _ _ _⟩
 case round=>
  obtain ⟨p,n,L,hp,hnp,rfl,hn,hF,hV⟩:=hrel;by_cases hlt:p<s.size
  ·have hpl:Hid (p<l.length):=(by show p<l.length;rw [HLEN.out];exact hlt);go_wp2_with fail;refine (Wlj (s.extract p s.size) p wr (by rw [ByteArray.size_extract];omega) (by rw [ByteArray.size_extract];omega)).mono ?_;rintro e w1 ⟨Qdc,hb⟩;rw [Q65 HL.out p]at Qdc;obtain ⟨r,hr⟩:=Qb (l.drop p);rw [<-hr]at Qdc;rcases Qdc with ⟨he,rfl⟩ |⟨he,rfl⟩
   ·obtain ⟨k,hk⟩:=Qb ((tk r p).kind);obtain ⟨S,hS⟩:=Qb (⟨(tk r p).text.toArray⟩:ByteArray);obtain ⟨N,hN⟩:=Qb ((tk r p).n);have hcs:tkv (tk r p)=[.int .i64 (k:Int),.string S,.int .i64 (N:Int),.int .i64 (p:Int)]:=(by rw [hk,hS,hN];rfl);have hlr:=Qgf r;have hrl:r.length=s.size-p:=(by rw [hr,Vf,HLEN.out]);have hSs:S.size=ln r:=by rw [hS];show (r.take (ln r)).toArray.size=_;rw [List.size_toArray,F9];omega
    obtain ⟨E,hE⟩:=Qb (p+S.size);have hES:E<=s.size:=(by omega);have hpE:(p:Int)+(S.size:Int)=(E:Int):=(by omega);have hoff:p+off r=E+Yh false (l.drop E):=by unfold off;rw [hE,hSs,hr,List.drop_drop];omega
    have hlow:p<E:=(by have:=Qhd he;omega);have Qq3:=Qj3 r;rw [hcs];simp only [List.toArray];have HCS:=Qa hcs;have HR:=Qa hr;have Vp:=Qa he;have Qdg:=Qa hoff;have Qul:Hid (E+Yh false (l.drop E)<=s.size):=(by show E+Yh false (l.drop E)<=s.size;omega);have HB1:=Qa hb;clear hk hS hN hcs hlr hrl hSs hE hr he hoff Qq3 hb;go_wp2_with fail;refine Qn ?_;obtain ⟨W2,hW2⟩:=Qb (w1.alloc (.cells #[.int .i64 (k:Int),.string S,.int .i64 (N:Int),.int .i64 (p:Int)] 69));obtain ⟨g,hg⟩:=Qb w1.heap.size;have HG:Hid (Held W2 g 69 #[.int .i64 (k:Int),.string S,.int .i64 (N:Int),.int .i64 (p:Int)]):=(by rw [hW2,hg];exact Held.new _ _ _);have HB2:Hid (Below wr.heap.size wr W2):=(by rw [hW2];exact HB1.out.alloc HB1.out.size _);have Jm:Hid (wr.heap.size<=g):=(by show wr.heap.size<=g;rw [hg];exact HB1.out.size);have Gj:=Qa (hV.out.quiet HB2.out);rw [<-hW2,<-hg];clear hW2 hg HB1;go_wp2_with fail;refine Qn ?_;have b0:W2.cell? ⟨g,0,none⟩=some (.int .i64 (k:Int)):=HG.out.at_ rfl;have b1:W2.cell? ⟨g,1,none⟩=some (.string S):=HG.out.at_ rfl;have b2:W2.cell? ⟨g,2,none⟩=some (.int .i64 (N:Int)):=HG.out.at_ rfl;have b3:W2.cell? ⟨g,3,none⟩=some (.int .i64 (p:Int)):=HG.out.at_ rfl;go_wp2_with (at_builtin;refine Qnr rfl (.tmp 31) (.tmp 33) 53 69 (.agg #[.int .i64 0,.string ⟨#[]⟩,.int .i64 0,.int .i64 0]) 4 40 underlying53 Qzx rfl (by decide) (by decide) rfl W W2 _ n (Ey L) [.int .i64 (k:Int),.string S,.int .i64 (N:Int),.int .i64 (p:Int)] _ rfl rfl Gj.out (by omega) rfl rfl (by intro u hu;simp at hu;rcases hu with rfl |rfl |rfl |rfl<;>rfl) ?_;intro v1 w3 Rw hkeep);refine Qn ?_;have Mv:=Qa Rw;have V5:Hid (Held w3 g 69 #[.int .i64 (k:Int),.string S,.int .i64 (N:Int),.int .i64 (p:Int)]):=by refine HG.out.block (hkeep g HG.out.lt ?_);intro e;have:=hV.out.lt g e;have:=Jm.out;omega
    clear b0 b1 b2 b3 Rw hkeep HG;have b1:w3.cell? ⟨g,1,none⟩=some (.string S):=V5.out.at_ rfl;go_wp2_with fail;refine Qn ?_;go_wp2_with fail;refine (Qzs (s.extract E s.size) w3 (by rw [ByteArray.size_extract];omega)).mono ?_;rintro e w4 ⟨rfl,hw4⟩;rw [hw4,Q65 HL.out E];clear hw4 w4;have Q32:=Qul.out;obtain ⟨y,hy⟩:=Qb (Yh false (l.drop E));rw [<-hy]at Q32 ⊢;have HY:=Qa hy;clear hy;go_wp2_with fail;go_roundw
    case rel=>
     refine ⟨E+y,n+1,L++[tk r p],Q32,by omega,by go_num,?_,?_,?_⟩
     ·show n+1=(L++[tk r p]).length;rw [Qf,<-hn.out];rfl
     ·show From l (L++[tk r p]) (E+y);have:=hF.out.next hpl.out (by rw [<-HR.out];exact Vp.out);rw [<-HR.out,Qdg.out,<-HY.out]at this;exact this
     ·show Xi _ 4 W w3 v1 (n+1) (Ey (L++[tk r p]));rw [Qwi,HCS.out];exact Mv.out
    case measure=>simp [intOf];omega
   ·obtain ⟨x,hx⟩:=Qb (er r);rw [<-hx]at he ⊢;have hx0:((x:Int) != 0)=true:=(by simp;omega);have HX:Hid (T l 0= .error (x,p)):=by show T l 0= .error (x,p);rw [hx,hr];refine hF.out.bad hpl.out ?_;rw [<-hr,<-hx];exact he
    have HB1:=Qa hb;clear hx hr he hb;go_wp2_with fail;refine Qn ?_;obtain ⟨W2,hW2⟩:=Qb (w1.alloc (.cells #[.int .i64 0,.string ⟨#[]⟩,.int .i64 0,.int .i64 0] 69));have HB2:Hid (Below wr.heap.size wr W2):=(by rw [hW2];exact HB1.out.alloc HB1.out.size _);rw [<-hW2];clear hW2 HB1;have Xz:Hid (Below W.heap.size W W2):=Qsl hV.out.2 HB2.out;have Q7:Hid (Held W2 A 29 #[.int .i64 0,.int .i64 0]):=HH.out.since Xz.out;have a0:W2.cell? ⟨A,0,none⟩=some (.int .i64 0):=Q7.out.at_ rfl;have a1:W2.cell? ⟨A,1,none⟩=some (.int .i64 0):=Q7.out.at_ rfl;have z0:=Q7.out.frozen 0;have z1:=Q7.out.frozen 1;go_wp2_with fail;obtain ⟨W',hW'⟩: ∃W',W'=(W2.setCell ⟨A,0,none⟩ (.int .i64 (x:Int))).setCell ⟨A,1,none⟩ (.int .i64 (p:Int)):=⟨_,rfl⟩;have hH:Held W' A 29 #[.int .i64 (x:Int),.int .i64 (p:Int)]:=(by rw [hW'];exact (Q7.out.set 0 _).set 1 _);have hBel:Below w.heap.size w W':=by rw [hW'];exact ((Qsl HB.out Xz.out).setCell HA.out _).setCell HA.out _
    rw [<-hW'];have c0:W'.cell? ⟨A,0,none⟩=some (.int .i64 (x:Int)):=hH.at_ rfl;have c1:W'.cell? ⟨A,1,none⟩=some (.int .i64 (p:Int)):=hH.at_ rfl;clear hW' hH;exact bodyPost_ret (v:=.tuple #[.slice none 0 0,.agg #[.int .i64 (x:Int),.int .i64 (p:Int)]]) (by simp [results,results30,go_sem,c0,c1]) rfl (.inr ⟨x,p,HX.out,rfl,hBel⟩)
  ·obtain rfl:p=s.size:=(by omega);have HX:Hid (T l 0= .ok (L++[⟨0,[],0,s.size⟩])):=hF.out.done HLEN.out.symm;go_wp2_with fail;refine Qn ?_;go_wp2_with (at_builtin;refine Qnr rfl (.tmp 46) (.tmp 50) 53 69 (.agg #[.int .i64 0,.string ⟨#[]⟩,.int .i64 0,.int .i64 0]) 4 40 underlying53 Qzx rfl (by decide) (by decide) rfl W wr _ n (Ey L) [.int .i64 0,.string ⟨#[]⟩,.int .i64 0,.int .i64 (s.size:Int)] _ rfl rfl hV.out (by omega) rfl rfl (by intro u hu;simp at hu;rcases hu with rfl |rfl |rfl |rfl<;>rfl) ?_;intro v1 w3 Rw hkeep;have Mv:=Qa Rw;clear Rw hkeep;have Q9:Hid (Held w3 A 29 #[.int .i64 0,.int .i64 0]):=HH.out.since Mv.out.2;have a0:w3.cell? ⟨A,0,none⟩=some (.int .i64 0):=Q9.out.at_ rfl;have a1:w3.cell? ⟨A,1,none⟩=some (.int .i64 0):=Q9.out.at_ rfl;have z0:=Q9.out.frozen 0;have z1:=Q9.out.frozen 1);obtain ⟨W',hW'⟩: ∃W',W'=(w3.setCell ⟨A,0,none⟩ (.int .i64 0)).setCell ⟨A,1,none⟩ (.int .i64 0):=⟨_,rfl⟩;have hH:Held W' A 29 #[.int .i64 0,.int .i64 0]:=(by rw [hW'];exact (Q9.out.set 0 _).set 1 _);have hBel:Below w.heap.size w W':=by rw [hW'];exact ((Qsl HB.out Mv.out.2).setCell HA.out _).setCell HA.out _
   have hVV:Xi 69 4 w W' v1 (n+1) (Ey (L++[⟨0,[],0,s.size⟩])):=by rw [Qwi];refine Mv.out.apart HB.out ?_ hBel;intro k hk;have hlt:=HH.out.lt;have hne:k≠A:=(by omega);rw [hW',Below.heap_setCell _ _ _ _ hne,Below.heap_setCell _ _ _ _ hne]
   rw [<-hW'];have c0:W'.cell? ⟨A,0,none⟩=some (.int .i64 0):=hH.at_ rfl;have c1:W'.cell? ⟨A,1,none⟩=some (.int .i64 0):=hH.at_ rfl;clear hW' hH;have hln:(L++[(⟨0,[],0,s.size⟩:Tk)]).length=n+1:=(by rw [Qf,<-hn.out];rfl);exact bodyPost_ret (v:=.tuple #[v1,.agg #[.int .i64 0,.int .i64 0]]) (by simp [results,results30,go_sem,c0,c1]) rfl (.inl ⟨_,v1,HX.out,rfl,by rw [hln];exact hVV⟩)
end
section
open Go.RowKit
variable {B g:Nat}{L:List Tk}{w:World}{R:Bx}{p:Nat}{d e q:Int}{l:List Nd}{h:List Nat}
theorem Q43 {w V:World} {A:Nat} {t:TypeId} {a0 b0 c0 x0:Value} (h:Held V A t #[a0,b0,c0,x0]) (hb:Below w.heap.size w V) (hA:w.heap.size<=A) (a b c x:Value):
  ∃W',W'=((((V.setCell ⟨A,0,none⟩ a).setCell ⟨A,1,none⟩ b).setCell ⟨A,2,none⟩ c).setCell ⟨A,3,none⟩ x)/\Held W' A t #[a,b,c,x]/\Below w.heap.size w W':=
 ⟨_,rfl,(((h.set 0 _).set 1 _).set 2 _).set 3 _,(((hb.setCell hA _).setCell hA _).setCell hA _).setCell hA _⟩
theorem Qou (a b:List UInt8):((⟨a.toArray⟩:ByteArray).toList==(⟨b.toArray⟩:ByteArray).toList)=(a==b):=by rw [ByteArray.toList_eq,ByteArray.toList_eq]
theorem Q0w (H:Rd B g L w R p d l h e q):
  Calls prog 99 #[.pointer (some ⟨g,0,none⟩)] w λen w'=>en= .returned (.bool (e != 0))/\w'=w:=by
 have c5:=H.c5;have HH:=Qa H;clear H;go_enter func99,ntmps99;go_wp2_with fail;go_ret;exact ⟨rfl,rfl⟩
theorem Qaz {t:Tk} (H:Rd B g L w R p d l h e q) (ht:L[p]? =some t):
  Calls prog 61 #[.pointer (some ⟨g,0,none⟩)] w λen w'=>en= .returned (.agg #[.int .i64 (t.kind:Int),.string ⟨t.text.toArray⟩,.int .i64 (t.n:Int),.int .i64 (t.place:Int)])/\Below w.heap.size w w':=by
 have hp:=H.here;have hm:=H.many;obtain ⟨W,hW⟩:=Qb (w.alloc (.cells #[.int .i64 0,.string ⟨#[]⟩,.int .i64 0,.int .i64 0] 69));have HB:Hid (Below w.heap.size w W):=by rw [hW];exact Qag
 obtain ⟨G,hG⟩:=Qb w.heap.size;have HG:Hid (Held W G 69 #[.int .i64 0,.string ⟨#[]⟩,.int .i64 0,.int .i64 0]):=by rw [hW,hG];exact Held.new _ _ _
 have HW:=H.below HB.out;obtain ⟨y0,y1,y2,y3⟩:=HW.toks.at_ ht;rw [Bq]at y0 y1 y2 y3;have c0:=HW.c0;have c1:=HW.c1;have z0:=HG.out.t0;have z1:=HG.out.t1;have z2:=HG.out.t2;have z3:=HG.out.t3;have f0:=HG.out.frozen 0;have f1:=HG.out.frozen 1;have f2:=HG.out.frozen 2;have f3:=HG.out.frozen 3;obtain ⟨n,hn⟩:=Qb L.length;rw [<-hn]at hp hm c0;obtain ⟨S,hS⟩:=Qb (⟨t.text.toArray⟩:ByteArray);rw [<-hS]at y1 ⊢;obtain ⟨tb,htb⟩:=Qb R.tb;rw [<-htb]at y0 y1 y2 y3 c0;have hn0:((n:Int)==0)=false:=by simp;omega
 have HH:=Qa H;have HHW:=Qa HW;have Fa:=Qa hG;clear H HW ht hn hS htb hG;go_enter func61,ntmps61;rw [Qz 1];go_wp2_with fail;rw [<-hW,<-Fa.out];clear hW;refine Qn ?_;go_wp2_with fail;have hwr:IntKind.i64.wrap ((n:Int)-1)=(n:Int)-1:=Go.IntWalk.i64_in _ (by omega);have hmn: ¬((n:Int)-1<(p:Int)):=by omega
 go_still_tail 17,(by kernel_rfl);change wpList _ _ _ _ _ W.drew;go_wp2_with fail;obtain ⟨W',hW',hH,hBel⟩:=Q43 HG.out HB.out (by rw [Fa.out];exact Qh _) (.int .i64 (t.kind:Int)) (.string S) (.int .i64 (t.n:Int)) (.int .i64 (t.place:Int));rw [<-hW'];have x0:W'.drew.cell? ⟨G,0,none⟩=some (.int .i64 (t.kind:Int)):=hH.t0;have x1:W'.drew.cell? ⟨G,1,none⟩=some (.string S):=hH.t1;have x2:W'.drew.cell? ⟨G,2,none⟩=some (.int .i64 (t.n:Int)):=hH.t2;have x3:W'.drew.cell? ⟨G,3,none⟩=some (.int .i64 (t.place:Int)):=hH.t3;clear hW' hH;exact bodyPost_ret (v:=.agg #[.int .i64 (t.kind:Int),.string S,.int .i64 (t.n:Int),.int .i64 (t.place:Int)]) (by simp [results,results61,go_sem,x0,x1,x2,x3]) rfl ⟨rfl,hBel.drew⟩
theorem Rd.drewN (H:Rd B g L w R p d l h e q) (n:Nat):Rd B g L (w.drewN n) R p d l h e q:=H.below (Wq w n _)
theorem Ql8 (H:Rd B g L w R p d l h 0 q):
  Calls prog 99 #[.pointer (some ⟨g,0,none⟩)] w λen w'=>en= .returned (.bool false)/\w'=w:=Q0w H
theorem Qe3 (H:Rd B g L w R p d l h e q) (he:e≠0):
  Calls prog 99 #[.pointer (some ⟨g,0,none⟩)] w λen w'=>en= .returned (.bool true)/\w'=w:=by
 have:=Q0w H;have h1:(e != 0)=true:=by simpa using he
 rw [h1]at this;exact this
theorem Qq5 (H:Rd B g L w R p d l h 0 q):
  Calls prog 98 #[.pointer (some ⟨g,0,none⟩)] w λen w'=>en= .returned (.bool true)/\Below w.heap.size w w':=by
 have hp:=H.here;have c0:=H.c0;have c1:=H.c1;obtain ⟨n,hn⟩:=Qb L.length;rw [<-hn]at hp c0;have hpn:((p:Int)<(n:Int)):=by omega
 have HH:=Qa H;clear H hn;go_enter func98,ntmps98;go_wp2_with fail;go_quiet (first |(go_at_call 99;refine Calls.quiet_of_same (Ql8 (HH.out.drewN _))));go_wp2_with fail;go_ret;exact ⟨by first |rfl |simp [hp],Wq _ _ _⟩
theorem Qqv (H:Rd B g L w R p d l h e q) (he:e≠0):
  Calls prog 98 #[.pointer (some ⟨g,0,none⟩)] w λen w'=>en= .returned (.bool false)/\Below w.heap.size w w':=by
 have HH:=Qa H;have HE:=Qa he;clear H he;go_enter func98,ntmps98;go_wp2_with fail;go_quiet (first |(go_at_call 99;refine Calls.quiet_of_same (Qe3 (HH.out.drewN _) HE.out)));go_wp2_with fail;go_ret;exact ⟨rfl,Wq _ _ _⟩
theorem Z4 {w w1 w2:World} (h:Below w.heap.size w w1) (k:Below w1.heap.size w1 w2):Below w.heap.size w w2:=h.trans (k.mono h.size)
theorem Qp6 {t:Tk} (b:List UInt8) (H:Rd B g L w R p d l h 0 q) (ht:L[p]? =some t):
  Calls prog 59 #[.pointer (some ⟨g,0,none⟩),.string ⟨b.toArray⟩] w λen w'=>en= .returned (.bool (sees t b))/\Below w.heap.size w w':=by
 have HH:=Qa H;have HT:=Qa ht;clear H ht;obtain ⟨S,hS⟩:=Qb (⟨t.text.toArray⟩:ByteArray);obtain ⟨X,hX⟩:=Qb (⟨b.toArray⟩:ByteArray);have hs2:(S.toList==X.toList)=(t.text==b):=by rw [hS,hX];exact Qou _ _
 have hk3:((t.kind:Int)==3)=(t.kind==3):=by rw [Bool.eq_iff_iff];simp;omega
 have hk4:((t.kind:Int)==4)=(t.kind==4):=by rw [Bool.eq_iff_iff];simp;omega
 have J6:=Qaz HH.out HT.out;rw [<-hS]at J6;rw [<-hX];have Qwy:=Qa J6;clear J6 hS hX;obtain ⟨K,hK⟩:=Qb (t.kind:Int);obtain ⟨N,hN⟩:=Qb (t.n:Int);obtain ⟨P,hP⟩:=Qb (t.place:Int);rw [<-hK,<-hN,<-hP]at Qwy;rw [<-hK]at hk3 hk4;have M0:Hid (sees t b=((t.kind==3||t.kind==4)&&t.text==b)):=rfl;obtain ⟨V,hV⟩:=Qb (sees t b);rw [<-hV]at M0 ⊢;clear hK hN hP hV;obtain ⟨b3,hb3⟩:=Qb (t.kind==3);obtain ⟨b4,hb4⟩:=Qb (t.kind==4);obtain ⟨bs,hbs⟩:=Qb (t.text==b);rw [<-hb3,<-hb4,<-hbs]at M0;rw [<-hb3]at hk3;rw [<-hb4]at hk4;rw [<-hbs]at hs2;clear hb3 hb4 hbs;go_enter func59,ntmps59;rw [Qz 2];go_wp2_with fail;refine Qwy.out.mono ?_;rintro en w1 ⟨rfl,hb1⟩;have HB1:=Qa hb1;clear hb1;go_wp2_with fail;obtain ⟨W,hW⟩:=Qb (w1.alloc (.cells #[.int .i64 K,.string S,.int .i64 N,.int .i64 P] 69));obtain ⟨G,hG⟩:=Qb w1.heap.size;have HG:Hid (Held W G 69 #[.int .i64 K,.string S,.int .i64 N,.int .i64 P]):=by rw [hW,hG];exact Held.new _ _ _
 have HB2:Hid (Below w.heap.size w W):=by rw [hW];exact HB1.out.alloc HB1.out.size _
 rw [<-hW,<-hG];clear hW hG;refine Qn ?_;go_wp2_with fail;refine (Qq5 (HH.out.below HB2.out)).mono ?_;rintro en w2 ⟨rfl,hb2⟩;have HG2:=HG.out.since hb2;have z0:=HG2.t0;have z1:=HG2.t1;have HB3:=Qa (Z4 HB2.out hb2);clear hb2 HG2;cases b3<;>cases b4<;>cases bs<;>(go_wp2_with fail;go_ret;exact ⟨by rw [M0.out];rfl,HB3.out⟩)
theorem Q2c (b:List UInt8) (H:Rd B g L w R p d l h e q) (he:e≠0):
  Calls prog 59 #[.pointer (some ⟨g,0,none⟩),.string ⟨b.toArray⟩] w λen w'=>en= .returned (.bool false)/\Below w.heap.size w w':=by
 obtain ⟨t,ht,_⟩:=Qd4 H.here;have HE:=Qa he;have HH:=Qa H;obtain ⟨X,hX⟩:=Qb (⟨b.toArray⟩:ByteArray);rw [<-hX];have HT:=Qa ht;clear H he hX ht;go_enter func59,ntmps59;rw [Qz 2];go_wp2_with fail;refine (Qaz HH.out HT.out).mono ?_;rintro en w1 ⟨rfl,hb1⟩;have HB1:=Qa hb1;clear hb1;go_wp2_with fail;obtain ⟨W,hW⟩:=Qb (w1.alloc (.cells #[.int .i64 (t.kind:Int),.string ⟨t.text.toArray⟩,.int .i64 (t.n:Int),.int .i64 (t.place:Int)] 69));have HB2:Hid (Below w.heap.size w W):=by rw [hW];exact HB1.out.alloc HB1.out.size _
 rw [<-hW];clear hW;refine Qn ?_;go_wp2_with fail;refine (Qqv (HH.out.below HB2.out) HE.out).mono ?_;rintro en w2 ⟨rfl,hb2⟩;have HB3:=Qa (Z4 HB2.out hb2);clear hb2;go_wp2_with fail;go_ret;exact ⟨rfl,HB3.out⟩
end
section
open Go.RowKit
variable {B g:Nat}{L:List Tk}{w:World}{R:Bx}{p:Nat}{d e q:Int}{l:List Nd}{h:List Nat}
def Turned (B g:Nat) (L:List Tk) (w:World) (R:Bx) (p:Nat) (d:Int) (l:List Nd) (h:List Nat) (e q:Int) (w':World):Prop:=Rd B g L w' R p d l h e q/\Fr g w w' R R
theorem Turned.of_below {w':World} (H:Rd B g L w R p d l h e q) (hb:Below w.heap.size w w'):Turned B g L w R p d l h e q w':=⟨H.below hb,Fr.of_below R hb⟩
theorem Turned.then {w1 w2:World} {p1 p2:Nat} {d1 e1 q1 d2 e2 q2:Int} {l1 l2:List Nd} {h1 h2:List Nat} (a:Turned B g L w R p1 d1 l1 h1 e1 q1 w1) (b:Turned B g L w1 R p2 d2 l2 h2 e2 q2 w2):Turned B g L w R p2 d2 l2 h2 e2 q2 w2:=⟨b.1,a.2.trans b.2⟩
theorem Q2d {t:Tk} {b:List UInt8} (h:sees t b=true):t.kind≠0:=by unfold sees at h;simp at h;omega
theorem Rd.take {t:Tk} (H:Rd B g L w R p d l h e q) (ht:L[p]? =some t) (hk:t.kind≠0) (u:Value) (hu:u= .int .i64 ((p:Int)+1)):Turned B g L w R (p+1) d l h e q (w.setCell ⟨g,1,none⟩ u):=by subst hu;have:=H.few;exact ⟨H.store rfl (H.fin p t ht hk) (by omega),Fr.store (B:=B) (L:=L) 1 _⟩
theorem Qzi {t:Tk} (b:List UInt8) (H:Rd B g L w R p d l h 0 q) (ht:L[p]? =some t) (hs:sees t b=true):
  Calls prog 96 #[.pointer (some ⟨g,0,none⟩),.string ⟨b.toArray⟩] w λen w'=>en= .returned (.bool true)/\Turned B g L w R (p+1) d l h 0 q w':=by
 have hI:=Qp6 b H ht;rw [hs]at hI;obtain ⟨X,hX⟩:=Qb (⟨b.toArray⟩:ByteArray);rw [<-hX]at hI ⊢;have HI:=Qa hI;have HH:=Qa H;have HT:=Qa ht;have HS:=Qa hs;have hm:p<100000:=by have:=H.here;have:=H.many;omega
 clear hI H ht hs hX;go_enter func96,ntmps96;go_wp2_with fail;refine HI.out.mono ?_;rintro en w1 ⟨rfl,hb1⟩;have Wo:=Qa (HH.out.below hb1);have c1:=Wo.out.c1;have f1:=Wo.out.box.frozen 1;have HB1:=Qa hb1;clear hb1;go_wp2_with fail;go_ret;exact ⟨rfl,(Turned.of_below HH.out HB1.out).then (Wo.out.take HT.out (Q2d HS.out) _ (by go_num))⟩
theorem Qwj {t:Tk} (b:List UInt8) (H:Rd B g L w R p d l h 0 q) (ht:L[p]? =some t) (hs:sees t b=false):
  Calls prog 96 #[.pointer (some ⟨g,0,none⟩),.string ⟨b.toArray⟩] w λen w'=>en= .returned (.bool false)/\Below w.heap.size w w':=by
 have hI:=Qp6 b H ht;rw [hs]at hI;obtain ⟨X,hX⟩:=Qb (⟨b.toArray⟩:ByteArray);rw [<-hX]at hI ⊢;have HI:=Qa hI;clear hI H ht hs hX;go_enter func96,ntmps96;go_wp2_with fail;refine HI.out.mono ?_;rintro en w1 ⟨rfl,hb1⟩;have HB1:=Qa hb1;clear hb1;go_wp2_with fail;go_ret;exact ⟨rfl,HB1.out⟩
theorem Q1f (b:List UInt8) (H:Rd B g L w R p d l h e q) (he:e≠0):
  Calls prog 96 #[.pointer (some ⟨g,0,none⟩),.string ⟨b.toArray⟩] w λen w'=>en= .returned (.bool false)/\Below w.heap.size w w':=by
 have hI:=Q2c b H he;obtain ⟨X,hX⟩:=Qb (⟨b.toArray⟩:ByteArray);rw [<-hX]at hI ⊢;have HI:=Qa hI;clear hI H he hX;go_enter func96,ntmps96;go_wp2_with fail;refine HI.out.mono ?_;rintro en w1 ⟨rfl,hb1⟩;have HB1:=Qa hb1;clear hb1;go_wp2_with fail;go_ret;exact ⟨rfl,HB1.out⟩
theorem Qh6 (x y:Int) (hx:x≠0) (H:Rd B g L w R p d l h 0 q):
  Calls prog 60 #[.pointer (some ⟨g,0,none⟩),.int .i64 x,.int .i64 y] w λen w'=>(∃v,en= .returned v)/\Turned B g L w R p d l h x y w':=by
 have hx':(x != 0)=true:=by simpa using hx
 have c5:=H.c5;have c6:=H.c6;have f5:=H.box.frozen 5;have f6:=H.box.frozen 6;have HH:=Qa H;clear H hx;go_enter func60,ntmps60;go_wp2_with fail;refine (Ql8 HH.out).mono ?_;rintro en w1 ⟨rfl,hw1⟩;rw [hw1];clear hw1 w1;go_wp2_with fail;go_end0;refine ⟨⟨_,rfl⟩,?_,?_⟩
 ·have h1:=HH.out.store (i:=5) (u:=.int .i64 x) (e':=x) (q':=q) (d':=d) (p':=p) rfl HH.out.here HH.out.few;exact h1.store (i:=6) (u:=.int .i64 y) (e':=x) (q':=y) (d':=d) (p':=p) rfl HH.out.here HH.out.few
 ·exact (Fr.store (B:=B) (L:=L) 5 _).trans (Fr.store (B:=B) (L:=L) 6 _)
theorem Qhh (x y:Int) (H:Rd B g L w R p d l h e q) (he:e≠0) (hx:x≠0):
  Calls prog 60 #[.pointer (some ⟨g,0,none⟩),.int .i64 x,.int .i64 y] w λen w'=>(∃v,en= .returned v)/\w'=w:=by
 have hx':(x != 0)=true:=by simpa using hx
 have HH:=Qa H;have HE:=Qa he;clear H hx he;go_enter func60,ntmps60;go_wp2_with fail;refine (Qe3 HH.out HE.out).mono ?_;rintro en w1 ⟨rfl,hw1⟩;rw [hw1];clear hw1 w1;go_wp2_with fail;go_end0;exact ⟨⟨_,rfl⟩,rfl⟩
theorem Qy1 (H:Rd B g L w R p d l h e q) (hd: -1000000<=d/\d<=1000000):
  Calls prog 131 #[.pointer (some ⟨g,0,none⟩)] w λen w'=>(∃v,en= .returned v)/\Turned B g L w R p (d-1) l h e q w':=by
 have c2:=H.c2;have f2:=H.box.frozen 2;obtain ⟨hd1,hd2⟩:=hd;have HH:=Qa H;clear H;go_enter func131,ntmps131;go_wp2_with fail;go_end0;refine ⟨⟨_,rfl⟩,?_,Fr.store (B:=B) (L:=L) 2 _⟩;exact HH.out.store (i:=2) (e':=e) (q':=q) (d':=d-1) (p':=p) (by first |rfl |(congr 2)) HH.out.here HH.out.few
end
section
open Go.RowKit
variable {B g:Nat}{L:List Tk}{w:World}{R:Bx}{p:Nat}{d e q:Int}{l:List Nd}{h:List Nat}
theorem Xm (a b c x:Value) (w:World):(Instr.field 69 (.agg #[a,b,c,x]) 3).run prog w= .ok x w:=by kernel_rfl
theorem Wqc {t:Tk} (b:List UInt8) (H:Rd B g L w R p d l h 0 q) (ht:L[p]? =some t) (hs:sees t b=true):
  Calls prog 97 #[.pointer (some ⟨g,0,none⟩),.string ⟨b.toArray⟩] w λen w'=>en= .returned (.bool true)/\Turned B g L w R (p+1) d l h 0 q w':=by
 have hI:=Qzi b H ht hs;obtain ⟨X,hX⟩:=Qb (⟨b.toArray⟩:ByteArray);rw [<-hX]at hI ⊢;have HI:=Qa hI;clear hI H ht hs hX;go_enter func97,ntmps97;go_wp2_with fail;refine HI.out.mono ?_;rintro en w1 ⟨rfl,hb1⟩;have HB1:=Qa hb1;clear hb1;go_wp2_with fail;go_ret;exact ⟨rfl,HB1.out⟩
theorem Wca {t:Tk} (b:List UInt8) (H:Rd B g L w R p d l h 0 q) (ht:L[p]? =some t) (hs:sees t b=false):
  Calls prog 97 #[.pointer (some ⟨g,0,none⟩),.string ⟨b.toArray⟩] w λen w'=>en= .returned (.bool false)/\Turned B g L w R p d l h 8 (t.place:Int) w':=by
 have hI:=Qwj b H ht hs;obtain ⟨X,hX⟩:=Qb (⟨b.toArray⟩:ByteArray);rw [<-hX]at hI ⊢;have HI:=Qa hI;have HH:=Qa H;have HT:=Qa ht;have Xp:=Xm;clear hI H ht hs hX;go_enter func97,ntmps97;go_wp2_with fail;refine HI.out.mono ?_;rintro en w1 ⟨rfl,hb1⟩;have HB1:=Qa hb1;clear hb1;go_wp2_with fail;refine (Qaz (HH.out.below HB1.out) HT.out).mono ?_;rintro en w2 ⟨rfl,hb2⟩;have HB2:=Qa (Z4 HB1.out hb2);clear hb2;go_wp2_with fail;refine (Qh6 8 (t.place:Int) (by decide) (HH.out.below HB2.out)).mono ?_;rintro en w3 ⟨⟨v,rfl⟩,hb3⟩;have HB3:=Qa ((Turned.of_below HH.out HB2.out).then hb3);clear hb3;go_wp2_with fail;go_ret;exact ⟨rfl,HB3.out⟩
theorem Wiq (b:List UInt8) (H:Rd B g L w R p d l h e q) (he:e≠0):
  Calls prog 97 #[.pointer (some ⟨g,0,none⟩),.string ⟨b.toArray⟩] w λen w'=>en= .returned (.bool false)/\Below w.heap.size w w':=by
 have hI:=Q1f b H he;obtain ⟨t,ht,_⟩:=Qd4 H.here;obtain ⟨X,hX⟩:=Qb (⟨b.toArray⟩:ByteArray);rw [<-hX]at hI ⊢;have HI:=Qa hI;have HH:=Qa H;have HT:=Qa ht;have HE:=Qa he;have Xp:=Xm;clear hI H ht he hX;go_enter func97,ntmps97;go_wp2_with fail;refine HI.out.mono ?_;rintro en w1 ⟨rfl,hb1⟩;have HB1:=Qa hb1;clear hb1;go_wp2_with fail;refine (Qaz (HH.out.below HB1.out) HT.out).mono ?_;rintro en w2 ⟨rfl,hb2⟩;have HB2:=Qa (Z4 HB1.out hb2);clear hb2;go_wp2_with fail;refine (Qhh 8 (t.place:Int) (HH.out.below HB2.out) HE.out (by decide)).mono ?_;rintro en w3 ⟨⟨v,rfl⟩,hw3⟩;rw [hw3];clear hw3 w3;go_wp2_with fail;go_ret;exact ⟨rfl,HB2.out⟩
theorem Wmz {t:Tk} (H:Rd B g L w R p d l h 0 q) (ht:L[p]? =some t) (hs:t.kind=1):
  Calls prog 127 #[.pointer (some ⟨g,0,none⟩)] w λen w'=>en= .returned (.string ⟨t.text.toArray⟩)/\Turned B g L w R (p+1) d l h 0 q w':=by
 have HH:=Qa H;have HT:=Qa ht;have hI:=Qaz H ht;rw [hs]at hI;have HS:=Qa hs;obtain ⟨X,hX⟩:=Qb (⟨t.text.toArray⟩:ByteArray);rw [<-hX]at hI ⊢;obtain ⟨N,hN⟩:=Qb (t.n:Int);obtain ⟨P,hP⟩:=Qb (t.place:Int);rw [<-hN,<-hP]at hI;have HI:=Qa hI;have hm:p<100000:=by have:=H.here;have:=H.many;omega
 clear H ht hs hI hN hP hX;go_enter func127,ntmps127;rw [Qz 2,Qz 5,Qz 6];go_wp2_with fail;refine HI.out.mono ?_;rintro en w1 ⟨rfl,hb1⟩;have HB1:=Qa hb1;clear hb1;go_wp2_with fail;obtain ⟨W,hW⟩:=Qb (w1.alloc (.cells #[.int .i64 ((1:Nat):Int),.string X,.int .i64 N,.int .i64 P] 69));obtain ⟨G,hG⟩:=Qb w1.heap.size;have HG:Hid (Held W G 69 #[.int .i64 ((1:Nat):Int),.string X,.int .i64 N,.int .i64 P]):=by rw [hW,hG];exact Held.new _ _ _
 have HB2:Hid (Below w.heap.size w W):=by rw [hW];exact HB1.out.alloc HB1.out.size _
 have HGL:Hid (w.heap.size<=G):=by rw [hG];exact HB1.out.size
 simp only [Int.natCast_one]at hW;rw [<-hW,<-hG];clear hW hG;have z0:=HG.out.t0;refine Qn ?_;go_wp2_with fail;refine (Qq5 (HH.out.below HB2.out)).mono ?_;rintro en w2 ⟨rfl,hb2⟩;have HG2:=Qa (HG.out.since hb2);have HB3:=Qa (Z4 HB2.out hb2);have Q9:=Qa (HH.out.below HB3.out);clear hb2 z0;go_wp2_with fail;refine Qn ?_;have c1:=Q9.out.c1;have f1:=Q9.out.box.frozen 1;have Wfh:Hid (G≠g):=by have:=HH.out.box.lt;have:=HGL.out;show G≠g;omega
 go_wp2_with fail;refine Qn ?_;have HT4:=Q9.out.take HT.out (by rw [HS.out];decide) _ rfl;have z1:=(HG2.out.off (g':=g) Wfh.out 1 (.int .i64 ((p:Int)+1))).t1;obtain ⟨W4,Bt⟩:=Qb (w2.setCell ⟨g,1,none⟩ (.int .i64 ((p:Int)+1)));rw [<-Bt]at HT4 z1 ⊢;have HT5:=Qa ((Turned.of_below HH.out HB3.out).then HT4);clear HT4 Bt;go_wp2_with fail;go_ret;exact ⟨rfl,HT5.out⟩
theorem Qvz {t:Tk} (H:Rd B g L w R p d l h 0 q) (ht:L[p]? =some t) (hs:t.kind≠1):
  Calls prog 127 #[.pointer (some ⟨g,0,none⟩)] w λen w'=>en= .returned (.string ⟨#[]⟩)/\Turned B g L w R p d l h 8 (t.place:Int) w':=by
 have HH:=Qa H;have hI:=Qaz H ht;have hk:((t.kind:Int) != 1)=true:=by simp;omega
 obtain ⟨X,hX⟩:=Qb (⟨t.text.toArray⟩:ByteArray);obtain ⟨N,hN⟩:=Qb (t.n:Int);obtain ⟨P,hP⟩:=Qb (t.place:Int);obtain ⟨K,hK⟩:=Qb (t.kind:Int);rw [<-hN,<-hP,<-hX,<-hK]at hI;rw [<-hK]at hk;rw [<-hP];have HI:=Qa hI;clear H ht hs hI hN hP hX hK;go_enter func127,ntmps127;rw [Qz 2];go_wp2_with fail;refine HI.out.mono ?_;rintro en w1 ⟨rfl,hb1⟩;have HB1:=Qa hb1;clear hb1;go_wp2_with fail;obtain ⟨W,hW⟩:=Qb (w1.alloc (.cells #[.int .i64 K,.string X,.int .i64 N,.int .i64 P] 69));obtain ⟨G,hG⟩:=Qb w1.heap.size;have HG:Hid (Held W G 69 #[.int .i64 K,.string X,.int .i64 N,.int .i64 P]):=by rw [hW,hG];exact Held.new _ _ _
 have HB2:Hid (Below w.heap.size w W):=by rw [hW];exact HB1.out.alloc HB1.out.size _
 rw [<-hW,<-hG];clear hW hG;have z0:=HG.out.t0;have z3:=HG.out.t3;refine Qn ?_;go_wp2_with fail;refine (Qh6 8 P (by decide) (HH.out.below HB2.out)).mono ?_;rintro en w3 ⟨⟨v,rfl⟩,hb3⟩;have HB3:=Qa ((Turned.of_below HH.out HB2.out).then hb3);clear hb3;go_wp2_with fail;go_ret;exact ⟨rfl,HB3.out⟩
theorem Wau (H:Rd B g L w R p d l h e q) (he:e≠0):
  Calls prog 127 #[.pointer (some ⟨g,0,none⟩)] w λen w'=>en= .returned (.string ⟨#[]⟩)/\Below w.heap.size w w':=by
 have HH:=Qa H;have HE:=Qa he;obtain ⟨t,ht,_⟩:=Qd4 H.here;have hI:=Qaz H ht;obtain ⟨X,hX⟩:=Qb (⟨t.text.toArray⟩:ByteArray);obtain ⟨N,hN⟩:=Qb (t.n:Int);obtain ⟨P,hP⟩:=Qb (t.place:Int);obtain ⟨K,hK⟩:=Qb (t.kind:Int);rw [<-hN,<-hP,<-hX,<-hK]at hI;have HI:=Qa hI;clear H ht he hI hN hP hX hK;go_enter func127,ntmps127;rw [Qz 2];go_wp2_with fail;refine HI.out.mono ?_;rintro en w1 ⟨rfl,hb1⟩;have HB1:=Qa hb1;clear hb1;go_wp2_with fail;obtain ⟨W,hW⟩:=Qb (w1.alloc (.cells #[.int .i64 K,.string X,.int .i64 N,.int .i64 P] 69));obtain ⟨G,hG⟩:=Qb w1.heap.size;have HG:Hid (Held W G 69 #[.int .i64 K,.string X,.int .i64 N,.int .i64 P]):=by rw [hW,hG];exact Held.new _ _ _
 have HB2:Hid (Below w.heap.size w W):=by rw [hW];exact HB1.out.alloc HB1.out.size _
 rw [<-hW,<-hG];clear hW hG;have z0:=HG.out.t0;have z3:=HG.out.t3;refine Qn ?_;by_cases hk1:K=1
 ·have hk:(K != 1)=false:=by simpa using hk1
  clear hk1;go_wp2_with fail;refine (Qqv (HH.out.below HB2.out) HE.out).mono ?_;rintro en w2 ⟨rfl,hb2⟩;have HG2:=Qa (HG.out.since hb2);have HB3:=Qa (Z4 HB2.out hb2);clear hb2 z0 z3;have z3:=HG2.out.t3;go_wp2_with fail;refine (Qhh 8 P (HH.out.below HB3.out) HE.out (by decide)).mono ?_;rintro en w3 ⟨⟨v,rfl⟩,hw3⟩;rw [hw3];clear hw3 w3;go_wp2_with fail;go_ret;exact ⟨rfl,HB3.out⟩
 ·have hk:(K != 1)=true:=by simpa using hk1
  clear hk1;go_wp2_with fail;refine (Qhh 8 P (HH.out.below HB2.out) HE.out (by decide)).mono ?_;rintro en w3 ⟨⟨v,rfl⟩,hw3⟩;rw [hw3];clear hw3 w3;go_wp2_with fail;go_ret;exact ⟨rfl,HB2.out⟩
theorem Rd.depth (H:Rd B g L w R p d l h e q) (d':Int) (u:Value) (hu:u= .int .i64 d'):Turned B g L w R p d' l h e q (w.setCell ⟨g,2,none⟩ u):=by subst hu;exact ⟨H.store rfl H.here H.few,Fr.store (B:=B) (L:=L) 2 _⟩
theorem Wrn (at_:Int) (H:Rd B g L w R p d l h 0 q) (hd: -1000000<=d/\d<200):
  Calls prog 129 #[.pointer (some ⟨g,0,none⟩),.int .i64 at_] w λen w'=>en= .returned (.bool true)/\Turned B g L w R p (d+1) l h 0 q w':=by
 have c2:=H.c2;have f2:=H.box.frozen 2;obtain ⟨hd1,hd2⟩:=hd;have HH:=Qa H;clear H;have hd3: ¬(200<d+1):=by omega
 go_enter func129,ntmps129;rw [Qz 4];go_wp2_with fail;have HT:=HH.out.depth (d+1) _ rfl;obtain ⟨W,hW⟩:=Qb (w.setCell ⟨g,2,none⟩ (.int .i64 (d+1)));rw [<-hW]at HT ⊢;have c2':=HT.1.c2;have F4:=Qa HT;clear HT hW c2 f2;refine Qn ?_;go_wp2_with fail;refine (Ql8 F4.out.1).mono ?_;rintro en w1 ⟨rfl,hw1⟩;rw [hw1];clear hw1 w1;go_wp2_with fail;go_ret;exact ⟨rfl,F4.out⟩
theorem Wq1 (at_:Int) (H:Rd B g L w R p d l h 0 q) (hd:200<=d/\d<=1000000):
  Calls prog 129 #[.pointer (some ⟨g,0,none⟩),.int .i64 at_] w λen w'=>en= .returned (.bool false)/\Turned B g L w R p (d+1) l h 4 at_ w':=by
 have c2:=H.c2;have f2:=H.box.frozen 2;obtain ⟨hd1,hd2⟩:=hd;have HH:=Qa H;clear H;have hd3:200<d+1:=by omega
 go_enter func129,ntmps129;rw [Qz 4];go_wp2_with fail;have HT:=HH.out.depth (d+1) _ rfl;obtain ⟨W,hW⟩:=Qb (w.setCell ⟨g,2,none⟩ (.int .i64 (d+1)));rw [<-hW]at HT ⊢;have c2':=HT.1.c2;have F4:=Qa HT;clear HT hW c2 f2;refine Qn ?_;go_wp2_with fail;refine (Qh6 4 at_ (by decide) F4.out.1).mono ?_;rintro en w1 ⟨⟨v,rfl⟩,hb1⟩;have HB1:=Qa (F4.out.then hb1);clear hb1;go_wp2_with fail;refine (Qe3 HB1.out.1 (by decide)).mono ?_;rintro en w2 ⟨rfl,hw2⟩;rw [hw2];clear hw2 w2;go_wp2_with fail;go_ret;exact ⟨rfl,HB1.out⟩
theorem Wnx (at_:Int) (H:Rd B g L w R p d l h e q) (hd: -1000000<=d/\d<=1000000) (he:e≠0):
  Calls prog 129 #[.pointer (some ⟨g,0,none⟩),.int .i64 at_] w λen w'=>en= .returned (.bool false)/\Turned B g L w R p (d+1) l h e q w':=by
 have c2:=H.c2;have f2:=H.box.frozen 2;obtain ⟨hd1,hd2⟩:=hd;have HH:=Qa H;have HE:=Qa he;clear H he;go_enter func129,ntmps129;rw [Qz 4];go_wp2_with fail;have HT:=HH.out.depth (d+1) _ rfl;obtain ⟨W,hW⟩:=Qb (w.setCell ⟨g,2,none⟩ (.int .i64 (d+1)));rw [<-hW]at HT ⊢;have c2':=HT.1.c2;have F4:=Qa HT;clear HT hW c2 f2;refine Qn ?_;by_cases hd3:200<d+1
 ·go_wp2_with fail;refine (Qhh 4 at_ F4.out.1 HE.out (by decide)).mono ?_;rintro en w1 ⟨⟨v,rfl⟩,hw1⟩;rw [hw1];clear hw1 w1;go_wp2_with fail;refine (Qe3 F4.out.1 HE.out).mono ?_;rintro en w2 ⟨rfl,hw2⟩;rw [hw2];clear hw2 w2;go_wp2_with fail;go_ret;exact ⟨rfl,F4.out⟩
 ·go_wp2_with fail;refine (Qe3 F4.out.1 HE.out).mono ?_;rintro en w2 ⟨rfl,hw2⟩;rw [hw2];clear hw2 w2;go_wp2_with fail;go_ret;exact ⟨rfl,F4.out⟩
end
end Go.Proofs.YtdncpkkhkbijfaaGreatDoor
