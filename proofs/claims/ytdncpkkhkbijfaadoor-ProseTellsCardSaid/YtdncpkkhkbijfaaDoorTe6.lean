import Derived.Test.YtdncpkkhkbijfaaDoorTe5
import Derived.Lib.QuietBelow
open Go.Proofs.Tryd
set_option linter.all false
set_option maxHeartbeats 0
set_option maxRecDepth 100000
namespace Go.Proofs.YtdncpkkhkbijfaaDoor
section
open Go.RowKit
theorem R6 {l:List UInt8} (h:l.length=0):Y2 l=false:=by simp [Y2,h]
theorem Qdd {l:List UInt8} (h:32<l.length):Y2 l=false:=by unfold Y2;rw [decide_eq_false (show¬l.length<=32 by omega)];simp
theorem Qas {l:List UInt8} (h:Zc (bt l 0)=true):Y2 l=false:=by simp [Y2,h]
theorem Qdx {l:List UInt8} (h:K3 l=true):Y2 l=false:=by simp [Y2,h]
theorem Qa1 {l:List UInt8} {k:Nat} (hk:k<l.length):bt l k=l[k].toNat:=by unfold bt;rw [Yh,Za hk];rfl
theorem Qak {l:List UInt8} {k:Nat} (hk:k<l.length) (h1:X4 (bt l k)=false) (h2:Zc (bt l k)=false):Y2 l=false:=by
 have:l.all (λc=>X4 c.toNat||Zc c.toNat)=false:=by rw [List.all_eq_false];refine ⟨l[k],Ca hk,?_⟩;rw [<-Qa1 hk,h1,h2];simp
 simp [Y2,this]
theorem Qdo {l:List UInt8} (h0:0<l.length) (h1:l.length<=32) (h2:Zc (bt l 0)=false) (h3: ∀k,k<l.length->(X4 (bt l k)||Zc (bt l k))=true) (h4:K3 l=false):Y2 l=true:=by
 have:l.all (λc=>X4 c.toNat||Zc c.toNat)=true:=by rw [Cr];intro c hc;obtain ⟨k,hk,rfl⟩:=List.mem_iff_getElem.1 hc;rw [<-Qa1 hk];exact h3 k hk
 simp [Y2,this,h0,h1,h2,h4]
theorem Qb8 {b:List UInt8} (h: ∀j,j<18->b≠Kh.getD j []):K3 b=false:=by unfold K3;rw [List.any_eq_false];intro k hk;obtain ⟨j,hj,rfl⟩:=List.mem_iff_getElem.1 hk;have hj':j<18:=hj;have:=h j hj';rw [Yh,Za hj]at this;simpa using this
theorem Qb9 {b:List UInt8} {j:Nat} (hj:j<18) (h:b=Kh.getD j []):K3 b=true:=by unfold K3;rw [List.any_eq_true];have hj':j<Kh.length:=hj;refine ⟨Kh[j],Ca hj',?_⟩;rw [Yh,Za hj']at h;simpa using h
theorem Qhp: ∀(j:Nat),j<18-> ∀(w:World),(Instr.index 102 (.agg Qgp) (.int .i64 (j:Int))).run prog w= .ok (txt (Kh.getD j [])) w
 | 0,_,w=>by kernel_rfl
 | 1,_,w=>by kernel_rfl
 | 2,_,w=>by kernel_rfl
 | 3,_,w=>by kernel_rfl
 | 4,_,w=>by kernel_rfl
 | 5,_,w=>by kernel_rfl
 | 6,_,w=>by kernel_rfl
 | 7,_,w=>by kernel_rfl
 | 8,_,w=>by kernel_rfl
 | 9,_,w=>by kernel_rfl
 | 10,_,w=>by kernel_rfl
 | 11,_,w=>by kernel_rfl
 | 12,_,w=>by kernel_rfl
 | 13,_,w=>by kernel_rfl
 | 14,_,w=>by kernel_rfl
 | 15,_,w=>by kernel_rfl
 | 16,_,w=>by kernel_rfl
 | 17,_,w=>by kernel_rfl
 |n+18,h,_=>by omega
theorem Oi (s:ByteArray):s.toList=s.data.toList:=ByteArray.toList_eq s
theorem Qju (b:List UInt8):(⟨b.toArray⟩:ByteArray).toList=b:=by rw [ByteArray.toList_eq]
theorem Qn8 (s:ByteArray):Value.string s=txt s.data.toList:=by unfold txt;rw [Array.toArray_toList]
theorem Wj (l:List UInt8):(⟨l.toArray⟩:ByteArray).size=l.length:=rfl
theorem Qpb (s:ByteArray) (w:World) (hT:Xp w) (hs:s.size<=140737488351232):
  Calls prog 63 #[.string s] w λe w'=>e= .returned (.bool (Y2 s.data.toList))/\w'=w:=by
 obtain ⟨l,hl⟩:=Qb s.data.toList;have hlen:l.length=s.size:=by rw [hl];exact Gw
 have HLEN:=Qa hlen;have htl:s.toList=l:=by rw [Oi,hl]
 rw [<-hl];have HL:=Qa hl;clear hl;rcases Nat.eq_zero_or_pos s.size with h0 |h0
 ·have hn:l=[]:=List.length_eq_zero_iff.1 (by omega);have he:s.toList.isEmpty=true:=by rw [htl,hn];rfl
  have he2:s.toList=[]:=by rw [htl,hn]
  clear h0 hlen htl;have HN:=Qa hn;clear hn;go_enter func63,ntmps63;go_wp2_with fail;go_ret;exact ⟨by rw [R6 (by rw [HN.out];rfl)];rfl,rfl⟩
 have hne:l≠[]:=by intro h;rw [h]at hlen;simp at hlen;omega
 have he:s.toList.isEmpty=false:=by rw [htl,List.isEmpty_eq_false_iff];exact hne
 have he2: ¬s.toList=[]:=by rw [htl];exact hne
 clear hne;by_cases h32:32<s.size
 ·have HB:=Qa (Qdd (l:=l) (by omega));clear hlen htl;go_enter func63,ntmps63;go_wp2_with fail;go_ret;exact ⟨by rw [HB.out];rfl,rfl⟩
 have Jj:=Qa htl;clear hlen htl;obtain ⟨tt,fr,hg⟩:=hT.keys;have HG:=Qa hg;clear hg hT;have hb0:=Qa (U7 HL.out h0);cases hd:Zc (bt l 0)with
 |true=>
  have HD:=Qa hd;clear hd;go_enter func63,ntmps63;go_wp2_with fail;refine (Uy s[0].toNat w).mono ?_;rintro e w1 ⟨rfl,hw1⟩;rw [hw1,<-hb0.out,HD.out];clear hw1 w1;go_wp2_with fail;go_ret;exact ⟨by rw [Qas HD.out];rfl,rfl⟩
 |false=>
  have HD:=Qa hd;clear hd;go_enter func63,ntmps63;go_wp2_with fail;refine (Uy s[0].toNat w).mono ?_;rintro e w1 ⟨rfl,hw1⟩;rw [hw1,<-hb0.out,HD.out];clear hw1 w1;go_wp2_with fail;go_loop [3,20] (λ_ i=> ∃k:Nat,k<=s.size/\i= .int .i64 (k:Int)/\Hid (∀j,j<k->(X4 (bt l j)||Zc (bt l j))=true)) (λ_ i=>s.size-(intOf i).toNat)
  case atStart=>exact ⟨0,by omega,rfl,λj hj=>by omega⟩
  case round=>
   obtain ⟨k,hk,rfl,hK⟩:=hrel;by_cases hlt:k<s.size
   ·have hb:=Qa (U7 HL.out hlt);have hkl:Hid (k<l.length):=(by show k<l.length;rw [HLEN.out];exact hlt);have hnext: ∀{P:Prop},(X4 (bt l k)||Zc (bt l k))=true->((∀j,j<k+1->(X4 (bt l j)||Zc (bt l j))=true)->P)->P:=λh f=>f λj hj=>by
     rcases Xa j k with g |g
     ·exact hK.out j g
     ·obtain rfl:j=k:=(by omega);exact h
    go_wp2_with fail;refine (Qno s[k].toNat w).mono ?_;rintro e w1 ⟨rfl,hw1⟩;rw [hw1,<-hb.out];clear hw1 w1;cases hp:X4 (bt l k)with
    |true=>
     have HP:=Qa hp;clear hp;go_wp2_with fail;go_round
     case rel=>exact ⟨k+1,by omega,by go_num,hnext (by rw [HP.out];rfl) id⟩
     case measure=>simp [intOf];omega
    |false=>
     have HP:=Qa hp;clear hp;go_wp2_with fail;refine (Uy s[k].toNat w).mono ?_;rintro e w1 ⟨rfl,hw1⟩;rw [hw1,<-hb.out];clear hw1 w1;cases hp2:Zc (bt l k)with
     |true=>
      have Jb:=Qa hp2;clear hp2;go_wp2_with fail;go_round
      case rel=>exact ⟨k+1,by omega,by go_num,hnext (by rw [Jb.out];simp) id⟩
      case measure=>simp [intOf];omega
     |false=>
      have Jb:=Qa hp2;clear hp2;go_wp2_with fail;go_ret;exact ⟨by rw [Qak hkl.out HP.out Jb.out];rfl,rfl⟩
   ·have hall:Hid (∀j,j<l.length->(X4 (bt l j)||Zc (bt l j))=true):=λj hj=>hK.out j (by rw [HLEN.out]at hj;omega);clear hK;go_wp2_with (refine wpList_load_row rfl 102 _ rfl 7 rfl tt _ fr _ HG.out underlying102 rfl (by kernel_rfl) ?_);go_loop [5,37] (λ_ i=> ∃k:Nat,k<=18/\i= .int .i64 (k:Int)/\Hid (∀j,j<k->l≠Kh.getD j [])) (λ_ i=>18-(intOf i).toNat)
    case atStart=>exact ⟨0,by omega,rfl,λj hj=>by omega⟩
    case round=>
     obtain ⟨k,hk,rfl,hK⟩:=hrel;by_cases hlt:k<18
     ·have hix:=Qhp k hlt;unfold txt at hix;obtain ⟨c,hc⟩:=Qb (Kh.getD k []);rw [<-hc]at hix;have HC:=Qa hc;clear hc;by_cases hE:l=c
      ·have he':(s.toList==c)=true:=(by rw [Jj.out];simpa using hE);have HE:=Qa hE;clear hE;go_wp2_with fail;go_ret;exact ⟨by rw [Qdx (Qb9 hlt (HE.out.trans HC.out))];rfl,rfl⟩
      ·have he':(s.toList==c)=false:=(by rw [Jj.out];simpa using hE);have HE:=Qa hE;clear hE;go_wp2_with fail;go_round
       case rel=>exact ⟨k+1,by omega,by go_num,λj hj=>by
        rcases Xa j k with g |g
        ·exact hK.out j g
        ·obtain rfl:j=k:=(by omega);rw [<-HC.out];exact HE.out⟩
       case measure=>simp [intOf];omega
     ·obtain rfl:k=18:=(by omega);go_wp2_with fail;go_ret;exact ⟨by rw [Qdo (by rw [HLEN.out];exact h0) (by rw [HLEN.out];omega) HD.out hall.out (Qb8 hK.out)];rfl,rfl⟩
def L6:Array Value:=(Kh.map txt).toArray
theorem Qsc {j:Nat} (hj:j<18):L6[j]? =some (txt (Kh.getD j [])):=by unfold L6;have hj':j<Kh.length:=hj;rw [List.getElem?_toArray,Gc,Za hj',Yh,Za hj'];rfl
theorem Qr1 (w:World):
  Calls prog 77 #[] w λe w'=>e= .returned (.slice (some ⟨w.heap.size,0,none⟩) 18 18)/\w'=w.alloc (.cells L6 9):=by
 go_enter func77,ntmps77;go_wp2;go_ret;exact ⟨rfl,rfl⟩
theorem Qk0 (s:ByteArray) (w:World):
  Calls prog 71 #[.string s] w λe w'=>e= .returned (.bool (K3 s.data.toList))/\Below w.heap.size w w':=by
 obtain ⟨l,hl⟩:=Qb s.data.toList;have Jj:Hid (s.toList=l):=by show s.toList=l;rw [Oi,hl]
 rw [<-hl];clear hl;go_enter func71,ntmps71;go_wp2_with fail;refine (Qr1 w).mono ?_;rintro e w1 ⟨rfl,hw1⟩;have HB:Hid (Below w.heap.size w w1):=by rw [hw1];exact Qn
 have HH:Hid (Held w1 w.heap.size 9 L6):=by rw [hw1];exact Held.new w 9 L6
 obtain ⟨g,hg⟩:=Qb w.heap.size;rw [<-hg]at HH ⊢;clear hg hw1;go_wp2_with fail;go_loop [4] (λi=> ∃k:Nat,k<=18/\i= .int .i64 (k:Int)/\Hid (∀j,j<k->l≠Kh.getD j [])) (λi=>18-(intOf i).toNat)
 case atStart=>exact ⟨0,by omega,rfl,λj hj=>by omega⟩
 case round=>
  obtain ⟨k,hk,rfl,hK⟩:=hrel;by_cases hlt:k<18
  ·have hc:=HH.out.at_ (Qsc hlt);unfold txt at hc;obtain ⟨c,hcc⟩:=Qb (Kh.getD k []);rw [<-hcc]at hc;have HC:=Qa hcc;clear hcc;by_cases hE:l=c
   ·have he':(c==s.toList)=true:=(by rw [Jj.out];simpa using hE.symm);have HE:=Qa hE;clear hE;go_wp2_with fail;go_ret;exact ⟨by rw [Qb9 hlt (HE.out.trans HC.out)];rfl,HB.out⟩
   ·have he':(c==s.toList)=false:=(by rw [Jj.out];simpa using λh:c=l=>hE h.symm);have HE:=Qa hE;clear hE;go_wp2_with fail;go_round
    case rel=>exact ⟨k+1,by omega,by go_num,λj hj=>by
     rcases Xa j k with g |g
     ·exact hK.out j g
     ·obtain rfl:j=k:=(by omega);rw [<-HC.out];exact HE.out⟩
    case measure=>simp [intOf];omega
  ·obtain rfl:k=18:=(by omega);go_wp2_with fail;go_ret;exact ⟨by rw [Qb8 hK.out];rfl,HB.out⟩
theorem Qob (s:ByteArray) (w:World) (hs:s.size<=140737488351232):
  Calls prog 55 #[.string s] w λe w'=>e= .returned (.bool (Y2 s.data.toList))/\Below w.heap.size w w':=by
 obtain ⟨l,hl⟩:=Qb s.data.toList;have HLEN:Hid (l.length=s.size):=by show l.length=s.size;rw [hl];exact Gw
 rw [<-hl];have HL:=Qa hl;clear hl;go_enter func55,ntmps55;go_wp2_with fail;go_loop [3] (λi=> ∃k:Nat,k<=s.size/\i= .int .i64 (k:Int)/\Hid (0<k->Zc (bt l 0)=false)/\Hid (∀j,j<k->(X4 (bt l j)||Zc (bt l j))=true)) (λi=>s.size-(intOf i).toNat)
 case atStart=>exact ⟨0,by omega,rfl,(λh=>by omega:(0<0->Zc (bt l 0)=false)),λj hj=>by omega⟩
 case round=>
  obtain ⟨k,hk,rfl,hD,hK⟩:=hrel;by_cases hlt:k<s.size
  ·have hb:=Qa (U7 HL.out hlt);have hkl:Hid (k<l.length):=(by show k<l.length;rw [HLEN.out];exact hlt);have hnext: ∀{P:Prop},(X4 (bt l k)||Zc (bt l k))=true->((∀j,j<k+1->(X4 (bt l j)||Zc (bt l j))=true)->P)->P:=λh f=>f λj hj=>by
    rcases Xa j k with g |g
    ·exact hK.out j g
    ·obtain rfl:j=k:=(by omega);exact h
   go_wp2_with fail;refine (Qmt s[k].toNat w).mono ?_;rintro e w1 ⟨rfl,hw1⟩;rw [hw1,<-hb.out];clear hw1 w1;cases hp:X4 (bt l k)with
   |true=>
    have HP:=Qa hp;clear hp;go_wp2_with fail;go_round
    case rel=>exact ⟨k+1,by omega,by go_num,(λ_=>by
      rcases Nat.eq_zero_or_pos k with g |g
      ·subst g;have:=HP.out
       revert this
       unfold X4 Zc;simp;omega
      ·exact hD.out g:(0<k+1->Zc (bt l 0)=false)),hnext (by rw [HP.out];rfl) id⟩
    case measure=>simp [intOf];omega
   |false=>
    have HP:=Qa hp;clear hp;rcases Nat.eq_zero_or_pos k with g |g
    ·have hk0:(((k:Nat):Int)==0)=true:=(by simp [g]);have HK0:=Qa g;clear g;go_wp2_with fail;go_ret;refine ⟨?_,Below.refl _ _⟩;have:Y2 l=false:=by
      cases h2:Zc (bt l 0)with
      |true=>exact Qas h2
      |false=>
       have h1:=HP.out;rw [HK0.out]at h1;have h3:=hkl.out;rw [HK0.out]at h3;exact Qak h3 h1 h2
     rw [this];rfl
    ·have hk0:(((k:Nat):Int)==0)=false:=(by simp;omega);go_wp2_with fail;refine (Qi3 s[k].toNat w).mono ?_;rintro e w1 ⟨rfl,hw1⟩;rw [hw1,<-hb.out];clear hw1 w1;cases hp2:Zc (bt l k)with
     |true=>
      have Jb:=Qa hp2;clear hp2;go_wp2_with fail;go_round
      case rel=>exact ⟨k+1,by omega,by go_num,(λ_=>hD.out g:(0<k+1->Zc (bt l 0)=false)),hnext (by rw [Jb.out];simp) id⟩
      case measure=>simp [intOf];omega
     |false=>
      have Jb:=Qa hp2;clear hp2;go_wp2_with fail;go_ret;exact ⟨by rw [Qak hkl.out HP.out Jb.out];rfl,Below.refl _ _⟩
  ·have hall:Hid (∀j,j<l.length->(X4 (bt l j)||Zc (bt l j))=true):=λj hj=>hK.out j (by rw [HLEN.out]at hj;omega);clear hK;rcases Nat.eq_zero_or_pos s.size with h0 |h0
   ·have HN:=Qa (R6 (l:=l) (by rw [HLEN.out];exact h0));have h0':decide (0<s.size)=false:=(by simp [h0]);clear h0;go_wp2_with fail;go_ret;exact ⟨by rw [HN.out];rfl,Below.refl _ _⟩
   ·by_cases h32:32<s.size
    ·have HN:=Qa (Qdd (l:=l) (by rw [HLEN.out];exact h32));go_wp2_with fail;go_ret;exact ⟨by rw [HN.out];rfl,Below.refl _ _⟩
    ·have HN:Hid (Y2 l= !K3 l):=by
      show Y2 l= !K3 l;cases h:K3 l with
      |true=>exact Qdx h
      |false=>exact Qdo (by rw [HLEN.out];exact h0) (by rw [HLEN.out];omega) (hD.out (by omega)) hall.out h
     go_wp2_with fail;refine (Qk0 s w).mono ?_;rintro e w1 ⟨rfl,hb1⟩;have HB:=Qa hb1;rw [<-HL.out];clear hb1;cases h:K3 l with
     |true=>
      have HK:=Qa h;clear h;go_wp2_with fail;go_ret;exact ⟨by rw [HN.out,HK.out];rfl,HB.out⟩
     |false=>
      have HK:=Qa h;clear h;go_wp2_with fail;go_ret;exact ⟨by rw [HN.out,HK.out];rfl,HB.out⟩
theorem Qei {x:Nd} (h: ¬(1<=x.kind/\x.kind<=26/\0<=x.at_)):ownB x=false:=by
 unfold ownB;by_cases h1:1<=x.kind
 ·by_cases h2:x.kind<=26
  ·rw [decide_eq_false (show¬0<=x.at_ by omega)];simp
  ·rw [decide_eq_false h2];simp
 ·rw [decide_eq_false h1];simp
theorem Qnw (K:Int) (ka:Option Addr) (kc m:Nat) (n:Int) (s:ByteArray) (at_:Int) (w:World) (h:K<1\/26<K\/at_<0):
  Calls prog 39 #[.agg #[.int .i64 K,.slice ka m kc,.int .i64 n,.string s,.int .i64 at_]] w λe w'=>e= .returned (.bool false)/\Below w.heap.size w w':=by
 by_cases h1:K<1
 ·clear h;go_enter func39,ntmps39;go_wp2_with fail;go_quiet (fail);go_wp2_with fail;go_ret;exact ⟨rfl,Qn.trans (Q5 _ _ _)⟩
 ·have h1':decide (K<1)=false:=by simpa using h1
  by_cases h2:26<K
  ·clear h;go_enter func39,ntmps39;go_wp2_with fail;go_quiet (fail);go_wp2_with fail;go_ret;exact ⟨rfl,Qn.trans (Q5 _ _ _)⟩
  ·have h2':decide (26<K)=false:=(by simpa using h2);have h3:at_<0:=(by omega);clear h;go_enter func39,ntmps39;go_wp2_with fail;go_quiet (fail);go_wp2_with fail;go_ret;exact ⟨rfl,Qn.trans (Q5 _ _ _)⟩
theorem Qnh (K:Int) (ka:Option Addr) (kc m:Nat) (n:Int) (s:ByteArray) (at_:Int) (w:World) (h1:1<=K) (h2:K<=26) (h3:0<=at_) (hs:s.size<=140737488351232):
  Calls prog 39 #[.agg #[.int .i64 K,.slice ka m kc,.int .i64 n,.string s,.int .i64 at_]] w λe w'=>e= .returned (.bool ((if named K then Y2 s.data.toList else decide (s.data.toList=[]))&&Ko K n))/\Below w.heap.size w w':=by
 have h1':decide (K<1)=false:=by simp;omega
 have h2':decide (26<K)=false:=by simp;omega
 have h3':decide (at_<0)=false:=by simp;omega
 have Jj:=Qa (Oi s);have cN: ∀w1:World,∀d os,Calls prog 54 #[.int .i64 K] (Sort.grow (redrawn w1 d) os) λe w''=>e= .returned (.bool (named K))/\ ∃p:Regrown,w''=Sort.grow (redrawn w1 p.d) p.os:=λw1 d os=>Calls.regrown_of (Qlk K _);have cR: ∀w1:World,∀d os,Calls prog 55 #[.string s] (Sort.grow (redrawn w1 d) os) λe w''=>e= .returned (.bool (Y2 s.data.toList))/\ ∃p:Regrown,w''=Sort.grow (redrawn w1 p.d) p.os:=λw1 d os=>Calls.regrown_of (Qob s _ hs);obtain ⟨R,hR⟩:=Qb ((if named K then Y2 s.data.toList else decide (s.data.toList=[]))&&Ko K n);rw [<-hR];have HR:=Qa hR;clear hR;obtain ⟨B1,hB1⟩:=Qb (named K);obtain ⟨B2,hB2⟩:=Qb (Y2 s.data.toList);rw [<-hB1]at cN;rw [<-hB2]at cR;have HB1:=Qa hB1;have HB2:=Qa hB2;clear hB1 hB2;by_cases hse:s.data.toList=[]
 ·have Qab:s.toList.isEmpty=true:=by rw [Jj.out,hse];rfl
  have Sr:s.toList=[]:=by rw [Jj.out,hse]
  have Dq:=Qa hse;clear hse;cases B1 with
  |true=>
   go_enter func39,ntmps39;go_wp2_with fail;obtain ⟨w1,hw1⟩:=Qb (w.alloc (.cells #[.int .i64 K,.slice ka m kc,.int .i64 n,.string s,.int .i64 at_] 25));have Zn:Hid (Below w.heap.size w w1):=(by rw [hw1];exact Qn);have HH:Hid (Held w1 w.heap.size 25 #[.int .i64 K,.slice ka m kc,.int .i64 n,.string s,.int .i64 at_]):=(by rw [hw1];exact Held.new w _ _);have X7:Hid (w.heap.size<=w1.heap.size):=Zn.out.size;obtain ⟨g,hg⟩:=Qb w.heap.size;rw [<-hw1];rw [<-hg]at HH Zn X7 ⊢;have HG:=Qa hg;clear hw1 hg;have k0:=cell_regrown (HH.out.at_ (j:=0) rfl);have k2:=cell_regrown (HH.out.at_ (j:=2) rfl);have k3:=cell_regrown (HH.out.at_ (j:=3) rfl);have k4:=cell_regrown (HH.out.at_ (j:=4) rfl);have Vf:=cN w1;have Vh:=cR w1;clear cN cR;refine wp_region_quiet_below (by kernel_rfl) (by kernel_rfl) ?_
   repeat (any_goals (first |go_big_quiet_step (first |exact Vf _ _ |exact Vh _ _) |quiet_step (first |exact Vf _ _ |exact Vh _ _)))
   refine wpQuiet_nil ?_;intro _ hw';obtain ⟨⟨dq,osq⟩,hw''⟩:=hw';obtain ⟨w2,hw2⟩:=Qb (Sort.grow (redrawn w1 dq) osq);have HB3:Hid (Below g w w2):=(by rw [hw2];exact Zn.out.trans ((below_regrown w1 dq osq).mono X7.out));have c0:w2.cell? ⟨g,0,none⟩=some (.int .i64 K):=(by rw [hw2];exact k0 dq osq);have c2:w2.cell? ⟨g,2,none⟩=some (.int .i64 n):=(by rw [hw2];exact k2 dq osq);rw [hw'',<-hw2];clear hw2 hw'' k0 k2 k3 k4 Vf Vh HH;go_wp2_with fail;go_ret;exact ⟨by rw [HR.out,<-HB1.out,Dq.out,Wy rfl,R6 rfl,Bool.false_and];rfl,by rw [<-HG.out];exact HB3.out⟩
  |false=>
   go_enter func39,ntmps39;go_wp2_with fail;obtain ⟨w1,hw1⟩:=Qb (w.alloc (.cells #[.int .i64 K,.slice ka m kc,.int .i64 n,.string s,.int .i64 at_] 25));have Zn:Hid (Below w.heap.size w w1):=(by rw [hw1];exact Qn);have HH:Hid (Held w1 w.heap.size 25 #[.int .i64 K,.slice ka m kc,.int .i64 n,.string s,.int .i64 at_]):=(by rw [hw1];exact Held.new w _ _);have X7:Hid (w.heap.size<=w1.heap.size):=Zn.out.size;obtain ⟨g,hg⟩:=Qb w.heap.size;rw [<-hw1];rw [<-hg]at HH Zn X7 ⊢;have HG:=Qa hg;clear hw1 hg;have k0:=cell_regrown (HH.out.at_ (j:=0) rfl);have k2:=cell_regrown (HH.out.at_ (j:=2) rfl);have k3:=cell_regrown (HH.out.at_ (j:=3) rfl);have k4:=cell_regrown (HH.out.at_ (j:=4) rfl);have Vf:=cN w1;have Vh:=cR w1;clear cN cR;refine wp_region_quiet_below (by kernel_rfl) (by kernel_rfl) ?_
   repeat (any_goals (first |go_big_quiet_step (first |exact Vf _ _ |exact Vh _ _) |quiet_step (first |exact Vf _ _ |exact Vh _ _)))
   refine wpQuiet_nil ?_;intro _ hw';obtain ⟨⟨dq,osq⟩,hw''⟩:=hw';obtain ⟨w2,hw2⟩:=Qb (Sort.grow (redrawn w1 dq) osq);have HB3:Hid (Below g w w2):=(by rw [hw2];exact Zn.out.trans ((below_regrown w1 dq osq).mono X7.out));have c0:w2.cell? ⟨g,0,none⟩=some (.int .i64 K):=(by rw [hw2];exact k0 dq osq);have c2:w2.cell? ⟨g,2,none⟩=some (.int .i64 n):=(by rw [hw2];exact k2 dq osq);rw [hw'',<-hw2];clear hw2 hw'' k0 k2 k3 k4 Vf Vh HH;go_wp2_with fail
   all_goals go_ret
   all_goals refine ⟨congrArg (λb=>Ending.returned (Value.bool b)) ?_,by rw [<-HG.out];exact HB3.out⟩
   all_goals rw [HR.out,<-HB1.out,Q6 Bool.false_ne_true,decide_eq_true Dq.out,Bool.true_and]
   all_goals simp only [beq_iff_eq,beq_eq_false_iff_ne,ne_eq]at*
   all_goals (unfold Ko;rw [Bool.eq_iff_iff];(repeat' split)<;>(try simp)<;>(try omega))
 ·have Qab:s.toList.isEmpty=false:=by rw [Jj.out,List.isEmpty_eq_false_iff];exact hse
  have Sr: ¬s.toList=[]:=by rw [Jj.out];exact hse
  have Dq:=Qa hse;clear hse;cases B1 with
  |false=>
   go_enter func39,ntmps39;go_wp2_with fail;obtain ⟨w1,hw1⟩:=Qb (w.alloc (.cells #[.int .i64 K,.slice ka m kc,.int .i64 n,.string s,.int .i64 at_] 25));have Zn:Hid (Below w.heap.size w w1):=(by rw [hw1];exact Qn);have HH:Hid (Held w1 w.heap.size 25 #[.int .i64 K,.slice ka m kc,.int .i64 n,.string s,.int .i64 at_]):=(by rw [hw1];exact Held.new w _ _);have X7:Hid (w.heap.size<=w1.heap.size):=Zn.out.size;obtain ⟨g,hg⟩:=Qb w.heap.size;rw [<-hw1];rw [<-hg]at HH Zn X7 ⊢;have HG:=Qa hg;clear hw1 hg;have k0:=cell_regrown (HH.out.at_ (j:=0) rfl);have k2:=cell_regrown (HH.out.at_ (j:=2) rfl);have k3:=cell_regrown (HH.out.at_ (j:=3) rfl);have k4:=cell_regrown (HH.out.at_ (j:=4) rfl);have Vf:=cN w1;have Vh:=cR w1;clear cN cR;refine wp_region_quiet_below (by kernel_rfl) (by kernel_rfl) ?_
   repeat (any_goals (first |go_big_quiet_step (first |exact Vf _ _ |exact Vh _ _) |quiet_step (first |exact Vf _ _ |exact Vh _ _)))
   refine wpQuiet_nil ?_;intro _ hw';obtain ⟨⟨dq,osq⟩,hw''⟩:=hw';obtain ⟨w2,hw2⟩:=Qb (Sort.grow (redrawn w1 dq) osq);have HB3:Hid (Below g w w2):=(by rw [hw2];exact Zn.out.trans ((below_regrown w1 dq osq).mono X7.out));have c0:w2.cell? ⟨g,0,none⟩=some (.int .i64 K):=(by rw [hw2];exact k0 dq osq);have c2:w2.cell? ⟨g,2,none⟩=some (.int .i64 n):=(by rw [hw2];exact k2 dq osq);rw [hw'',<-hw2];clear hw2 hw'' k0 k2 k3 k4 Vf Vh HH;go_wp2_with fail;go_ret;exact ⟨by rw [HR.out,<-HB1.out,Q6 Bool.false_ne_true,decide_eq_false Dq.out,Bool.false_and];rfl,by rw [<-HG.out];exact HB3.out⟩
  |true=>
   cases B2 with
   |false=>
    go_enter func39,ntmps39;go_wp2_with fail;obtain ⟨w1,hw1⟩:=Qb (w.alloc (.cells #[.int .i64 K,.slice ka m kc,.int .i64 n,.string s,.int .i64 at_] 25));have Zn:Hid (Below w.heap.size w w1):=(by rw [hw1];exact Qn);have HH:Hid (Held w1 w.heap.size 25 #[.int .i64 K,.slice ka m kc,.int .i64 n,.string s,.int .i64 at_]):=(by rw [hw1];exact Held.new w _ _);have X7:Hid (w.heap.size<=w1.heap.size):=Zn.out.size;obtain ⟨g,hg⟩:=Qb w.heap.size;rw [<-hw1];rw [<-hg]at HH Zn X7 ⊢;have HG:=Qa hg;clear hw1 hg;have k0:=cell_regrown (HH.out.at_ (j:=0) rfl);have k2:=cell_regrown (HH.out.at_ (j:=2) rfl);have k3:=cell_regrown (HH.out.at_ (j:=3) rfl);have k4:=cell_regrown (HH.out.at_ (j:=4) rfl);have Vf:=cN w1;have Vh:=cR w1;clear cN cR;refine wp_region_quiet_below (by kernel_rfl) (by kernel_rfl) ?_
    repeat (any_goals (first |go_big_quiet_step (first |exact Vf _ _ |exact Vh _ _) |quiet_step (first |exact Vf _ _ |exact Vh _ _)))
    refine wpQuiet_nil ?_;intro _ hw';obtain ⟨⟨dq,osq⟩,hw''⟩:=hw';obtain ⟨w2,hw2⟩:=Qb (Sort.grow (redrawn w1 dq) osq);have HB3:Hid (Below g w w2):=(by rw [hw2];exact Zn.out.trans ((below_regrown w1 dq osq).mono X7.out));have c0:w2.cell? ⟨g,0,none⟩=some (.int .i64 K):=(by rw [hw2];exact k0 dq osq);have c2:w2.cell? ⟨g,2,none⟩=some (.int .i64 n):=(by rw [hw2];exact k2 dq osq);rw [hw'',<-hw2];clear hw2 hw'' k0 k2 k3 k4 Vf Vh HH;go_wp2_with fail;go_ret;exact ⟨by rw [HR.out,<-HB1.out,Wy rfl,<-HB2.out,Bool.false_and];rfl,by rw [<-HG.out];exact HB3.out⟩
   |true=>
    go_enter func39,ntmps39;go_wp2_with fail;obtain ⟨w1,hw1⟩:=Qb (w.alloc (.cells #[.int .i64 K,.slice ka m kc,.int .i64 n,.string s,.int .i64 at_] 25));have Zn:Hid (Below w.heap.size w w1):=(by rw [hw1];exact Qn);have HH:Hid (Held w1 w.heap.size 25 #[.int .i64 K,.slice ka m kc,.int .i64 n,.string s,.int .i64 at_]):=(by rw [hw1];exact Held.new w _ _);have X7:Hid (w.heap.size<=w1.heap.size):=Zn.out.size;obtain ⟨g,hg⟩:=Qb w.heap.size;rw [<-hw1];rw [<-hg]at HH Zn X7 ⊢;have HG:=Qa hg;clear hw1 hg;have k0:=cell_regrown (HH.out.at_ (j:=0) rfl);have k2:=cell_regrown (HH.out.at_ (j:=2) rfl);have k3:=cell_regrown (HH.out.at_ (j:=3) rfl);have k4:=cell_regrown (HH.out.at_ (j:=4) rfl);have Vf:=cN w1;have Vh:=cR w1;clear cN cR;refine wp_region_quiet_below (by kernel_rfl) (by kernel_rfl) ?_
    repeat (any_goals (first |go_big_quiet_step (first |exact Vf _ _ |exact Vh _ _) |quiet_step (first |exact Vf _ _ |exact Vh _ _)))
    refine wpQuiet_nil ?_;intro _ hw';obtain ⟨⟨dq,osq⟩,hw''⟩:=hw';obtain ⟨w2,hw2⟩:=Qb (Sort.grow (redrawn w1 dq) osq);have HB3:Hid (Below g w w2):=(by rw [hw2];exact Zn.out.trans ((below_regrown w1 dq osq).mono X7.out));have c0:w2.cell? ⟨g,0,none⟩=some (.int .i64 K):=(by rw [hw2];exact k0 dq osq);have c2:w2.cell? ⟨g,2,none⟩=some (.int .i64 n):=(by rw [hw2];exact k2 dq osq);rw [hw'',<-hw2];clear hw2 hw'' k0 k2 k3 k4 Vf Vh HH;go_wp2_with fail
    all_goals go_ret
    all_goals refine ⟨congrArg (λb=>Ending.returned (Value.bool b)) ?_,by rw [<-HG.out];exact HB3.out⟩
    all_goals rw [HR.out,<-HB1.out,Wy rfl,<-HB2.out,Bool.true_and]
    all_goals simp only [beq_iff_eq,beq_eq_false_iff_ne,ne_eq]at*
    all_goals (unfold Ko;rw [Bool.eq_iff_iff];(repeat' split)<;>(try simp)<;>(try omega))
theorem Qmf (x:Nd) (w:World) (hs:x.s.size<=140737488351232):
  Calls prog 39 #[x.v] w λe w'=>e= .returned (.bool (ownB x))/\Below w.heap.size w w':=by
 obtain ⟨K,ka,kc,ks,n,s,at_⟩:=x;by_cases h:1<=K/\K<=26/\0<=at_
 ·refine (Qnh K ka kc ks.length n s at_ w h.1 h.2.1 h.2.2 hs).mono ?_;rintro e w' ⟨rfl,hb⟩;refine ⟨?_,hb⟩;have:ownB ⟨K,ka,kc,ks,n,s,at_⟩=((if named K then Y2 s.data.toList else decide (s.data.toList=[]))&&Ko K n):=by show (decide (1<=K)&&decide (K<=26)&&decide (0<=at_)&&(if named K then Y2 s.data.toList else decide (s.data.toList=[]))&&Ko K n)=_;rw [decide_eq_true h.1,decide_eq_true h.2.1,decide_eq_true h.2.2,Bool.true_and,Bool.true_and,Bool.true_and]
  rw [this]
 ·refine (Qnw K ka kc ks.length n s at_ w (by omega)).mono ?_;rintro e w' ⟨rfl,hb⟩;refine ⟨?_,hb⟩;rw [Qei (x:=⟨K,ka,kc,ks,n,s,at_⟩) h]
end
end Go.Proofs.YtdncpkkhkbijfaaDoor
