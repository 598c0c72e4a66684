import Derived.Test.YtdncpkkhkbijfaaGreatDoorBa4
import Derived.Lib.QuietBelow
open Go.Proofs.Tryz
set_option linter.all false
set_option maxHeartbeats 0
set_option maxRecDepth 100000
namespace Go.Proofs.YtdncpkkhkbijfaaGreatDoor
section
open Go.RowKit
theorem Wc2 {l:List UInt8} (h:l.length=0):Xa l=false:=by simp [Xa,h]
theorem Wdz {l:List UInt8} (h:32<l.length):Xa l=false:=by unfold Xa;rw [decide_eq_false (show¬l.length<=32 by omega)];simp
theorem Wo9 {l:List UInt8} (h:Cm (bt l 0)=true):Xa l=false:=by simp [Xa,h]
theorem Wah {l:List UInt8} (h:Tg l=true):Xa l=false:=by simp [Xa,h]
theorem Qyd {l:List UInt8} {k:Nat} (hk:k<l.length):bt l k=l[k].toNat:=by unfold bt;rw [Yc,Y3 hk];rfl
theorem Wjn {l:List UInt8} {k:Nat} (hk:k<l.length) (h1:Hg (bt l k)=false) (h2:Cm (bt l k)=false):Xa l=false:=by
 have:l.all (λc=>Hg c.toNat||Cm c.toNat)=false:=by rw [List.all_eq_false];refine ⟨l[k],F5 hk,?_⟩;rw [<-Qyd hk,h1,h2];simp
 simp [Xa,this]
theorem Qxs {l:List UInt8} (h0:0<l.length) (h1:l.length<=32) (h2:Cm (bt l 0)=false) (h3: ∀k,k<l.length->(Hg (bt l k)||Cm (bt l k))=true) (h4:Tg l=false):Xa l=true:=by
 have:l.all (λc=>Hg c.toNat||Cm c.toNat)=true:=by rw [Ou];intro c hc;obtain ⟨k,hk,rfl⟩:=List.mem_iff_getElem.1 hc;rw [<-Qyd hk];exact h3 k hk
 simp [Xa,this,h0,h1,h2,h4]
theorem Q7r {b:List UInt8} (h: ∀j,j<18->b≠Nl.getD j []):Tg b=false:=by unfold Tg;rw [List.any_eq_false];intro k hk;obtain ⟨j,hj,rfl⟩:=List.mem_iff_getElem.1 hk;have hj':j<18:=hj;have:=h j hj';rw [Yc,Y3 hj]at this;simpa using this
theorem Q27 {b:List UInt8} {j:Nat} (hj:j<18) (h:b=Nl.getD j []):Tg b=true:=by unfold Tg;rw [List.any_eq_true];have hj':j<Nl.length:=hj;refine ⟨Nl[j],F5 hj',?_⟩;rw [Yc,Y3 hj']at h;simpa using h
theorem Wos: ∀(j:Nat),j<18-> ∀(w:World),(Instr.index 132 (.agg Q2h) (.int .i64 (j:Int))).run prog w= .ok (txt (Nl.getD j [])) w
 | 0,_,w=>by kernel_rfl
 | 1,_,w=>by kernel_rfl
 | 2,_,w=>by kernel_rfl
 | 3,_,w=>by kernel_rfl
 | 4,_,w=>by kernel_rfl
 | 5,_,w=>by kernel_rfl
 | 6,_,w=>by kernel_rfl
 | 7,_,w=>by kernel_rfl
 | 8,_,w=>by kernel_rfl
 | 9,_,w=>by kernel_rfl
 | 10,_,w=>by kernel_rfl
 | 11,_,w=>by kernel_rfl
 | 12,_,w=>by kernel_rfl
 | 13,_,w=>by kernel_rfl
 | 14,_,w=>by kernel_rfl
 | 15,_,w=>by kernel_rfl
 | 16,_,w=>by kernel_rfl
 | 17,_,w=>by kernel_rfl
 |n+18,h,_=>by omega
theorem Qoy (s:ByteArray):s.toList=s.data.toList:=ByteArray.toList_eq s
theorem Qsa (b:List UInt8):(⟨b.toArray⟩:ByteArray).toList=b:=by rw [ByteArray.toList_eq]
theorem Q6g (s:ByteArray):Value.string s=txt s.data.toList:=by unfold txt;rw [Array.toArray_toList]
theorem Ad (l:List UInt8):(⟨l.toArray⟩:ByteArray).size=l.length:=rfl
theorem Wnj (s:ByteArray) (w:World) (hT:Dp w) (hs:s.size<=140737488351232):
  Calls prog 136 #[.string s] w λe w'=>e= .returned (.bool (Xa s.data.toList))/\w'=w:=by
 obtain ⟨l,hl⟩:=Qb s.data.toList;have hlen:l.length=s.size:=by rw [hl];exact Au
 have HLEN:=Qa hlen;have htl:s.toList=l:=by rw [Qoy,hl]
 rw [<-hl];have HL:=Qa hl;clear hl;rcases Nat.eq_zero_or_pos s.size with h0 |h0
 ·have hn:l=[]:=List.length_eq_zero_iff.1 (by omega);have he:s.toList.isEmpty=true:=by rw [htl,hn];rfl
  have he2:s.toList=[]:=by rw [htl,hn]
  clear h0 hlen htl;have HN:=Qa hn;clear hn;go_enter func136,ntmps136;go_wp2_with fail;go_ret;exact ⟨by rw [Wc2 (by rw [HN.out];rfl)];rfl,rfl⟩
 have hne:l≠[]:=by intro h;rw [h]at hlen;simp at hlen;omega
 have he:s.toList.isEmpty=false:=by rw [htl,List.isEmpty_eq_false_iff];exact hne
 have he2: ¬s.toList=[]:=by rw [htl];exact hne
 clear hne;by_cases h32:32<s.size
 ·have HB:=Qa (Wdz (l:=l) (by omega));clear hlen htl;go_enter func136,ntmps136;go_wp2_with fail;go_ret;exact ⟨by rw [HB.out];rfl,rfl⟩
 have X9:=Qa htl;clear hlen htl;obtain ⟨tt,fr,hg⟩:=hT.keys;have HG:=Qa hg;clear hg hT;have hb0:=Qa (Hq HL.out h0);cases hd:Cm (bt l 0)with
 |true=>
  have HD:=Qa hd;clear hd;go_enter func136,ntmps136;go_wp2_with fail;refine (Qqk s[0].toNat w).mono ?_;rintro e w1 ⟨rfl,hw1⟩;rw [hw1,<-hb0.out,HD.out];clear hw1 w1;go_wp2_with fail;go_ret;exact ⟨by rw [Wo9 HD.out];rfl,rfl⟩
 |false=>
  have HD:=Qa hd;clear hd;go_enter func136,ntmps136;go_wp2_with fail;refine (Qqk s[0].toNat w).mono ?_;rintro e w1 ⟨rfl,hw1⟩;rw [hw1,<-hb0.out,HD.out];clear hw1 w1;go_wp2_with fail;go_loop [3,20] (λ_ i=> ∃k:Nat,k<=s.size/\i= .int .i64 (k:Int)/\Hid (∀j,j<k->(Hg (bt l j)||Cm (bt l j))=true)) (λ_ i=>s.size-(intOf i).toNat)
  case atStart=>exact ⟨0,by omega,rfl,λj hj=>by omega⟩
  case round=>
   obtain ⟨k,hk,rfl,hK⟩:=hrel;by_cases hlt:k<s.size
   ·have hb:=Qa (Hq HL.out hlt);have hkl:Hid (k<l.length):=(by show k<l.length;rw [HLEN.out];exact hlt);have hnext: ∀{P:Prop},(Hg (bt l k)||Cm (bt l k))=true->((∀j,j<k+1->(Hg (bt l j)||Cm (bt l j))=true)->P)->P:=λh f=>f λj hj=>by
     rcases V7 j k with g |g
     ·exact hK.out j g
     ·obtain rfl:j=k:=(by omega);exact h
    go_wp2_with fail;refine (Wmq s[k].toNat w).mono ?_;rintro e w1 ⟨rfl,hw1⟩;rw [hw1,<-hb.out];clear hw1 w1;cases hp:Hg (bt l k)with
    |true=>
     have HP:=Qa hp;clear hp;go_wp2_with fail;go_round
     case rel=>exact ⟨k+1,by omega,by go_num,hnext (by rw [HP.out];rfl) id⟩
     case measure=>simp [intOf];omega
    |false=>
     have HP:=Qa hp;clear hp;go_wp2_with fail;refine (Qqk s[k].toNat w).mono ?_;rintro e w1 ⟨rfl,hw1⟩;rw [hw1,<-hb.out];clear hw1 w1;cases hp2:Cm (bt l k)with
     |true=>
      have Gl:=Qa hp2;clear hp2;go_wp2_with fail;go_round
      case rel=>exact ⟨k+1,by omega,by go_num,hnext (by rw [Gl.out];simp) id⟩
      case measure=>simp [intOf];omega
     |false=>
      have Gl:=Qa hp2;clear hp2;go_wp2_with fail;go_ret;exact ⟨by rw [Wjn hkl.out HP.out Gl.out];rfl,rfl⟩
   ·have hall:Hid (∀j,j<l.length->(Hg (bt l j)||Cm (bt l j))=true):=λj hj=>hK.out j (by rw [HLEN.out]at hj;omega);clear hK;go_wp2_with (refine wpList_load_row rfl 132 _ rfl 11 rfl tt _ fr _ HG.out underlying132 rfl (by kernel_rfl) ?_);go_loop [5,37] (λ_ i=> ∃k:Nat,k<=18/\i= .int .i64 (k:Int)/\Hid (∀j,j<k->l≠Nl.getD j [])) (λ_ i=>18-(intOf i).toNat)
    case atStart=>exact ⟨0,by omega,rfl,λj hj=>by omega⟩
    case round=>
     obtain ⟨k,hk,rfl,hK⟩:=hrel;by_cases hlt:k<18
     ·have hix:=Wos k hlt;unfold txt at hix;obtain ⟨c,hc⟩:=Qb (Nl.getD k []);rw [<-hc]at hix;have HC:=Qa hc;clear hc;by_cases hE:l=c
      ·have he':(s.toList==c)=true:=(by rw [X9.out];simpa using hE);have HE:=Qa hE;clear hE;go_wp2_with fail;go_ret;exact ⟨by rw [Wah (Q27 hlt (HE.out.trans HC.out))];rfl,rfl⟩
      ·have he':(s.toList==c)=false:=(by rw [X9.out];simpa using hE);have HE:=Qa hE;clear hE;go_wp2_with fail;go_round
       case rel=>exact ⟨k+1,by omega,by go_num,λj hj=>by
        rcases V7 j k with g |g
        ·exact hK.out j g
        ·obtain rfl:j=k:=(by omega);rw [<-HC.out];exact HE.out⟩
       case measure=>simp [intOf];omega
     ·obtain rfl:k=18:=(by omega);go_wp2_with fail;go_ret;exact ⟨by rw [Qxs (by rw [HLEN.out];exact h0) (by rw [HLEN.out];omega) HD.out hall.out (Q7r hK.out)];rfl,rfl⟩
def Qk6:Array Value:=(Nl.map txt).toArray
theorem Wo1 {j:Nat} (hj:j<18):Qk6[j]? =some (txt (Nl.getD j [])):=by unfold Qk6;have hj':j<Nl.length:=hj;rw [List.getElem?_toArray,Ng,Y3 hj',Yc,Y3 hj'];rfl
theorem We5 (w:World):
  Calls prog 132 #[] w λe w'=>e= .returned (.slice (some ⟨w.heap.size,0,none⟩) 18 18)/\w'=w.alloc (.cells Qk6 9):=by
 go_enter func132,ntmps132;go_wp2;go_ret;exact ⟨rfl,rfl⟩
theorem Qz5 (s:ByteArray) (w:World):
  Calls prog 106 #[.string s] w λe w'=>e= .returned (.bool (Tg s.data.toList))/\Below w.heap.size w w':=by
 obtain ⟨l,hl⟩:=Qb s.data.toList;have X9:Hid (s.toList=l):=by show s.toList=l;rw [Qoy,hl]
 rw [<-hl];clear hl;go_enter func106,ntmps106;go_wp2_with fail;refine (We5 w).mono ?_;rintro e w1 ⟨rfl,hw1⟩;have HB:Hid (Below w.heap.size w w1):=by rw [hw1];exact Qag
 have HH:Hid (Held w1 w.heap.size 9 Qk6):=by rw [hw1];exact Held.new w 9 Qk6
 obtain ⟨g,hg⟩:=Qb w.heap.size;rw [<-hg]at HH ⊢;clear hg hw1;go_wp2_with fail;go_loop [4] (λi=> ∃k:Nat,k<=18/\i= .int .i64 (k:Int)/\Hid (∀j,j<k->l≠Nl.getD j [])) (λi=>18-(intOf i).toNat)
 case atStart=>exact ⟨0,by omega,rfl,λj hj=>by omega⟩
 case round=>
  obtain ⟨k,hk,rfl,hK⟩:=hrel;by_cases hlt:k<18
  ·have hc:=HH.out.at_ (Wo1 hlt);unfold txt at hc;obtain ⟨c,hcc⟩:=Qb (Nl.getD k []);rw [<-hcc]at hc;have HC:=Qa hcc;clear hcc;by_cases hE:l=c
   ·have he':(c==s.toList)=true:=(by rw [X9.out];simpa using hE.symm);have HE:=Qa hE;clear hE;go_wp2_with fail;go_ret;exact ⟨by rw [Q27 hlt (HE.out.trans HC.out)];rfl,HB.out⟩
   ·have he':(c==s.toList)=false:=(by rw [X9.out];simpa using λh:c=l=>hE h.symm);have HE:=Qa hE;clear hE;go_wp2_with fail;go_round
    case rel=>exact ⟨k+1,by omega,by go_num,λj hj=>by
     rcases V7 j k with g |g
     ·exact hK.out j g
     ·obtain rfl:j=k:=(by omega);rw [<-HC.out];exact HE.out⟩
    case measure=>simp [intOf];omega
  ·obtain rfl:k=18:=(by omega);go_wp2_with fail;go_ret;exact ⟨by rw [Q7r hK.out];rfl,HB.out⟩
theorem Q3n (s:ByteArray) (w:World) (hs:s.size<=140737488351232):
  Calls prog 74 #[.string s] w λe w'=>e= .returned (.bool (Xa s.data.toList))/\Below w.heap.size w w':=by
 obtain ⟨l,hl⟩:=Qb s.data.toList;have HLEN:Hid (l.length=s.size):=by show l.length=s.size;rw [hl];exact Au
 rw [<-hl];have HL:=Qa hl;clear hl;go_enter func74,ntmps74;go_wp2_with fail;go_loop [3] (λi=> ∃k:Nat,k<=s.size/\i= .int .i64 (k:Int)/\Hid (0<k->Cm (bt l 0)=false)/\Hid (∀j,j<k->(Hg (bt l j)||Cm (bt l j))=true)) (λi=>s.size-(intOf i).toNat)
 case atStart=>exact ⟨0,by omega,rfl,(λh=>by omega:(0<0->Cm (bt l 0)=false)),λj hj=>by omega⟩
 case round=>
  obtain ⟨k,hk,rfl,hD,hK⟩:=hrel;by_cases hlt:k<s.size
  ·have hb:=Qa (Hq HL.out hlt);have hkl:Hid (k<l.length):=(by show k<l.length;rw [HLEN.out];exact hlt);have hnext: ∀{P:Prop},(Hg (bt l k)||Cm (bt l k))=true->((∀j,j<k+1->(Hg (bt l j)||Cm (bt l j))=true)->P)->P:=λh f=>f λj hj=>by
    rcases V7 j k with g |g
    ·exact hK.out j g
    ·obtain rfl:j=k:=(by omega);exact h
   go_wp2_with fail;refine (Q5k s[k].toNat w).mono ?_;rintro e w1 ⟨rfl,hw1⟩;rw [hw1,<-hb.out];clear hw1 w1;cases hp:Hg (bt l k)with
   |true=>
    have HP:=Qa hp;clear hp;go_wp2_with fail;go_round
    case rel=>exact ⟨k+1,by omega,by go_num,(λ_=>by
      rcases Nat.eq_zero_or_pos k with g |g
      ·subst g;have:=HP.out
       revert this
       unfold Hg Cm;simp;omega
      ·exact hD.out g:(0<k+1->Cm (bt l 0)=false)),hnext (by rw [HP.out];rfl) id⟩
    case measure=>simp [intOf];omega
   |false=>
    have HP:=Qa hp;clear hp;rcases Nat.eq_zero_or_pos k with g |g
    ·have hk0:(((k:Nat):Int)==0)=true:=(by simp [g]);have Ms:=Qa g;clear g;go_wp2_with fail;go_ret;refine ⟨?_,Below.refl _ _⟩;have:Xa l=false:=by
      cases h2:Cm (bt l 0)with
      |true=>exact Wo9 h2
      |false=>
       have h1:=HP.out;rw [Ms.out]at h1;have h3:=hkl.out;rw [Ms.out]at h3;exact Wjn h3 h1 h2
     rw [this];rfl
    ·have hk0:(((k:Nat):Int)==0)=false:=(by simp;omega);go_wp2_with fail;refine (Qqc s[k].toNat w).mono ?_;rintro e w1 ⟨rfl,hw1⟩;rw [hw1,<-hb.out];clear hw1 w1;cases hp2:Cm (bt l k)with
     |true=>
      have Gl:=Qa hp2;clear hp2;go_wp2_with fail;go_round
      case rel=>exact ⟨k+1,by omega,by go_num,(λ_=>hD.out g:(0<k+1->Cm (bt l 0)=false)),hnext (by rw [Gl.out];simp) id⟩
      case measure=>simp [intOf];omega
     |false=>
      have Gl:=Qa hp2;clear hp2;go_wp2_with fail;go_ret;exact ⟨by rw [Wjn hkl.out HP.out Gl.out];rfl,Below.refl _ _⟩
  ·have hall:Hid (∀j,j<l.length->(Hg (bt l j)||Cm (bt l j))=true):=λj hj=>hK.out j (by rw [HLEN.out]at hj;omega);clear hK;rcases Nat.eq_zero_or_pos s.size with h0 |h0
   ·have HN:=Qa (Wc2 (l:=l) (by rw [HLEN.out];exact h0));have h0':decide (0<s.size)=false:=(by simp [h0]);clear h0;go_wp2_with fail;go_ret;exact ⟨by rw [HN.out];rfl,Below.refl _ _⟩
   ·by_cases h32:32<s.size
    ·have HN:=Qa (Wdz (l:=l) (by rw [HLEN.out];exact h32));go_wp2_with fail;go_ret;exact ⟨by rw [HN.out];rfl,Below.refl _ _⟩
    ·have HN:Hid (Xa l= !Tg l):=by
      show Xa l= !Tg l;cases h:Tg l with
      |true=>exact Wah h
      |false=>exact Qxs (by rw [HLEN.out];exact h0) (by rw [HLEN.out];omega) (hD.out (by omega)) hall.out h
     go_wp2_with fail;refine (Qz5 s w).mono ?_;rintro e w1 ⟨rfl,hb1⟩;have HB:=Qa hb1;rw [<-HL.out];clear hb1;cases h:Tg l with
     |true=>
      have HK:=Qa h;clear h;go_wp2_with fail;go_ret;exact ⟨by rw [HN.out,HK.out];rfl,HB.out⟩
     |false=>
      have HK:=Qa h;clear h;go_wp2_with fail;go_ret;exact ⟨by rw [HN.out,HK.out];rfl,HB.out⟩
theorem Wng {x:Nd} (h: ¬(1<=x.kind/\x.kind<=26/\0<=x.at_)):ownB x=false:=by
 unfold ownB;by_cases h1:1<=x.kind
 ·by_cases h2:x.kind<=26
  ·rw [decide_eq_false (show¬0<=x.at_ by omega)];simp
  ·rw [decide_eq_false h2];simp
 ·rw [decide_eq_false h1];simp
theorem Wi6 (K:Int) (ka:Option Addr) (kc m:Nat) (n:Int) (s:ByteArray) (at_:Int) (w:World) (h:K<1\/26<K\/at_<0):
  Calls prog 41 #[.agg #[.int .i64 K,.slice ka m kc,.int .i64 n,.string s,.int .i64 at_]] w λe w'=>e= .returned (.bool false)/\Below w.heap.size w w':=by
 by_cases h1:K<1
 ·clear h;go_enter func41,ntmps41;go_wp2_with fail;go_quiet (fail);go_wp2_with fail;go_ret;exact ⟨rfl,Qag.trans (Wq _ _ _)⟩
 ·have h1':decide (K<1)=false:=by simpa using h1
  by_cases h2:26<K
  ·clear h;go_enter func41,ntmps41;go_wp2_with fail;go_quiet (fail);go_wp2_with fail;go_ret;exact ⟨rfl,Qag.trans (Wq _ _ _)⟩
  ·have h2':decide (26<K)=false:=(by simpa using h2);have h3:at_<0:=(by omega);clear h;go_enter func41,ntmps41;go_wp2_with fail;go_quiet (fail);go_wp2_with fail;go_ret;exact ⟨rfl,Qag.trans (Wq _ _ _)⟩
theorem Wat (K:Int) (ka:Option Addr) (kc m:Nat) (n:Int) (s:ByteArray) (at_:Int) (w:World) (h1:1<=K) (h2:K<=26) (h3:0<=at_) (hs:s.size<=140737488351232):
  Calls prog 41 #[.agg #[.int .i64 K,.slice ka m kc,.int .i64 n,.string s,.int .i64 at_]] w λe w'=>e= .returned (.bool ((if named K then Xa s.data.toList else decide (s.data.toList=[]))&&Ej K n))/\Below w.heap.size w w':=by
 have h1':decide (K<1)=false:=by simp;omega
 have h2':decide (26<K)=false:=by simp;omega
 have h3':decide (at_<0)=false:=by simp;omega
 have X9:=Qa (Qoy s);have cN: ∀w1:World,∀d os,Calls prog 73 #[.int .i64 K] (Sort.grow (redrawn w1 d) os) λe w''=>e= .returned (.bool (named K))/\ ∃p:Regrown,w''=Sort.grow (redrawn w1 p.d) p.os:=λw1 d os=>Calls.regrown_of (Wcs K _);have cR: ∀w1:World,∀d os,Calls prog 74 #[.string s] (Sort.grow (redrawn w1 d) os) λe w''=>e= .returned (.bool (Xa s.data.toList))/\ ∃p:Regrown,w''=Sort.grow (redrawn w1 p.d) p.os:=λw1 d os=>Calls.regrown_of (Q3n s _ hs);obtain ⟨R,hR⟩:=Qb ((if named K then Xa s.data.toList else decide (s.data.toList=[]))&&Ej K n);rw [<-hR];have HR:=Qa hR;clear hR;obtain ⟨B1,hB1⟩:=Qb (named K);obtain ⟨B2,hB2⟩:=Qb (Xa s.data.toList);rw [<-hB1]at cN;rw [<-hB2]at cR;have HB1:=Qa hB1;have HB2:=Qa hB2;clear hB1 hB2;by_cases hse:s.data.toList=[]
 ·have Wbr:s.toList.isEmpty=true:=by rw [X9.out,hse];rfl
  have Wii:s.toList=[]:=by rw [X9.out,hse]
  have M0:=Qa hse;clear hse;cases B1 with
  |true=>
   go_enter func41,ntmps41;go_wp2_with fail;obtain ⟨w1,hw1⟩:=Qb (w.alloc (.cells #[.int .i64 K,.slice ka m kc,.int .i64 n,.string s,.int .i64 at_] 37));have Aq:Hid (Below w.heap.size w w1):=(by rw [hw1];exact Qag);have HH:Hid (Held w1 w.heap.size 37 #[.int .i64 K,.slice ka m kc,.int .i64 n,.string s,.int .i64 at_]):=(by rw [hw1];exact Held.new w _ _);have K9:Hid (w.heap.size<=w1.heap.size):=Aq.out.size;obtain ⟨g,hg⟩:=Qb w.heap.size;rw [<-hw1];rw [<-hg]at HH Aq K9 ⊢;have HG:=Qa hg;clear hw1 hg;have k0:=cell_regrown (HH.out.at_ (j:=0) rfl);have k2:=cell_regrown (HH.out.at_ (j:=2) rfl);have k3:=cell_regrown (HH.out.at_ (j:=3) rfl);have k4:=cell_regrown (HH.out.at_ (j:=4) rfl);have R6:=cN w1;have Rp:=cR w1;clear cN cR;refine wp_region_quiet_below (by kernel_rfl) (by kernel_rfl) ?_
   repeat (any_goals (first |go_big_quiet_step (first |exact R6 _ _ |exact Rp _ _) |quiet_step (first |exact R6 _ _ |exact Rp _ _)))
   refine wpQuiet_nil ?_;intro _ hw';obtain ⟨⟨dq,osq⟩,hw''⟩:=hw';obtain ⟨w2,hw2⟩:=Qb (Sort.grow (redrawn w1 dq) osq);have HB3:Hid (Below g w w2):=(by rw [hw2];exact Aq.out.trans ((below_regrown w1 dq osq).mono K9.out));have c0:w2.cell? ⟨g,0,none⟩=some (.int .i64 K):=(by rw [hw2];exact k0 dq osq);have c2:w2.cell? ⟨g,2,none⟩=some (.int .i64 n):=(by rw [hw2];exact k2 dq osq);rw [hw'',<-hw2];clear hw2 hw'' k0 k2 k3 k4 R6 Rp HH;go_wp2_with fail;go_ret;exact ⟨by rw [HR.out,<-HB1.out,M0.out,Qk rfl,Wc2 rfl,Bool.false_and];rfl,by rw [<-HG.out];exact HB3.out⟩
  |false=>
   go_enter func41,ntmps41;go_wp2_with fail;obtain ⟨w1,hw1⟩:=Qb (w.alloc (.cells #[.int .i64 K,.slice ka m kc,.int .i64 n,.string s,.int .i64 at_] 37));have Aq:Hid (Below w.heap.size w w1):=(by rw [hw1];exact Qag);have HH:Hid (Held w1 w.heap.size 37 #[.int .i64 K,.slice ka m kc,.int .i64 n,.string s,.int .i64 at_]):=(by rw [hw1];exact Held.new w _ _);have K9:Hid (w.heap.size<=w1.heap.size):=Aq.out.size;obtain ⟨g,hg⟩:=Qb w.heap.size;rw [<-hw1];rw [<-hg]at HH Aq K9 ⊢;have HG:=Qa hg;clear hw1 hg;have k0:=cell_regrown (HH.out.at_ (j:=0) rfl);have k2:=cell_regrown (HH.out.at_ (j:=2) rfl);have k3:=cell_regrown (HH.out.at_ (j:=3) rfl);have k4:=cell_regrown (HH.out.at_ (j:=4) rfl);have R6:=cN w1;have Rp:=cR w1;clear cN cR;refine wp_region_quiet_below (by kernel_rfl) (by kernel_rfl) ?_
   repeat (any_goals (first |go_big_quiet_step (first |exact R6 _ _ |exact Rp _ _) |quiet_step (first |exact R6 _ _ |exact Rp _ _)))
   refine wpQuiet_nil ?_;intro _ hw';obtain ⟨⟨dq,osq⟩,hw''⟩:=hw';obtain ⟨w2,hw2⟩:=Qb (Sort.grow (redrawn w1 dq) osq);have HB3:Hid (Below g w w2):=(by rw [hw2];exact Aq.out.trans ((below_regrown w1 dq osq).mono K9.out));have c0:w2.cell? ⟨g,0,none⟩=some (.int .i64 K):=(by rw [hw2];exact k0 dq osq);have c2:w2.cell? ⟨g,2,none⟩=some (.int .i64 n):=(by rw [hw2];exact k2 dq osq);rw [hw'',<-hw2];clear hw2 hw'' k0 k2 k3 k4 R6 Rp HH;go_wp2_with fail
   all_goals go_ret
   all_goals refine ⟨congrArg (λb=>Ending.returned (Value.bool b)) ?_,by rw [<-HG.out];exact HB3.out⟩
   all_goals rw [HR.out,<-HB1.out,Qd Bool.false_ne_true,decide_eq_true M0.out,Bool.true_and]
   all_goals simp only [beq_iff_eq,beq_eq_false_iff_ne,ne_eq]at*
   all_goals (unfold Ej;rw [Bool.eq_iff_iff];(repeat' split)<;>(try simp)<;>(try omega))
 ·have Wbr:s.toList.isEmpty=false:=by rw [X9.out,List.isEmpty_eq_false_iff];exact hse
  have Wii: ¬s.toList=[]:=by rw [X9.out];exact hse
  have M0:=Qa hse;clear hse;cases B1 with
  |false=>
   go_enter func41,ntmps41;go_wp2_with fail;obtain ⟨w1,hw1⟩:=Qb (w.alloc (.cells #[.int .i64 K,.slice ka m kc,.int .i64 n,.string s,.int .i64 at_] 37));have Aq:Hid (Below w.heap.size w w1):=(by rw [hw1];exact Qag);have HH:Hid (Held w1 w.heap.size 37 #[.int .i64 K,.slice ka m kc,.int .i64 n,.string s,.int .i64 at_]):=(by rw [hw1];exact Held.new w _ _);have K9:Hid (w.heap.size<=w1.heap.size):=Aq.out.size;obtain ⟨g,hg⟩:=Qb w.heap.size;rw [<-hw1];rw [<-hg]at HH Aq K9 ⊢;have HG:=Qa hg;clear hw1 hg;have k0:=cell_regrown (HH.out.at_ (j:=0) rfl);have k2:=cell_regrown (HH.out.at_ (j:=2) rfl);have k3:=cell_regrown (HH.out.at_ (j:=3) rfl);have k4:=cell_regrown (HH.out.at_ (j:=4) rfl);have R6:=cN w1;have Rp:=cR w1;clear cN cR;refine wp_region_quiet_below (by kernel_rfl) (by kernel_rfl) ?_
   repeat (any_goals (first |go_big_quiet_step (first |exact R6 _ _ |exact Rp _ _) |quiet_step (first |exact R6 _ _ |exact Rp _ _)))
   refine wpQuiet_nil ?_;intro _ hw';obtain ⟨⟨dq,osq⟩,hw''⟩:=hw';obtain ⟨w2,hw2⟩:=Qb (Sort.grow (redrawn w1 dq) osq);have HB3:Hid (Below g w w2):=(by rw [hw2];exact Aq.out.trans ((below_regrown w1 dq osq).mono K9.out));have c0:w2.cell? ⟨g,0,none⟩=some (.int .i64 K):=(by rw [hw2];exact k0 dq osq);have c2:w2.cell? ⟨g,2,none⟩=some (.int .i64 n):=(by rw [hw2];exact k2 dq osq);rw [hw'',<-hw2];clear hw2 hw'' k0 k2 k3 k4 R6 Rp HH;go_wp2_with fail;go_ret;exact ⟨by rw [HR.out,<-HB1.out,Qd Bool.false_ne_true,decide_eq_false M0.out,Bool.false_and];rfl,by rw [<-HG.out];exact HB3.out⟩
  |true=>
   cases B2 with
   |false=>
    go_enter func41,ntmps41;go_wp2_with fail;obtain ⟨w1,hw1⟩:=Qb (w.alloc (.cells #[.int .i64 K,.slice ka m kc,.int .i64 n,.string s,.int .i64 at_] 37));have Aq:Hid (Below w.heap.size w w1):=(by rw [hw1];exact Qag);have HH:Hid (Held w1 w.heap.size 37 #[.int .i64 K,.slice ka m kc,.int .i64 n,.string s,.int .i64 at_]):=(by rw [hw1];exact Held.new w _ _);have K9:Hid (w.heap.size<=w1.heap.size):=Aq.out.size;obtain ⟨g,hg⟩:=Qb w.heap.size;rw [<-hw1];rw [<-hg]at HH Aq K9 ⊢;have HG:=Qa hg;clear hw1 hg;have k0:=cell_regrown (HH.out.at_ (j:=0) rfl);have k2:=cell_regrown (HH.out.at_ (j:=2) rfl);have k3:=cell_regrown (HH.out.at_ (j:=3) rfl);have k4:=cell_regrown (HH.out.at_ (j:=4) rfl);have R6:=cN w1;have Rp:=cR w1;clear cN cR;refine wp_region_quiet_below (by kernel_rfl) (by kernel_rfl) ?_
    repeat (any_goals (first |go_big_quiet_step (first |exact R6 _ _ |exact Rp _ _) |quiet_step (first |exact R6 _ _ |exact Rp _ _)))
    refine wpQuiet_nil ?_;intro _ hw';obtain ⟨⟨dq,osq⟩,hw''⟩:=hw';obtain ⟨w2,hw2⟩:=Qb (Sort.grow (redrawn w1 dq) osq);have HB3:Hid (Below g w w2):=(by rw [hw2];exact Aq.out.trans ((below_regrown w1 dq osq).mono K9.out));have c0:w2.cell? ⟨g,0,none⟩=some (.int .i64 K):=(by rw [hw2];exact k0 dq osq);have c2:w2.cell? ⟨g,2,none⟩=some (.int .i64 n):=(by rw [hw2];exact k2 dq osq);rw [hw'',<-hw2];clear hw2 hw'' k0 k2 k3 k4 R6 Rp HH;go_wp2_with fail;go_ret;exact ⟨by rw [HR.out,<-HB1.out,Qk rfl,<-HB2.out,Bool.false_and];rfl,by rw [<-HG.out];exact HB3.out⟩
   |true=>
    go_enter func41,ntmps41;go_wp2_with fail;obtain ⟨w1,hw1⟩:=Qb (w.alloc (.cells #[.int .i64 K,.slice ka m kc,.int .i64 n,.string s,.int .i64 at_] 37));have Aq:Hid (Below w.heap.size w w1):=(by rw [hw1];exact Qag);have HH:Hid (Held w1 w.heap.size 37 #[.int .i64 K,.slice ka m kc,.int .i64 n,.string s,.int .i64 at_]):=(by rw [hw1];exact Held.new w _ _);have K9:Hid (w.heap.size<=w1.heap.size):=Aq.out.size;obtain ⟨g,hg⟩:=Qb w.heap.size;rw [<-hw1];rw [<-hg]at HH Aq K9 ⊢;have HG:=Qa hg;clear hw1 hg;have k0:=cell_regrown (HH.out.at_ (j:=0) rfl);have k2:=cell_regrown (HH.out.at_ (j:=2) rfl);have k3:=cell_regrown (HH.out.at_ (j:=3) rfl);have k4:=cell_regrown (HH.out.at_ (j:=4) rfl);have R6:=cN w1;have Rp:=cR w1;clear cN cR;refine wp_region_quiet_below (by kernel_rfl) (by kernel_rfl) ?_
    repeat (any_goals (first |go_big_quiet_step (first |exact R6 _ _ |exact Rp _ _) |quiet_step (first |exact R6 _ _ |exact Rp _ _)))
    refine wpQuiet_nil ?_;intro _ hw';obtain ⟨⟨dq,osq⟩,hw''⟩:=hw';obtain ⟨w2,hw2⟩:=Qb (Sort.grow (redrawn w1 dq) osq);have HB3:Hid (Below g w w2):=(by rw [hw2];exact Aq.out.trans ((below_regrown w1 dq osq).mono K9.out));have c0:w2.cell? ⟨g,0,none⟩=some (.int .i64 K):=(by rw [hw2];exact k0 dq osq);have c2:w2.cell? ⟨g,2,none⟩=some (.int .i64 n):=(by rw [hw2];exact k2 dq osq);rw [hw'',<-hw2];clear hw2 hw'' k0 k2 k3 k4 R6 Rp HH;go_wp2_with fail
    all_goals go_ret
    all_goals refine ⟨congrArg (λb=>Ending.returned (Value.bool b)) ?_,by rw [<-HG.out];exact HB3.out⟩
    all_goals rw [HR.out,<-HB1.out,Qk rfl,<-HB2.out,Bool.true_and]
    all_goals simp only [beq_iff_eq,beq_eq_false_iff_ne,ne_eq]at*
    all_goals (unfold Ej;rw [Bool.eq_iff_iff];(repeat' split)<;>(try simp)<;>(try omega))
theorem Wox (x:Nd) (w:World) (hs:x.s.size<=140737488351232):
  Calls prog 41 #[x.v] w λe w'=>e= .returned (.bool (ownB x))/\Below w.heap.size w w':=by
 obtain ⟨K,ka,kc,ks,n,s,at_⟩:=x;by_cases h:1<=K/\K<=26/\0<=at_
 ·refine (Wat K ka kc ks.length n s at_ w h.1 h.2.1 h.2.2 hs).mono ?_;rintro e w' ⟨rfl,hb⟩;refine ⟨?_,hb⟩;have:ownB ⟨K,ka,kc,ks,n,s,at_⟩=((if named K then Xa s.data.toList else decide (s.data.toList=[]))&&Ej K n):=by show (decide (1<=K)&&decide (K<=26)&&decide (0<=at_)&&(if named K then Xa s.data.toList else decide (s.data.toList=[]))&&Ej K n)=_;rw [decide_eq_true h.1,decide_eq_true h.2.1,decide_eq_true h.2.2,Bool.true_and,Bool.true_and,Bool.true_and]
  rw [this]
 ·refine (Wi6 K ka kc ks.length n s at_ w (by omega)).mono ?_;rintro e w' ⟨rfl,hb⟩;refine ⟨?_,hb⟩;rw [Wng (x:=⟨K,ka,kc,ks,n,s,at_⟩) h]
end
end Go.Proofs.YtdncpkkhkbijfaaGreatDoor
