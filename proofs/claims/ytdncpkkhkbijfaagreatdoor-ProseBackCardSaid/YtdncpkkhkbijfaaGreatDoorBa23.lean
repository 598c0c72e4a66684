import Derived.Test.YtdncpkkhkbijfaaGreatDoorBa8
import Derived.Test.YtdncpkkhkbijfaaGreatDoorBa13
open Go.Proofs.Tryz
set_option linter.all false
set_option maxHeartbeats 0
set_option maxRecDepth 100000
namespace Go.Proofs.YtdncpkkhkbijfaaGreatDoor
section
open Go.RowKit
theorem Qv0 (n:Nat) (w:World):
  Calls prog 125 #[.int .u8 (n:Int)] w λe w'=>e= .returned (.bool (Yn n))/\w'=w:=by
 go_enter func125,ntmps125;go_wp2
 all_goals go_ret
 all_goals refine ⟨congrArg (λb=>Ending.returned (Value.bool b)) ?_,rfl⟩
 all_goals (rw [Bool.eq_iff_iff];simp [Yn];try omega)
theorem Q5z (n:Nat) (w:World):
  Calls prog 122 #[.int .u8 (n:Int)] w λe w'=>e= .returned (.bool (isLt n))/\w'=w:=by
 go_enter func122,ntmps122;go_wp2
 all_goals go_ret
 all_goals refine ⟨congrArg (λb=>Ending.returned (Value.bool b)) ?_,rfl⟩
 all_goals (rw [Bool.eq_iff_iff];simp [isLt];try omega)
theorem Wb8 (n:Nat) (w:World):
  Calls prog 124 #[.int .u8 (n:Int)] w λe w'=>e= .returned (.bool (Vt n))/\w'=w:=by
 go_enter func124,ntmps124;go_wp2_with fail;refine (Q5z n w).mono ?_;rintro e w1 ⟨rfl,hw1⟩;rw [hw1];clear hw1 w1;cases hl:isLt n with
 |true=>
  go_wp2_with fail;go_ret;exact ⟨by simp [Vt,hl],rfl⟩
 |false=>
  go_wp2_with fail;refine (Qv0 n w).mono ?_;rintro e w1 ⟨rfl,hw1⟩;rw [hw1];clear hw1 w1;go_wp2_with fail;go_ret;exact ⟨by simp [Vt,hl],rfl⟩
theorem Wbk (s:ByteArray) (q:Nat) (w:World) (hs:s.size<=1000000000) (hq:q<=s.size):
  Calls prog 123 #[.string s,.int .i64 (q:Int),.func (.func 124) #[] #[]] w λe w'=>e= .returned (.int .i64 ((q+rn Vt (s.data.toList.drop q):Nat):Int))/\w'=w:=by
 obtain ⟨l,hl⟩:=Qb s.data.toList;have hlen:l.length=s.size:=by rw [hl];exact Au
 have HLEN:=Qa hlen;rw [<-hl];have HL:=Qa hl;obtain ⟨m,hm⟩:=Qb (q+rn Vt (l.drop q));have HM:=Qa hm;rw [<-hm];clear hl hlen hm;go_enter func123,ntmps123;go_wp2_with fail;go_loop [1] (λi=> ∃k:Nat,k<=s.size/\i= .int .i64 (k:Int)/\Hid (m=k+rn Vt (l.drop k))) (λi=>s.size-(intOf i).toNat)
 case atStart=>exact ⟨q,hq,rfl,HM⟩
 case round=>
  obtain ⟨k,hk,rfl,hK⟩:=hrel;by_cases hlt:k<s.size
  ·have hb:=Qa (Hq HL.out hlt);have hkl:Hid (k<l.length):=(by show k<l.length;rw [HLEN.out];exact hlt);go_wp2_with fail;refine (Wb8 s[k].toNat w).mono ?_;rintro e w1 ⟨rfl,hw1⟩;rw [hw1,<-hb.out];clear hw1 w1;cases hp:Vt (bt l k)with
   |true=>
    have HP:=Qa hp;clear hp;go_wp2_with fail;go_round
    case rel=>exact ⟨k+1,by omega,by go_num,(show m=k+1+rn Vt (l.drop (k+1)) by rw [hK.out,Qc2 hkl.out HP.out];omega)⟩
    case measure=>simp [intOf];omega
   |false=>
    have HP:=Qa hp;clear hp;go_wp2_with fail;go_ret;refine ⟨?_,rfl⟩;rw [hK.out,Qot hkl.out HP.out];rfl
  ·go_wp2_with fail;go_ret;refine ⟨?_,rfl⟩;rw [hK.out,Qmr (by rw [HLEN.out];omega)];rfl
theorem Wdg (s:ByteArray) (q:Nat) (w:World) (hs:s.size<=1000000000) (hq:q<=s.size):
  Calls prog 123 #[.string s,.int .i64 (q:Int),.func (.func 125) #[] #[]] w λe w'=>e= .returned (.int .i64 ((q+rn Yn (s.data.toList.drop q):Nat):Int))/\w'=w:=by
 obtain ⟨l,hl⟩:=Qb s.data.toList;have hlen:l.length=s.size:=by rw [hl];exact Au
 have HLEN:=Qa hlen;rw [<-hl];have HL:=Qa hl;obtain ⟨m,hm⟩:=Qb (q+rn Yn (l.drop q));have HM:=Qa hm;rw [<-hm];clear hl hlen hm;go_enter func123,ntmps123;go_wp2_with fail;go_loop [1] (λi=> ∃k:Nat,k<=s.size/\i= .int .i64 (k:Int)/\Hid (m=k+rn Yn (l.drop k))) (λi=>s.size-(intOf i).toNat)
 case atStart=>exact ⟨q,hq,rfl,HM⟩
 case round=>
  obtain ⟨k,hk,rfl,hK⟩:=hrel;by_cases hlt:k<s.size
  ·have hb:=Qa (Hq HL.out hlt);have hkl:Hid (k<l.length):=(by show k<l.length;rw [HLEN.out];exact hlt);go_wp2_with fail;refine (Qv0 s[k].toNat w).mono ?_;rintro e w1 ⟨rfl,hw1⟩;rw [hw1,<-hb.out];clear hw1 w1;cases hp:Yn (bt l k)with
   |true=>
    have HP:=Qa hp;clear hp;go_wp2_with fail;go_round
    case rel=>exact ⟨k+1,by omega,by go_num,(show m=k+1+rn Yn (l.drop (k+1)) by rw [hK.out,Qc2 hkl.out HP.out];omega)⟩
    case measure=>simp [intOf];omega
   |false=>
    have HP:=Qa hp;clear hp;go_wp2_with fail;go_ret;refine ⟨?_,rfl⟩;rw [hK.out,Qot hkl.out HP.out];rfl
  ·go_wp2_with fail;go_ret;refine ⟨?_,rfl⟩;rw [hK.out,Qmr (by rw [HLEN.out];omega)];rfl
def behind (q a b:Nat):Value:=.int .i64 ((q+Y4 a b:Nat):Int)
theorem Qxm {q a b:Nat} (h:Y4 a b=0):Value.int .i64 (q:Int)=behind q a b:=by unfold behind;rw [h];rfl
theorem Q5i {q a b:Nat} (h:Y4 a b=1):Value.int .i64 ((q:Int)+1)=behind q a b:=by unfold behind;rw [h];rfl
theorem Qxz {q a b:Nat} (h:Y4 a b=2):Value.int .i64 ((q:Int)+2)=behind q a b:=by unfold behind;rw [h];rfl
theorem Wcw (s:ByteArray) (q:Nat) (w:World) (hs:s.size<=1000000000) (hq:q+1<s.size):
  Calls prog 126 #[.string s,.int .i64 (q:Int)] w λe w'=>e= .returned (behind q (s[q].toNat) (s[q+1].toNat))/\w'=w:=by
 have hq0:q<s.size:=by omega
 go_enter func126,ntmps126;go_wp2_with fail
 all_goals go_ret
 all_goals refine ⟨congrArg Ending.returned ?_,rfl⟩
 all_goals simp only [beq_iff_eq,beq_eq_false_iff_ne,bne_iff_ne,bne_eq_false_iff_eq,ne_eq]at*
 all_goals first
  |(refine Qxm ?_;unfold Y4;(repeat' split)<;>omega)
  |(refine Q5i ?_;unfold Y4;(repeat' split)<;>omega)
  |(refine Qxz ?_;unfold Y4;(repeat' split)<;>omega)
theorem Wil (s:ByteArray) (q:Nat) (w:World) (hs:s.size<=1000000000) (hq0:q<s.size) (hq:s.size<=q+1):
  Calls prog 126 #[.string s,.int .i64 (q:Int)] w λe w'=>e= .returned (behind q (s[q].toNat) 0)/\w'=w:=by
 go_enter func126,ntmps126;go_wp2_with fail
 all_goals go_ret
 all_goals refine ⟨congrArg Ending.returned ?_,rfl⟩
 all_goals simp only [beq_iff_eq,beq_eq_false_iff_ne,bne_iff_ne,ne_eq]at*
 all_goals first
  |(refine Qxm ?_;unfold Y4;(repeat' split)<;>omega)
  |(refine Q5i ?_;unfold Y4;(repeat' split)<;>omega)
  |(refine Qxz ?_;unfold Y4;(repeat' split)<;>omega)
theorem Wph (s:ByteArray) (q:Nat) (w:World) (hs:s.size<=1000000000) (hq:q<s.size):
  Calls prog 126 #[.string s,.int .i64 (q:Int)] w λe w'=>e= .returned (.int .i64 ((q+Y4 (bt s.data.toList q) (bt s.data.toList (q+1)):Nat):Int))/\w'=w:=by
 by_cases h:q+1<s.size
 ·rw [Hq rfl hq,Hq rfl h];exact Wcw s q w hs h
 ·have e:bt s.data.toList (q+1)=0:=by unfold bt;rw [Yc,Qbz (by rw [Qa3];omega)];rfl
  rw [Hq rfl hq,e];exact Wil s q w hs hq (by omega)
theorem Q68 (s:ByteArray) (q:Nat) (w:World) (hs:s.size<=1000000000) (hq:q<=s.size):
  Calls prog 50 #[.string s,.int .i64 (q:Int)] w λe w'=>e= .returned (.int .i64 ((q+Yh false (s.data.toList.drop q):Nat):Int))/\w'=w:=by
 obtain ⟨l,hl⟩:=Qb s.data.toList;have hlen:l.length=s.size:=by rw [hl];exact Au
 have HLEN:=Qa hlen;rw [<-hl];have HL:=Qa hl;obtain ⟨m,hm⟩:=Qb (q+Yh false (l.drop q));have HM:=Qa hm;rw [<-hm];clear hl hlen hm;go_enter func50,ntmps50;go_wp2_with fail;go_loop [1] (λi=> ∃k:Nat,k<=s.size/\i= .int .i64 (k:Int)/\Hid (m=k+Yh false (l.drop k))) (λi=>s.size-(intOf i).toNat)
 case atStart=>exact ⟨q,hq,rfl,HM⟩
 case round=>
  obtain ⟨k,hk,rfl,hK⟩:=hrel;by_cases hlt:k<s.size
  ·have hkl:Hid (k<l.length):=(by show k<l.length;rw [HLEN.out];exact hlt);have hb:=Hq HL.out hlt;obtain ⟨c,hc⟩:=Qb (bt l k);rw [<-hc]at hb;have HC:=Qa hc;clear hc;by_cases Fx:c=35
   ·have t1:((s[k].toNat:Int)==35)=true:=(by rw [<-hb,Fx];rfl);have Ru:=Qa Fx;have HB:=Qa hb;clear Fx hb;have hN:Hid (m=k+1+Yh true (l.drop (k+1))):=by show m=k+1+Yh true (l.drop (k+1));rw [hK.out,Qwv hkl.out (by rw [<-HC.out,Ru.out])];omega
    go_wp2_with fail;go_loop [1] (λi=> ∃j:Nat,k<=j/\j<s.size/\i= .int .i64 (j:Int)/\Hid (m=j+1+Yh true (l.drop (j+1)))) (λi=>s.size-(intOf i).toNat)
    case atStart=>exact ⟨k,Qh _,hlt,rfl,hN⟩
    case round=>
     obtain ⟨j,hkj,hjs,rfl,hJ⟩:=hrel;by_cases hjn:j+1<s.size
     ·have hjl:Hid (j+1<l.length):=(by show j+1<l.length;rw [HLEN.out];exact hjn);have hb:=Hq HL.out hjn;by_cases h10:bt l (j+1)=10
      ·have t2:((s[j+1].toNat:Int) != 10)=false:=(by rw [<-hb,h10];rfl);have hX:Hid (m=j+1+Yh false (l.drop (j+1))):=by show m=j+1+Yh false (l.drop (j+1));rw [hJ.out,Q1g hjl.out h10]
       clear hb h10;go_wp2_with fail;refine ⟨⟨j+1,by omega,by go_num,hX⟩,?_⟩;simp [intOf];omega
      ·have t2:((s[j+1].toNat:Int) != 10)=true:=(by rw [<-hb];simp;omega);have hX:Hid (m=j+1+1+Yh true (l.drop (j+1+1))):=by show m=j+1+1+Yh true (l.drop (j+1+1));rw [hJ.out,Quc hjl.out h10];omega
       clear hb h10;go_wp2_with fail;refine ⟨⟨j+1,by omega,by omega,by go_num,hX⟩,?_⟩;simp [intOf];omega
     ·have hX:Hid (m=j+1+Yh false (l.drop (j+1))):=by show m=j+1+Yh false (l.drop (j+1));rw [hJ.out,Qnd (by rw [HLEN.out];omega),Qnd (by rw [HLEN.out];omega)]
      go_wp2_with fail;refine ⟨⟨j+1,by omega,by go_num,hX⟩,?_⟩;simp [intOf];omega
   ·have t1:((s[k].toNat:Int)==35)=false:=(by rw [<-hb];simp;omega);have Ru:=Qa Fx;clear Fx;cases hbl:Ib c with
    |true=>
     have hN:Hid (m=k+1+Yh false (l.drop (k+1))):=by show m=k+1+Yh false (l.drop (k+1));rw [hK.out,Qqu hkl.out (by rw [<-HC.out];exact Ru.out) (by rw [<-HC.out];exact hbl)];omega
     have hcase:c=32\/c=9\/c=10\/c=13:=by unfold Ib at hbl;simp at hbl;omega
     clear hbl;rcases hcase with h |h |h |h
     ·have t2:((s[k].toNat:Int)==32)=true:=(by rw [<-hb,h];rfl);clear h hb;go_wp2_with fail;refine ⟨⟨k+1,by omega,by go_num,hN⟩,?_⟩;simp [intOf];omega
     ·have t2:((s[k].toNat:Int)==32)=false:=(by rw [<-hb,h];rfl);have t3:((s[k].toNat:Int)==9)=true:=(by rw [<-hb,h];rfl);clear h hb;go_wp2_with fail;refine ⟨⟨k+1,by omega,by go_num,hN⟩,?_⟩;simp [intOf];omega
     ·have t2:((s[k].toNat:Int)==32)=false:=(by rw [<-hb,h];rfl);have t3:((s[k].toNat:Int)==9)=false:=(by rw [<-hb,h];rfl);have t4:((s[k].toNat:Int)==10)=true:=(by rw [<-hb,h];rfl);clear h hb;go_wp2_with fail;refine ⟨⟨k+1,by omega,by go_num,hN⟩,?_⟩;simp [intOf];omega
     ·have t2:((s[k].toNat:Int)==32)=false:=(by rw [<-hb,h];rfl);have t3:((s[k].toNat:Int)==9)=false:=(by rw [<-hb,h];rfl);have t4:((s[k].toNat:Int)==10)=false:=(by rw [<-hb,h];rfl);have t5:((s[k].toNat:Int)==13)=true:=(by rw [<-hb,h];rfl);clear h hb;go_wp2_with fail;refine ⟨⟨k+1,by omega,by go_num,hN⟩,?_⟩;simp [intOf];omega
    |false=>
     have hN:Hid (m=k):=by show m=k;rw [hK.out,Qyr hkl.out (by rw [<-HC.out];exact Ru.out) (by rw [<-HC.out,hbl];decide)];rfl
     unfold Ib at hbl;simp at hbl;have t2:((s[k].toNat:Int)==32)=false:=(by rw [<-hb];simp;omega);have t3:((s[k].toNat:Int)==9)=false:=(by rw [<-hb];simp;omega);have t4:((s[k].toNat:Int)==10)=false:=(by rw [<-hb];simp;omega);have t5:((s[k].toNat:Int)==13)=false:=(by rw [<-hb];simp;omega);clear hbl hb;go_wp2_with fail;go_ret;refine ⟨?_,rfl⟩;rw [hN.out];rfl
  ·obtain rfl:k=s.size:=(by omega);go_wp2_with fail;go_ret;refine ⟨?_,rfl⟩;rw [hK.out,Qnd (by rw [HLEN.out];exact Qh _)];rfl
theorem Wes (s:ByteArray) (w:World) (hs:s.size<=1000000000):
  Calls prog 89 #[.string s] w λe w'=>e= .returned (Mr s.data.toList)/\w'=w:=by
 obtain ⟨l,hl⟩:=Qb s.data.toList;have hlen:l.length=s.size:=by rw [hl];exact Au
 have HLEN:=Qa hlen;rw [<-hl];have HL:=Qa hl;clear hl hlen;go_enter func89,ntmps89;go_wp2_with fail;go_loop [4,9] (λa i=> ∃k n:Nat,k<=s.size/\n<=9223372036854775807/\a= .int .i64 (n:Int)/\i= .int .i64 (k:Int)/\Hid (num (l.take k)=some n)) (λ_ i=>s.size-(intOf i).toNat)
 case atStart=>exact ⟨0,0,Vh _,by omega,rfl,rfl,(show num (l.take 0)=some 0 from rfl)⟩
 case round=>
  obtain ⟨k,n,hk,hn,rfl,rfl,hK⟩:=hrel;by_cases hlt:k<s.size
  ·have hkl:Hid (k<l.length):=(by show k<l.length;rw [HLEN.out];exact hlt);have hb:=Hq HL.out hlt;have hu:s[k].toNat<256:=UInt8.toNat_lt _;have hd:=Q8e s[k].toNat hu;obtain ⟨d,hdd⟩:=Qb ((s[k].toNat+208)%256);have Ws7:d<=255:=(by omega);rw [<-hdd]at hd;have HD:Hid (d=Ug (l.getD k 0)):=by show d=Ug (l.getD k 0);unfold Ug;rw [show (l.getD k 0).toNat=bt l k from rfl,hb];exact hdd
   clear hdd hb hu;have hq:(9223372036854775807-(d:Int)).tdiv 10=(((9223372036854775807-d)/10:Nat):Int):=by rw [Int.tdiv_eq_ediv_of_nonneg (by omega)];omega
   by_cases hfit:n*10+d<=9223372036854775807
   ·have HN:Hid (num (l.take (k+1))=some (n*10+d)):=by show num (l.take (k+1))=some (n*10+d);rw [Qiz hkl.out,hK.out,HD.out];unfold M9;rw [<-HD.out];exact Qk hfit
    have hle:(n:Int)<=(9223372036854775807-(d:Int))/10:=(by omega);go_wp2_with fail;go_round
    case rel=>exact ⟨k+1,n*10+d,by omega,hfit,by go_num,by go_num,HN⟩
    case measure=>simp [intOf];omega
   ·have HN:Hid (num l=none):=by show num l=none;refine Qzd (k:=k+1) ?_;rw [Qiz hkl.out,hK.out];unfold M9;rw [<-HD.out];exact Qd hfit
    have hle:(9223372036854775807-(d:Int))/10<(n:Int):=(by omega);go_wp2_with fail;go_ret2;refine ⟨?_,rfl⟩;unfold Mr;rw [HN.out];rfl
  ·obtain rfl:k=s.size:=(by omega);go_wp2_with fail;go_ret2;refine ⟨?_,rfl⟩;have h:=hK.out;rw [F6 (by rw [HLEN.out];exact Qh _)]at h;unfold Mr;rw [h];rfl
def Qjr (b:List UInt8):Value:=.string ⟨b.toArray⟩
def Qze:Array Value:=(keys.map Qjr).toArray
def Tab (w:World):Prop:= ∃t fr,w.heap[4]? =some (.cells Qze t fr)
theorem Tab.below {w w':World} (h:Tab w) (hb:Below w.heap.size w w'):Tab w':=by obtain ⟨t,fr,h⟩:=h;refine ⟨t,fr,?_⟩;obtain ⟨hlt,_⟩:=Array.getElem?_eq_some_iff.1 h;rw [hb.block _ hlt];exact h
theorem Wbb: ∀(j:Nat),j<18-> ∀(w:World),(Instr.index 132 (.agg Qze) (.int .i64 (j:Int))).run prog w= .ok (Qjr (keys.getD j [])) w
 | 0,_,w=>by kernel_rfl
 | 1,_,w=>by kernel_rfl
 | 2,_,w=>by kernel_rfl
 | 3,_,w=>by kernel_rfl
 | 4,_,w=>by kernel_rfl
 | 5,_,w=>by kernel_rfl
 | 6,_,w=>by kernel_rfl
 | 7,_,w=>by kernel_rfl
 | 8,_,w=>by kernel_rfl
 | 9,_,w=>by kernel_rfl
 | 10,_,w=>by kernel_rfl
 | 11,_,w=>by kernel_rfl
 | 12,_,w=>by kernel_rfl
 | 13,_,w=>by kernel_rfl
 | 14,_,w=>by kernel_rfl
 | 15,_,w=>by kernel_rfl
 | 16,_,w=>by kernel_rfl
 | 17,_,w=>by kernel_rfl
 |n+18,h,_=>by omega
theorem Weu {b:List UInt8} (h: ∀j,j<18->b≠keys.getD j []):isKey b=false:=by unfold isKey;rw [List.any_eq_false];intro k hk;obtain ⟨j,hj,rfl⟩:=List.mem_iff_getElem.1 hk;have hj':j<18:=hj;have:=h j hj';rw [Yc,Y3 hj]at this;simpa using this
theorem Wo6 {b:List UInt8} {j:Nat} (hj:j<18) (h:b=keys.getD j []):isKey b=true:=by unfold isKey;rw [List.any_eq_true];have hj':j<keys.length:=hj;refine ⟨keys[j],F5 hj',?_⟩;rw [Yc,Y3 hj']at h;simpa using h
theorem Wmp (b:List UInt8) (w:World) (hT:Tab w):
  Calls prog 90 #[Qjr b] w λe w'=>e= .returned (.bool (isKey b))/\w'=w:=by
 obtain ⟨tt,fr,hg⟩:=hT;have HG:=Qa hg;clear hg;unfold Qjr;go_enter func90,ntmps90;go_wp2_with (refine wpList_load_row rfl 132 _ rfl 4 rfl tt _ fr _ HG.out underlying132 rfl (by kernel_rfl) ?_);go_loop [6] (λi=> ∃k:Nat,k<=18/\i= .int .i64 (k:Int)/\Hid (∀j,j<k->b≠keys.getD j [])) (λi=>18-(intOf i).toNat)
 case atStart=>exact ⟨0,by omega,rfl,λj hj=>by omega⟩
 case round=>
  obtain ⟨k,hk,rfl,hK⟩:=hrel;by_cases hlt:k<18
  ·have hix:=Wbb k hlt;unfold Qjr at hix;obtain ⟨c,hc⟩:=Qb (keys.getD k []);rw [<-hc]at hix;have HC:=Qa hc;clear hc;by_cases he:b=c
   ·subst he;go_wp2_with fail;go_ret;exact ⟨by rw [Wo6 hlt HC.out];rfl,rfl⟩
   ·have he':(b==c)=false:=(by simpa using he);have HE:=Qa he;clear he;go_wp2_with fail;go_round
    case rel=>exact ⟨k+1,by omega,by go_num,λj hj=>by
     rcases V7 j k with g |g
     ·exact hK.out j g
     ·obtain rfl:j=k:=(by omega);rw [<-HC.out];exact HE.out⟩
    case measure=>simp [intOf];omega
  ·obtain rfl:k=18:=(by omega);go_wp2_with fail;go_ret;exact ⟨by rw [Weu hK.out];rfl,rfl⟩
theorem Wq0 (l:List UInt8) (k:Nat):bt (l.drop k) 0=bt l k:=by unfold bt;rw [Yc,Yc,List.getElem?_drop];rfl
theorem Wpw {l:List UInt8} {k:Nat} (h:k<l.length) (hc:isLt (bt l k)=true):k0 (l.drop k)=1/\ln (l.drop k)=rn Vt (l.drop k):=by rw [S9 h];exact ⟨Qk hc,Qk hc⟩
theorem Wm6 {l:List UInt8} {k:Nat} (h:k<l.length) (hc:isLt (bt l k)=false) (hd:Yn (bt l k)=true):k0 (l.drop k)=2/\ln (l.drop k)=rn Yn (l.drop k):=by
 have hc': ¬isLt (l.getD k 0).toNat=true:=by rw [show (l.getD k 0).toNat=bt l k from rfl,hc];decide
 rw [S9 h];exact ⟨(Qd hc').trans (Qk hd),(Qd hc').trans (Qk hd)⟩
theorem Wlz {l:List UInt8} {k:Nat} (h:k<l.length) (hc:isLt (bt l k)=false) (hd:Yn (bt l k)=false):k0 (l.drop k)=4/\ln (l.drop k)=Y4 (bt l k) (bt l (k+1)):=by
 have hc': ¬isLt (l.getD k 0).toNat=true:=by rw [show (l.getD k 0).toNat=bt l k from rfl,hc];decide
 have hd': ¬Yn (l.getD k 0).toNat=true:=by rw [show (l.getD k 0).toNat=bt l k from rfl,hd];decide
 rw [S9 h];refine ⟨(Qd hc').trans (Qd hd'),((Qd hc').trans (Qd hd')).trans ?_⟩;rw [Wq0];rfl
theorem Wmx (s:ByteArray) (q:Nat) (w:World) (hs:s.size<=1000000000) (hq:q<s.size):
  Calls prog 88 #[.string s,.int .i64 (q:Int)] w λe w'=>e= .returned (.tuple #[.int .i64 (k0 (s.data.toList.drop q):Int),.int .i64 ((q+ln (s.data.toList.drop q):Nat):Int)])/\w'=w:=by
 obtain ⟨l,hl⟩:=Qb s.data.toList;have hlen:l.length=s.size:=by rw [hl];exact Au
 have hkl:Hid (q<l.length):=by show q<l.length;rw [hlen];exact hq
 rw [<-hl];have HL:=Qa hl;have hb:=Qa (Hq hl hq);obtain ⟨K,hK⟩:=Qb (k0 (l.drop q));obtain ⟨M,hM⟩:=Qb (q+ln (l.drop q));rw [<-hK,<-hM];have HK:=Qa hK;have HM:=Qa hM;clear hl hlen hK hM;go_enter func88,ntmps88;go_wp2_with fail;refine (Q5z s[q].toNat w).mono ?_;rintro e w1 ⟨rfl,hw1⟩;rw [hw1,<-hb.out];clear hw1 w1;cases hc:isLt (bt l q)with
 |true=>
  have HC:=Qa hc;clear hc;go_wp2_with fail;refine (Wbk s q w hs (by omega)).mono ?_;rintro e w1 ⟨rfl,hw1⟩;rw [hw1,<-HL.out];clear hw1 w1;obtain ⟨h1,h2⟩:=Wpw hkl.out HC.out;rw [<-h2,<-HM.out];obtain rfl:K=1:=by rw [HK.out,h1]
  clear h1 h2;go_wp2_with fail;go_ret2;exact ⟨rfl,rfl⟩
 |false=>
  have HC:=Qa hc;clear hc;go_wp2_with fail;refine (Qv0 (bt l q) w).mono ?_;rintro e w1 ⟨rfl,hw1⟩;rw [hw1];clear hw1 w1;cases hd:Yn (bt l q)with
  |true=>
   have HD:=Qa hd;clear hd;go_wp2_with fail;refine (Wdg s q w hs (by omega)).mono ?_;rintro e w1 ⟨rfl,hw1⟩;rw [hw1,<-HL.out];clear hw1 w1;obtain ⟨h1,h2⟩:=Wm6 hkl.out HC.out HD.out;rw [<-h2,<-HM.out];obtain rfl:K=2:=(by rw [HK.out,h1]);clear h1 h2;go_wp2_with fail;go_ret2;exact ⟨rfl,rfl⟩
  |false=>
   have HD:=Qa hd;clear hd;go_wp2_with fail;refine (Wph s q w hs hq).mono ?_;rintro e w1 ⟨rfl,hw1⟩;rw [hw1,<-HL.out];clear hw1 w1;obtain ⟨h1,h2⟩:=Wlz hkl.out HC.out HD.out;rw [<-h2,<-HM.out];obtain rfl:K=4:=(by rw [HK.out,h1]);clear h1 h2;go_wp2_with fail;go_ret2;exact ⟨rfl,rfl⟩
end
end Go.Proofs.YtdncpkkhkbijfaaGreatDoor
