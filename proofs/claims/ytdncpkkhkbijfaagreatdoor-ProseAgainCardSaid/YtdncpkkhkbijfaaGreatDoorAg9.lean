import Derived.Test.YtdncpkkhkbijfaaGreatDoorAg4
import Derived.Test.YtdncpkkhkbijfaaGreatDoorAg7
open Go.Proofs.Tryz
set_option linter.all false
set_option maxHeartbeats 0
set_option maxRecDepth 100000
namespace Go.Proofs.YtdncpkkhkbijfaaGreatDoor
section
open Go.RowKit
theorem Q7q (n:Nat) (w:World):
  Calls prog 102 #[.int .u8 (n:Int)] w λe w'=>e= .returned (.bool (Ib n))/\w'=w:=by
 go_enter func102,ntmps102;go_wp2
 all_goals go_ret
 all_goals refine ⟨congrArg (λb=>Ending.returned (Value.bool b)) ?_,rfl⟩
 all_goals (rw [Bool.eq_iff_iff];simp [Ib];try omega)
theorem S9 {l:List UInt8} {k:Nat} (h:k<l.length):l.drop k=l.getD k 0::l.drop (k+1):=by rw [List.drop_eq_getElem_cons h,Yc,Y3 h];rfl
theorem Qc2 {p:Nat->Bool} {l:List UInt8} {k:Nat} (h:k<l.length) (hp:p (bt l k)=true):rn p (l.drop k)=1+rn p (l.drop (k+1)):=by rw [S9 h];exact Qk hp
theorem Qot {p:Nat->Bool} {l:List UInt8} {k:Nat} (h:k<l.length) (hp:p (bt l k)=false):rn p (l.drop k)=0:=by rw [S9 h];exact Qd (λg=>by rw [show bt l k=(l.getD k 0).toNat from rfl,g]at hp;cases hp)
theorem Qmr {p:Nat->Bool} {l:List UInt8} {k:Nat} (h:l.length<=k):rn p (l.drop k)=0:=by rw [Qla h];rfl
theorem Qnd {b:Bool} {l:List UInt8} {k:Nat} (h:l.length<=k):Yh b (l.drop k)=0:=by rw [Qla h];cases b<;>rfl
theorem Qwv {l:List UInt8} {k:Nat} (h:k<l.length) (hb:bt l k=35):Yh false (l.drop k)=1+Yh true (l.drop (k+1)):=by rw [S9 h];exact Qk hb
theorem Qqu {l:List UInt8} {k:Nat} (h:k<l.length) (Fx: ¬bt l k=35) (hb:Ib (bt l k)=true):Yh false (l.drop k)=1+Yh false (l.drop (k+1)):=by rw [S9 h];exact (Qd Fx).trans (Qk hb)
theorem Qyr {l:List UInt8} {k:Nat} (h:k<l.length) (Fx: ¬bt l k=35) (hb: ¬Ib (bt l k)=true):Yh false (l.drop k)=0:=by rw [S9 h];exact (Qd Fx).trans (Qd hb)
theorem Quc {l:List UInt8} {k:Nat} (h:k<l.length) (hb: ¬bt l k=10):Yh true (l.drop k)=1+Yh true (l.drop (k+1)):=by rw [S9 h];exact Qd hb
theorem Q1g {l:List UInt8} {k:Nat} (h:k<l.length) (hb:bt l k=10):Yh true (l.drop k)=Yh false (l.drop k):=by rw [S9 h];have h1:Yh true (l.getD k 0::l.drop (k+1))=1+Yh false (l.drop (k+1)):=Qk hb;have h2:Yh false (l.getD k 0::l.drop (k+1))=1+Yh false (l.drop (k+1)):=(Qd (λg=>by rw [show (l.getD k 0).toNat=bt l k from rfl,hb]at g;cases g)).trans (Qk (by rw [show (l.getD k 0).toNat=bt l k from rfl,hb];rfl));rw [h1,h2]
theorem Qzs (s:ByteArray) (w:World) (hs:s.size<=1000000000):
  Calls prog 67 #[.string s] w λe w'=>e= .returned (.int .i64 ((Yh false s.data.toList:Nat):Int))/\w'=w:=by
 obtain ⟨l,hl⟩:=Qb s.data.toList;have hlen:l.length=s.size:=by rw [hl];exact Au
 have HLEN:=Qa hlen;rw [<-hl];have HL:=Qa hl;obtain ⟨m,hm⟩:=Qb (Yh false l);have HM:=Qa hm;rw [<-hm];clear hl hlen hm;go_enter func67,ntmps67;go_wp2_with fail;go_loop [3,4] (λb i=> ∃(k:Nat) (r:Bool),k<=s.size/\b= .bool r/\i= .int .i64 (k:Int)/\Hid (m=k+Yh r (l.drop k))) (λ_ i=>s.size-(intOf i).toNat)
 case atStart=>exact ⟨0,false,Vh _,rfl,rfl,(show m=0+Yh false (l.drop 0) by rw [HM.out,List.drop_zero];omega)⟩
 case round=>
  obtain ⟨k,r,hk,rfl,rfl,hK⟩:=hrel;by_cases hlt:k<s.size
  ·have hkl:Hid (k<l.length):=(by show k<l.length;rw [HLEN.out];exact hlt);have hb:=Hq HL.out hlt;obtain ⟨c,hc⟩:=Qb (bt l k);rw [<-hc]at hb;have HC:=Qa hc;clear hc;by_cases Fx:c=35
   ·have t1:((s[k].toNat:Int)==35)=true:=(by rw [<-hb,Fx];rfl);have t2:((s[k].toNat:Int)==10)=false:=(by rw [<-hb,Fx];rfl);have Ru:=Qa Fx;have HB:=Qa hb;clear Fx hb;have hN:Hid (m=k+1+Yh true (l.drop (k+1))):=by
     show m=k+1+Yh true (l.drop (k+1));rw [hK.out];cases r with
     |true=>rw [Quc hkl.out (by rw [<-HC.out,Ru.out];decide)];omega
     |false=>rw [Qwv hkl.out (by rw [<-HC.out,Ru.out])];omega
    go_wp2_with fail;go_round
    case rel=>exact ⟨k+1,true,by omega,rfl,by go_num,hN⟩
    case measure=>simp [intOf];omega
   ·have t1:((s[k].toNat:Int)==35)=false:=(by rw [<-hb];simp;omega);have Ru:=Qa Fx;clear Fx;by_cases h10:c=10
    ·have t2:((s[k].toNat:Int)==10)=true:=(by rw [<-hb,h10];rfl);have H10:=Qa h10;have HB:=Qa hb;clear h10 hb;have hN:Hid (m=k+1+Yh false (l.drop (k+1))):=by
      show m=k+1+Yh false (l.drop (k+1));have e:Yh false (l.drop k)=1+Yh false (l.drop (k+1)):=Qqu hkl.out (by rw [<-HC.out];exact Ru.out) (by rw [<-HC.out,H10.out];rfl);rw [hK.out];cases r with
      |true=>rw [Q1g hkl.out (by rw [<-HC.out,H10.out]),e];omega
      |false=>rw [e];omega
     go_wp2_with fail;refine (Q7q s[k].toNat w).mono ?_;rintro e w1 ⟨rfl,hw1⟩;rw [hw1,show Ib s[k].toNat=true by rw [<-HB.out,H10.out];rfl];clear hw1 w1;go_wp2_with fail;go_round
     case rel=>exact ⟨k+1,false,by omega,rfl,by go_num,hN⟩
     case measure=>simp [intOf];omega
    ·have t2:((s[k].toNat:Int)==10)=false:=(by rw [<-hb];simp;omega);have H10:=Qa h10;have HB:=Qa hb;clear h10 hb;cases r with
     |true=>
      have hN:Hid (m=k+1+Yh true (l.drop (k+1))):=by show m=k+1+Yh true (l.drop (k+1));rw [hK.out,Quc hkl.out (by rw [<-HC.out];exact H10.out)];omega
      go_wp2_with fail;go_round
      case rel=>exact ⟨k+1,true,by omega,rfl,by go_num,hN⟩
      case measure=>simp [intOf];omega
     |false=>
      go_wp2_with fail;refine (Q7q s[k].toNat w).mono ?_;rintro e w1 ⟨rfl,hw1⟩;rw [hw1,<-HB.out];clear hw1 w1;cases hbl:Ib c with
      |true=>
       have Aq:=Qa hbl;clear hbl;have hN:Hid (m=k+1+Yh false (l.drop (k+1))):=by show m=k+1+Yh false (l.drop (k+1));rw [hK.out,Qqu hkl.out (by rw [<-HC.out];exact Ru.out) (by rw [<-HC.out];exact Aq.out)];omega
       go_wp2_with fail;go_round
       case rel=>exact ⟨k+1,false,by omega,rfl,by go_num,hN⟩
       case measure=>simp [intOf];omega
      |false=>
       have Aq:=Qa hbl;clear hbl;go_wp2_with fail;go_ret;refine ⟨?_,rfl⟩;rw [hK.out,Qyr hkl.out (by rw [<-HC.out];exact Ru.out) (by rw [<-HC.out,Aq.out];decide)];rfl
  ·obtain rfl:k=s.size:=(by omega);go_wp2_with fail;go_ret;refine ⟨?_,rfl⟩;rw [hK.out,Qnd (by rw [HLEN.out];exact Qh _)];rfl
theorem Qiz {l:List UInt8} {k:Nat} (h:k<l.length):num (l.take (k+1))=M9 (num (l.take k)) (l.getD k 0):=by unfold num;rw [Wqo h,List.foldl_append];rfl
theorem Q4n: ∀l:List UInt8,l.foldl M9 none=none
 | []=>rfl
 |c::cs=>Q4n cs
theorem Qzd {l:List UInt8} {k:Nat} (h:num (l.take k)=none):num l=none:=by
 have e:num l=(l.drop k).foldl M9 (num (l.take k)):=by unfold num;rw [<-List.foldl_append,List.take_append_drop]
 rw [e,h,Q4n]
theorem Qx7 {l:List UInt8}: ∀{n k:Nat},num (l.take k)=some n->n<=9223372036854775807
 |n,0,h=>by simp [num]at h;omega
 |n,k+1,h=>by
  rcases V7 k l.length with g |g
  ·rw [Qiz g]at h;unfold M9 at h;split at h
   ·cases h
   ·split at h
    ·injection h with h;omega
    ·cases h
  ·rw [F6 (by omega)]at h;refine Qx7 (l:=l) (k:=k) ?_;rw [F6 g];exact h
def Mr (l:List UInt8):Value:=match num l with
 |some n=>.tuple #[.int .i64 (n:Int),.bool true]
 |none=>.tuple #[.int .i64 0,.bool false]
theorem Q8e (n:Nat) (h:n<256):IntKind.u8.wrap ((n:Int)-48)=(((n+208)%256:Nat):Int):=by rw [IntKind.wrap_u8];omega
theorem Q1r (s:ByteArray) (w:World) (hs:s.size<=1000000000) (hall: ∀k,k<s.data.toList.length->Yn (bt s.data.toList k)=true):
  Calls prog 104 #[.string s] w λe w'=>e= .returned (Mr s.data.toList)/\w'=w:=by
 obtain ⟨l,hl⟩:=Qb s.data.toList;have hlen:l.length=s.size:=by rw [hl];exact Au
 have HLEN:=Qa hlen;rw [<-hl]at hall ⊢;have HL:=Qa hl;have Aa:=Qa hall;clear hl hlen hall;go_enter func104,ntmps104;go_wp2_with fail;go_loop [4,5] (λa i=> ∃k n:Nat,k<=s.size/\n<=9223372036854775807/\a= .int .i64 (n:Int)/\i= .int .i64 (k:Int)/\Hid (num (l.take k)=some n)) (λ_ i=>s.size-(intOf i).toNat)
 case atStart=>exact ⟨0,0,Vh _,by omega,rfl,rfl,(show num (l.take 0)=some 0 from rfl)⟩
 case round=>
  obtain ⟨k,n,hk,hn,rfl,rfl,hK⟩:=hrel;by_cases hlt:k<s.size
  ·have hkl:Hid (k<l.length):=(by show k<l.length;rw [HLEN.out];exact hlt);have hb:=Hq HL.out hlt;have hu:s[k].toNat<256:=UInt8.toNat_lt _;have hd:=Q8e s[k].toNat hu;have hd9:(s[k].toNat+208)%256<=9:=by have h9:=Aa.out k hkl.out;rw [hb]at h9;unfold Yn at h9;simp only [Yo,Wt]at h9;omega
   obtain ⟨d,hdd⟩:=Qb ((s[k].toNat+208)%256);rw [<-hdd]at hd hd9;have HD:Hid (d=Ug (l.getD k 0)):=by show d=Ug (l.getD k 0);unfold Ug;rw [show (l.getD k 0).toNat=bt l k from rfl,hb];exact hdd
   clear hdd hb hu;by_cases hfit:n*10+d<=9223372036854775807
   ·have HN:Hid (num (l.take (k+1))=some (n*10+d)):=by show num (l.take (k+1))=some (n*10+d);rw [Qiz hkl.out,hK.out,HD.out];unfold M9;rw [<-HD.out];exact Qk hfit
    have hle: ¬(922337203685477580:Int)<(n:Int):=(by omega);by_cases heq:n=922337203685477580
    ·have he1:((n:Int)==922337203685477580)=true:=(by rw [heq];rfl);have hd7: ¬(7:Int)<(d:Int):=(by omega);have HEQ:=Qa heq;clear heq;go_wp2_with fail;go_round
     case rel=>exact ⟨k+1,n*10+d,by omega,hfit,by go_num,by go_num,HN⟩
     case measure=>simp [intOf];omega
    ·have he1:((n:Int)==922337203685477580)=false:=(by simp;omega);have HEQ:=Qa heq;clear heq;go_wp2_with fail;go_round
     case rel=>exact ⟨k+1,n*10+d,by omega,hfit,by go_num,by go_num,HN⟩
     case measure=>simp [intOf];omega
   ·have HN:Hid (num l=none):=by show num l=none;refine Qzd (k:=k+1) ?_;rw [Qiz hkl.out,hK.out];unfold M9;rw [<-HD.out];exact Qd hfit
    by_cases hgt:922337203685477580<n
    ·have hle:(922337203685477580:Int)<(n:Int):=(by omega);go_wp2_with fail;go_ret2;refine ⟨?_,rfl⟩;unfold Mr;rw [HN.out];rfl
    ·have hle: ¬(922337203685477580:Int)<(n:Int):=(by omega);have he1:((n:Int)==922337203685477580)=true:=(by simp;omega);have hd7:(7:Int)<(d:Int):=(by omega);go_wp2_with fail;go_ret2;refine ⟨?_,rfl⟩;unfold Mr;rw [HN.out];rfl
  ·obtain rfl:k=s.size:=(by omega);go_wp2_with fail;go_ret2;refine ⟨?_,rfl⟩;have h:=hK.out;rw [F6 (by rw [HLEN.out];exact Qh _)]at h;unfold Mr;rw [h];rfl
def O1:List (List UInt8):=[[124,124],[38,38],[61,61],[33,61],[60,61],[62,61],[43,37],[45,37],[42,37]]
def ones:List UInt8:=[60,62,43,45,42,47,37,33,61,40,41,123,125,91,93,44,59]
def Qi3:Array Value:=(O1.map txt).toArray
theorem Wgz {j:Nat} (hj:j<9):Qi3[j]? =some (txt (O1.getD j [])):=by unfold Qi3;have hj':j<O1.length:=hj;rw [List.getElem?_toArray,Ng,Y3 hj',Yc,Y3 hj'];rfl
theorem Wpt {a b:UInt8} {j:Nat} (hj:j<9) (h:[a,b]=O1.getD j []):Y4 a.toNat b.toNat=2:=by
 have:j=0\/j=1\/j=2\/j=3\/j=4\/j=5\/j=6\/j=7\/j=8:=by omega
 rcases this with rfl |rfl |rfl |rfl |rfl |rfl |rfl |rfl |rfl<;>(injection h with h1 h2;injection h2 with h2 _;subst h1 h2;decide)
theorem Er {a:UInt8} (n:UInt8) (h:a.toNat=n.toNat):a=n:=UInt8.toNat_inj.1 h
theorem Q56 {a b:UInt8} (h: ∀j,j<9->[a,b]≠O1.getD j []):
  (a.toNat=124\/a.toNat=38->b.toNat≠a.toNat)/\(a.toNat=43\/a.toNat=45\/a.toNat=42->b.toNat≠37)/\(a.toNat=61\/a.toNat=33\/a.toNat=60\/a.toNat=62->b.toNat≠61):=by
 refine ⟨?_,?_,?_⟩
 ·rintro (g |g) e
  ·rw [Er 124 g,Er 124 (e.trans g)]at h;exact h 0 (by omega) rfl
  ·rw [Er 38 g,Er 38 (e.trans g)]at h;exact h 1 (by omega) rfl
 ·rintro (g |g |g) e
  ·rw [Er 43 g,Er 37 e]at h;exact h 6 (by omega) rfl
  ·rw [Er 45 g,Er 37 e]at h;exact h 7 (by omega) rfl
  ·rw [Er 42 g,Er 37 e]at h;exact h 8 (by omega) rfl
 ·rintro (g |g |g |g) e
  ·rw [Er 61 g,Er 61 e]at h;exact h 2 (by omega) rfl
  ·rw [Er 33 g,Er 61 e]at h;exact h 3 (by omega) rfl
  ·rw [Er 60 g,Er 61 e]at h;exact h 4 (by omega) rfl
  ·rw [Er 62 g,Er 61 e]at h;exact h 5 (by omega) rfl
theorem Qzv {a b:UInt8} (h: ∀j,j<9->[a,b]≠O1.getD j []) {j:Nat} (hj:j<17) (he:a=ones.getD j 0):Y4 a.toNat b.toNat=1:=by
 obtain ⟨h1,h2,h3⟩:=Q56 h;have:j=0\/j=1\/j=2\/j=3\/j=4\/j=5\/j=6\/j=7\/j=8\/j=9\/j=10\/j=11\/j=12\/j=13\/j=14\/j=15\/j=16:=by omega
 obtain ⟨B,hB⟩:=Qb b.toNat;rw [<-hB]at h1 h2 h3 ⊢;unfold Y4;rcases this with rfl |rfl |rfl |rfl |rfl |rfl |rfl |rfl |rfl |rfl |rfl |rfl |rfl |rfl |rfl |rfl |rfl<;>(obtain ⟨A,hA⟩:=Qb a.toNat;rw [<-hA]at h1 h2 h3 ⊢;rw [he]at hA;simp only [ones,List.getD_cons_zero,List.getD_cons_succ]at hA;simp at hA;subst hA;simp at h1 h2 h3 ⊢;try assumption)
theorem Q21 {a b:UInt8} (h: ∀j,j<9->[a,b]≠O1.getD j []) (ho: ∀j,j<17->a≠ones.getD j 0):Y4 a.toNat b.toNat=0:=by
 obtain ⟨h1,_,_⟩:=Q56 h;have k: ∀n:UInt8,(∃j,j<17/\ones.getD j 0=n)->a.toNat≠n.toNat:=by rintro n ⟨j,hj,e⟩ g;exact ho j hj (by rw [e];exact Er n g)
 have e0:=k 60 ⟨0,by omega,rfl⟩;have e1:=k 62 ⟨1,by omega,rfl⟩;have e2:=k 43 ⟨2,by omega,rfl⟩;have e3:=k 45 ⟨3,by omega,rfl⟩;have e4:=k 42 ⟨4,by omega,rfl⟩;have e5:=k 47 ⟨5,by omega,rfl⟩;have e6:=k 37 ⟨6,by omega,rfl⟩;have e7:=k 33 ⟨7,by omega,rfl⟩;have e8:=k 61 ⟨8,by omega,rfl⟩;have e9:=k 40 ⟨9,by omega,rfl⟩;have e10:=k 41 ⟨10,by omega,rfl⟩;have e11:=k 123 ⟨11,by omega,rfl⟩;have e12:=k 125 ⟨12,by omega,rfl⟩;have e13:=k 91 ⟨13,by omega,rfl⟩;have e14:=k 93 ⟨14,by omega,rfl⟩;have e15:=k 44 ⟨15,by omega,rfl⟩;have e16:=k 59 ⟨16,by omega,rfl⟩;simp only [UInt8.reduceToNat]at e0 e1 e2 e3 e4 e5 e6 e7 e8 e9 e10 e11 e12 e13 e14 e15 e16;unfold Y4;by_cases g:a.toNat=124\/a.toNat=38
 ·rw [Qk g,Qd (h1 g)]
 ·rw [Qd g,Qd (by omega),Qd (by omega),Qd (by omega)]
theorem Q9x {s:ByteArray} {l:List UInt8} (hl:l=s.data.toList) (h:2<=s.size):(s.extract 0 2).toList=[l.getD 0 0,l.getD 1 0]:=by
 rw [Qoy,Qce,<-hl];have hlen:l.length=s.size:=by rw [hl];exact Au
 match l,hlen with
 | [],e=>simp at e;omega
 | [a],e=>simp at e;omega
 |a::b::r,e=>rfl
theorem Wkh {a:UInt8}: ∀j,j<9->[a,0]≠O1.getD j []:=by
 intro j hj;have:j=0\/j=1\/j=2\/j=3\/j=4\/j=5\/j=6\/j=7\/j=8:=by omega
 rcases this with rfl |rfl |rfl |rfl |rfl |rfl |rfl |rfl |rfl<;>(intro h;injection h with _ h2;injection h2 with h2 _;revert h2;decide)
theorem Qwh {O:ByteArray} (hO:O=⟨ones.toArray⟩) {k:Nat} (hk:k<O.size):O[k]=ones.getD k 0:=by subst hO;have hk':k<ones.length:=hk;rw [Yc,Y3 hk'];rfl
theorem Wbt (s:ByteArray) (w:World) (hs:s.size<=1000000000) (h1:1<=s.size):
  Calls prog 107 #[.string s] w λe w'=>e= .returned (.int .i64 (Y4 (bt s.data.toList 0) (bt s.data.toList 1):Nat))/\Below w.heap.size w w':=by
 obtain ⟨l,hl⟩:=Qb s.data.toList;have HLEN:Hid (l.length=s.size):=by rw [hl];exact Au
 rw [<-hl];have HL:=Qa hl;have H0:Hid (s[0]=l.getD 0 0):=by show s[0]=l.getD 0 0;rw [hl,Yc,Y3 (by rw [Qa3];omega)];rfl
 clear hl;obtain ⟨O,hO⟩:=Qb (⟨ones.toArray⟩:ByteArray);have hOs:O.size=17:=by rw [hO];rfl
 go_enter func107,ntmps107;go_wp2_with fail;rw [show (⟨#[60,62,43,45,42,47,37,33,61,40,41,123,125,91,93,44,59]⟩:ByteArray)=O from hO.symm];have HO:=Qa hO;have HOS:=Qa hOs;clear hO hOs;obtain ⟨W,hW⟩:=Qb (w.alloc (.cells Qi3 9));rw [show w.alloc (.cells #[.string ⟨#[124,124]⟩,.string ⟨#[38,38]⟩,.string ⟨#[61,61]⟩,.string ⟨#[33,61]⟩,.string ⟨#[60,61]⟩,.string ⟨#[62,61]⟩,.string ⟨#[43,37]⟩,.string ⟨#[45,37]⟩,.string ⟨#[42,37]⟩] 9)=W from hW.symm];have HB:Hid (Below w.heap.size w W):=by rw [hW];exact Qag
 have HH:Hid (Held W w.heap.size 9 Qi3):=by rw [hW];exact Held.new w 9 Qi3
 obtain ⟨g,hg⟩:=Qb w.heap.size;rw [<-hg]at HH ⊢;clear hg hW;go_loopw [5] (λi wr=> ∃k q:Nat,k<=9/\i= .int .i64 (k:Int)/\wr=W.drewN q/\Hid (2<=s.size-> ∀j,j<k->[l.getD 0 0,l.getD 1 0]≠O1.getD j [])) (λi _=>9-(intOf i).toNat)
 case atStart=>exact ⟨0,0,by omega,rfl,rfl,λ_ j hj=>by omega⟩
 case round=>
  obtain ⟨k,q,hk,rfl,rfl,hK⟩:=hrel;have next:Hid (∀q:Nat,(∀j,j<9->[l.getD 0 0,l.getD 1 0]≠O1.getD j [])->True):=λ_ _=>trivial
  by_cases hgo:k<9/\2<=s.size
  ·obtain ⟨hk9,h2⟩:=hgo;have hTL:=Q9x HL.out h2;have hc:=HH.out.at_ (Wgz hk9);unfold txt at hc;obtain ⟨c,hcc⟩:=Qb (O1.getD k []);rw [<-hcc]at hc;have HC:=Qa hcc;clear hcc;have h2i:(2:Int)<=(s.size:Int):=(by omega);obtain ⟨X,hX⟩:=Qb (s.extract 0 2);rw [<-hX]at hTL;have hXX:s.extract 0 2=X:=hX.symm;have X9:=Qa hTL;clear hTL hX;by_cases hE:[l.getD 0 0,l.getD 1 0]=c
   ·have he':(X.toList==c)=true:=(by rw [X9.out];simpa using hE);have he2:(c==X.toList)=true:=(by rw [X9.out];simpa using hE.symm);have HE:=Qa hE;clear hE;go_wp2_with fail;go_quiet (fail);go_wp2_with fail;go_ret;refine ⟨?_,HB.out.trans (by rw [World.drewN_drewN];exact Wq _ _ _)⟩;have:=Wpt hk9 (HE.out.trans HC.out);unfold bt;rw [this];rfl
   ·have he':(X.toList==c)=false:=(by rw [X9.out];simpa using hE);have he2:(c==X.toList)=false:=(by rw [X9.out];simpa using λh:c=_=>hE h.symm);have HE:=Qa hE;clear hE;go_wp2_with fail;go_quiet (fail);go_wp2_with fail;go_roundw
    case rel=>exact ⟨k+1,q+nq,by omega,by go_num,rfl,λh j hj=>by
     rcases V7 j k with g |g
     ·exact hK.out h j g
     ·obtain rfl:j=k:=(by omega);rw [<-HC.out];exact HE.out⟩
    case measure=>simp [intOf];omega
  ·have HNT:Hid (∀j,j<9->[l.getD 0 0,l.getD 1 0]≠O1.getD j []):=by
    intro j hj;rcases V7 s.size 2 with h2 |h2
    ·have e:l.getD 1 0=0:=(by rw [Yc,Qbz (by rw [HLEN.out];omega)];rfl);rw [e];exact Wkh j hj
    ·exact hK.out h2 j (by omega)
   clear next
   obtain ⟨V,hV⟩:=Qb (W.drewN q);have HBV:Hid (Below w.heap.size w V):=(by rw [hV];exact HB.out.trans (Wq _ _ _));have hdone:(k<9/\s.size<2)\/k=9:=(by omega);clear hgo;rw [<-hV];clear hV;rcases hdone with ⟨hk9,h2⟩ |h9
   ·have h2i: ¬(2:Int)<=(s.size:Int):=(by omega);go_wp2_with fail;go_loopw [6] (λi wr=> ∃k q:Nat,k<=O.size/\i= .int .i64 (k:Int)/\wr=V.drewN q/\Hid (∀j,j<k->l.getD 0 0≠ones.getD j 0)) (λi _=>O.size-(intOf i).toNat)
    case atStart=>exact ⟨0,0,by omega,rfl,rfl,λj hj=>by omega⟩
    case round=>
     obtain ⟨m,q,hm,rfl,rfl,hK⟩:=hrel;have h01:0<s.size:=(by omega);have Wfd:m<=17:=(by rw [<-HOS.out];exact hm);have h02:(0:Int)<(s.size:Int):=(by omega);by_cases hmO:m<O.size
     ·have hOm:=Qwh HO.out hmO;have HOM:=Qa hOm;clear hOm;have Quv:Hid (m<17):=(by show m<17;rw [<-HOS.out];exact hmO);by_cases hE:s[0].toNat=O[m].toNat
      ·have he':((s[0].toNat:Int)==(O[m].toNat:Int))=true:=(by simp [hE]);have he2:(s[0].toNat==O[m].toNat)=true:=(by simp [hE]);have HE:=Qa hE;clear hE;go_wp2_with fail;go_quiet (fail);go_wp2_with fail;go_ret;refine ⟨?_,HBV.out.trans (by rw [World.drewN_drewN];exact Wq _ _ _)⟩;have:=Qzv HNT.out Quv.out (by rw [<-HOM.out,<-H0.out];exact UInt8.toNat_inj.1 HE.out);unfold bt;rw [this];rfl
      ·have he':((s[0].toNat:Int)==(O[m].toNat:Int))=false:=(by simp;omega);have he2:(s[0].toNat==O[m].toNat)=false:=(by simp;omega);have HE:=Qa hE;clear hE;go_wp2_with fail;go_quiet (fail);go_wp2_with fail;go_roundw
       case rel=>exact ⟨m+1,q+nq,by omega,by go_num,rfl,λj hj=>by
        rcases V7 j m with g |g
        ·exact hK.out j g
        ·obtain rfl:j=m:=(by omega);rw [<-HOM.out,<-H0.out];exact λe=>HE.out (congrArg UInt8.toNat e)⟩
       case measure=>simp [intOf];omega
     ·go_wp2_with fail;go_ret;refine ⟨?_,HBV.out.trans (Wq _ _ _)⟩;have hm18:m=17:=(by have:=HOS.out;omega);have:=Q21 HNT.out (λj hj=>hK.out j (by omega));unfold bt;rw [this];rfl
   ·subst h9;go_wp2_with fail;go_loopw [6] (λi wr=> ∃k q:Nat,k<=O.size/\i= .int .i64 (k:Int)/\wr=V.drewN q/\Hid (∀j,j<k->l.getD 0 0≠ones.getD j 0)) (λi _=>O.size-(intOf i).toNat)
    case atStart=>exact ⟨0,0,by omega,rfl,rfl,λj hj=>by omega⟩
    case round=>
     obtain ⟨m,q,hm,rfl,rfl,hK⟩:=hrel;have h01:0<s.size:=(by omega);have Wfd:m<=17:=(by rw [<-HOS.out];exact hm);have h02:(0:Int)<(s.size:Int):=(by omega);by_cases hmO:m<O.size
     ·have hOm:=Qwh HO.out hmO;have HOM:=Qa hOm;clear hOm;have Quv:Hid (m<17):=(by show m<17;rw [<-HOS.out];exact hmO);by_cases hE:s[0].toNat=O[m].toNat
      ·have he':((s[0].toNat:Int)==(O[m].toNat:Int))=true:=(by simp [hE]);have he2:(s[0].toNat==O[m].toNat)=true:=(by simp [hE]);have HE:=Qa hE;clear hE;go_wp2_with fail;go_quiet (fail);go_wp2_with fail;go_ret;refine ⟨?_,HBV.out.trans (by rw [World.drewN_drewN];exact Wq _ _ _)⟩;have:=Qzv HNT.out Quv.out (by rw [<-HOM.out,<-H0.out];exact UInt8.toNat_inj.1 HE.out);unfold bt;rw [this];rfl
      ·have he':((s[0].toNat:Int)==(O[m].toNat:Int))=false:=(by simp;omega);have he2:(s[0].toNat==O[m].toNat)=false:=(by simp;omega);have HE:=Qa hE;clear hE;go_wp2_with fail;go_quiet (fail);go_wp2_with fail;go_roundw
       case rel=>exact ⟨m+1,q+nq,by omega,by go_num,rfl,λj hj=>by
        rcases V7 j m with g |g
        ·exact hK.out j g
        ·obtain rfl:j=m:=(by omega);rw [<-HOM.out,<-H0.out];exact λe=>HE.out (congrArg UInt8.toNat e)⟩
       case measure=>simp [intOf];omega
     ·go_wp2_with fail;go_ret;refine ⟨?_,HBV.out.trans (Wq _ _ _)⟩;have hm18:m=17:=(by have:=HOS.out;omega);have:=Q21 HNT.out (λj hj=>hK.out j (by omega));unfold bt;rw [this];rfl
def Ay (L:List Nd):List Value:=L.flatMap (λx=>x.cs.toList)
theorem Qfv (L R:List Nd):Ay (L++R)=Ay L++Ay R:=by unfold Ay;rw [List.flatMap_append]
theorem Qn8 (x:Nd):Ay [x]=x.cs.toList:=by unfold Ay;simp
theorem Qoc (x:Nd):x.cs.toList.length=5:=rfl
theorem Q0q: ∀L:List Nd,(Ay L).length=L.length*5
 | []=>rfl
 |x::r=>by have ih:=Q0q r;unfold Ay at ih ⊢;rw [List.flatMap_cons,Qf,ih,Qoc,Qp];omega
theorem Qqt: ∀(L:List Nd) (j k:Nat),j<L.length->k<5->(Ay L)[j*5+k]? =(nd L j).cs.toList[k]?
 | [],j,k,h,_=>by simp at h
 |x::r,0,k,_,hk=>by unfold Ay;rw [List.flatMap_cons,Nat.zero_mul,Bq,Qg1 (by rw [Qoc];exact hk)];rfl
 |x::r,j+1,k,h,hk=>by have ih:=Qqt r j k (by simpa using h) hk;unfold Ay at ih ⊢;rw [List.flatMap_cons,Ht (by rw [Qoc];omega),Qoc,show (j+1)*5+k-5=j*5+k by omega,ih];rfl
theorem Qvm:(prog.info? 37).map (λi=>(i.zero,i.size,i.bytes))=some (some (.agg #[.int .i64 0,.slice none 0 0,.int .i64 0,.string ⟨#[]⟩,.int .i64 0]),5,64):=by kernel_rfl
theorem Qef (g j:Nat):(⟨g,0,none⟩:Addr).add j=⟨g,j,none⟩:=by
 simp only [Addr.add];split
 ·rename_i h0;rw [h0]
 ·rw [Bq]
theorem Hf {ops:Array Oper} {rest:List Oper} {o:Oper} {a:Act} {Q:Exit->Act->World->Prop} (hgd:o.guard=none) (s x:Operand)
  (ho:o.op= .call {callee:=.builtin .append,args:= #[s,x],argTypes:= #[35,35]})
  (B:Nat) (w:World) (v:Value) (xs:List Int) (z:Int) (hs:a.eval s=v) (hx:a.eval x= .slice (some ⟨w.heap.size,0,none⟩) 1 1) (hb:Now B w v xs) (hB:B<=w.heap.size) (hlen:xs.length<=10000000)
  (h: ∀v' w',Now B w' v' (xs++[z])->(w.alloc (.cells #[.int .i64 z] 3)).grownBy w' v.ownBlock->(∀k,v'.ownBlock=some k->v.ownBlock=some k\/k=(w.alloc (.cells #[.int .i64 z] 3)).heap.size)->wpList prog ops Q rest (a.put o.dst v') w'):
  wpList prog ops Q (o::rest) a (w.alloc (.cells #[.int .i64 z] 3)):=by
 refine Wnp hgd s x 35 3 (.int .i64 0) 1 8 underlying35 Qlf rfl (by decide) (by decide) ho B v xs.length (xs.map (Value.int .i64)) hs (World.ownsRow.alloc hb _) ⟨w.heap.size,0,none⟩ 1 1 [.int .i64 z] hx (by decide) rfl ?_ ?_ (by omega) (by simp;omega) ?_
 ·intro j u hj
  match j,hj with
  | 0,hj=>simp at hj;subst hj;simp [Addr.add]
 ·intro u hu;simp at hu;subst hu;rfl
 ·intro v' w' hown hgrow hw;exact h v' w' (by unfold Now;rw [Qf,Zp];exact hown) hgrow hw
theorem Wov (L:List Nd): ∀u∈Ay L,u.oneCell'=true:=by intro u hu;obtain ⟨x,_,hx⟩:=List.mem_flatMap.1 hu;have:u∈[Value.int .i64 x.kind,.slice x.ka x.kids.length x.kc,.int .i64 x.n,.string x.s,.int .i64 x.at_]:=hx;simp at this;rcases this with rfl |rfl |rfl |rfl |rfl<;>rfl
theorem Zq {w:World} {B e sz n:Nat} {v:Value} {xs:List Value} (h:w.ownsRow B e sz v n xs): ∃a c,v= .slice a n c:=by
 rcases h.2 with ⟨rfl,rfl⟩ |⟨g,cap,cur,rfl,_⟩
 ·exact ⟨_,_,rfl⟩
 ·exact ⟨_,_,rfl⟩
theorem Qpr {w:World} {B e sz n:Nat} {v:Value} {xs:List Value} (h:w.ownsRow B e sz v n xs) (hn:0<n): ∃g c,v= .slice (some ⟨g,0,none⟩) n c/\B<=g:=by
 rcases h.2 with ⟨rfl,rfl⟩ |⟨g,cap,cur,rfl,hb,_⟩
 ·omega
 ·exact ⟨_,_,rfl,hb⟩
theorem Wmu {w:World} {B gp n cp e sz:Nat} {xs:List Value} (h:w.ownsRow B e sz (.slice (some ⟨gp,0,none⟩) n cp) n xs) (i:Nat):w.frozen? ⟨gp,i,none⟩=false:=by
 rcases h.2 with ⟨h1,_⟩ |⟨g,cap,cur,h1,_,h3,_⟩
 ·cases h1
 ·injection h1 with h1 _ _
  injection h1 with h1
  injection h1 with h1 _
  subst h1;exact (show Held w gp e cur from h3).frozen i
end
section
open Go.RowKit
mutual
def Qoa {H:Type}:DataW H->List Value
 | .lit (.int k z)=>[.int k z]
 | .lit (.bool b)=>[.bool b]
 | .lit (.string l)=>[.string ⟨l.toArray⟩]
 | .agg ds=>Qww ds
 |_=>[]
def Qww {H:Type}:List (DataW H)->List Value
 | []=>[]
 |d::r=>Qoa d++Qww r
end
def strCells:Array Value:=(Qoa (H:=Unit) Rows.laid_balustrade_expr_strengths).toArray
def Qv4:Array Value:=(Qoa (H:=Unit) Rows.laid_balustrade_expr_signs).toArray
def Qqp:Array Value:=(Qoa (H:=Unit) Rows.laid_balustrade_expr_fronts).toArray
structure Co (w:World):Prop where
 str: ∃t fr,w.heap[9]? =some (.cells strCells t fr)
 sign: ∃t fr,w.heap[10]? =some (.cells Qv4 t fr)
 front: ∃t fr,w.heap[13]? =some (.cells Qqp t fr)
def Vw:Nat:=max (max 9 10) 13+1
theorem Co.keep {w w':World} (h:Co w) (hb: ∀k,k<Vw->w'.heap[k]? =w.heap[k]?):Co w':=by obtain ⟨a,b,c⟩:=h;exact ⟨by rw [hb _ (by decide)];exact a,by rw [hb _ (by decide)];exact b,by rw [hb _ (by decide)];exact c⟩
theorem Co.size {w:World} (h:Co w):Vw<=w.heap.size:=by obtain ⟨t,fr,h2⟩:=h.front;obtain ⟨t,fr,h1⟩:=h.sign;obtain ⟨t,fr,h0⟩:=h.str;have e2:=(Array.getElem?_eq_some_iff.1 h2).1;have e1:=(Array.getElem?_eq_some_iff.1 h1).1;have e0:=(Array.getElem?_eq_some_iff.1 h0).1;unfold Vw;omega
def tkv (t:Tk):List Value:=[.int .i64 (t.kind:Int),.string ⟨t.text.toArray⟩,.int .i64 (t.n:Int),.int .i64 (t.place:Int)]
def Ey (L:List Tk):List Value:=L.flatMap tkv
theorem Q8o: ∀L:List Tk,(Ey L).length=L.length*4
 | []=>rfl
 |x::r=>by have ih:=Q8o r;unfold Ey at ih ⊢;rw [List.flatMap_cons,Qf,ih,Qp];show 4+_=_;omega
theorem Qh1: ∀(L:List Tk) (j k:Nat) (t:Tk),L[j]? =some t->k<4->(Ey L)[j*4+k]? =(tkv t)[k]?
 | [],j,k,t,h,_=>by simp at h
 |x::r,0,k,t,h,hk=>by simp at h;subst h;unfold Ey;rw [List.flatMap_cons,Nat.zero_mul,Bq,Qg1 (by show k<4;exact hk)]
 |x::r,j+1,k,t,h,hk=>by have ih:=Qh1 r j k t (by simpa using h) hk;unfold Ey at ih ⊢;rw [List.flatMap_cons,Ht (by show 4<=_;omega),<-ih];congr 1;show (j+1)*4+k-4=_;omega
theorem Wnh (L:List Tk): ∀u∈Ey L,u.oneCell'=true:=by intro u hu;obtain ⟨t,_,h⟩:=List.mem_flatMap.1 hu;simp [tkv]at h;rcases h with rfl |rfl |rfl |rfl<;>rfl
def Uo (w:World) (b off:Nat) (L:List Tk):Prop:= ∀j u,(Ey L)[j]? =some u->w.cell? ⟨b,off+j,none⟩=some u
theorem Uo.at_ {w:World} {b off:Nat} {L:List Tk} (h:Uo w b off L) {j:Nat} {t:Tk} (ht:L[j]? =some t):
  w.cell? ⟨b,off+j*4,none⟩=some (.int .i64 (t.kind:Int))/\w.cell? ⟨b,off+j*4+1,none⟩=some (.string ⟨t.text.toArray⟩)/\w.cell? ⟨b,off+j*4+2,none⟩=some (.int .i64 (t.n:Int))/\w.cell? ⟨b,off+j*4+3,none⟩=some (.int .i64 (t.place:Int)):=by
 refine ⟨?_,?_,?_,?_⟩
 ·exact h (j*4+0) _ ((Qh1 L j 0 t ht (by decide)).trans rfl)
 ·have:=h (j*4+1) _ ((Qh1 L j 1 t ht (by decide)).trans rfl);rw [<-La]at this;exact this
 ·have:=h (j*4+2) _ ((Qh1 L j 2 t ht (by decide)).trans rfl);rw [<-La]at this;exact this
 ·have:=h (j*4+3) _ ((Qh1 L j 3 t ht (by decide)).trans rfl);rw [<-La]at this;exact this
theorem Uo.block {w w':World} {b off:Nat} {L:List Tk} (h:Uo w b off L) (hb:w'.heap[b]? =w.heap[b]?):Uo w' b off L:=by intro j u hj;have:=h j u hj;unfold World.cell? at this ⊢;rw [hb];exact this
def Y5 (y:Nd):Value:=.slice y.ka y.kids.length y.kc
def bare (x:Nd):Nd:=⟨x.kind,none,0,x.kids,x.n,x.s,x.at_⟩
structure Bx where
 tb:Nat
 tc:Nat
 vn:Value
 vh:Value
 Z:Nat->Prop
structure Core (B g:Nat) (L:List Tk) (w:World) (R:Bx) (p:Nat) (d:Int) (l:List Nd) (h:List Nat) (e q:Int):Prop where
 box:Held w g 98 #[.slice (some ⟨R.tb,0,none⟩) L.length R.tc,.int .i64 (p:Int),.int .i64 d,R.vn,R.vh,.int .i64 e,.int .i64 q]
 toks:Uo w R.tb 0 L
 Jh:R.tb<w.heap.size
 told:B<=R.tb
 ty: ∃cs fz,w.heap[R.tb]? =some (.cells cs 69 fz)
 own:w.ownsRow B 37 5 R.vn l.length (Ay l)
 hts:Now B w R.vh (h.map Int.ofNat)
 kids: ∀x∈l,Now B w (Y5 x) x.kids
 off: ∀x∈l,(Y5 x).ownBlock=none\/(Y5 x).ownBlock≠R.vh.ownBlock
 old:B<=g
 fin: ∀j t,L[j]? =some t->t.kind≠0->j+1<L.length
 many:L.length<=100000
 tabs:Co w
 base:Vw<=B
 zone: ∀k,R.Z k->k<w.heap.size/\R.vh.ownBlock≠some k/\ ∀x∈l,(Y5 x).ownBlock≠some k
structure Rd (B g:Nat) (L:List Tk) (w:World) (R:Bx) (p:Nat) (d:Int) (l:List Nd) (h:List Nat) (e q:Int):Prop extends Core B g L w R p d l h e q where
 len:h.length=l.length
 here:p<L.length
 few:l.length<=p+1
 low: ∀x∈h,x<=200
structure Fr (g:Nat) (w w':World) (R R':Bx):Prop where
 os:w'.os=w.os
 tape:w'.tape=w.tape
 output:w'.output=w.output
 size:w.heap.size<=w'.heap.size
 block: ∀k,k<w.heap.size->k≠g->R.vn.ownBlock≠some k->R.vh.ownBlock≠some k->w'.heap[k]? =w.heap[k]?
 vn: ∀k,R'.vn.ownBlock=some k->R.vn.ownBlock=some k\/w.heap.size<=k
 vh: ∀k,R'.vh.ownBlock=some k->R.vh.ownBlock=some k\/w.heap.size<=k
theorem Fr.of_below {g:Nat} {w w':World} (R:Bx) (h:Below w.heap.size w w'):Fr g w w' R R:=
 ⟨h.os,h.tape,h.output,h.size,λk hk _ _ _=>h.block k hk,λk hk=>.inl hk,λk hk=>.inl hk⟩
theorem Fr.trans {g:Nat} {w w1 w2:World} {R R1 R2:Bx} (h:Fr g w w1 R R1) (k:Fr g w1 w2 R1 R2):Fr g w w2 R R2:=by
 refine ⟨k.os.trans h.os,k.tape.trans h.tape,k.output.trans h.output,F7 h.size k.size,?_,?_,?_⟩
 ·intro j hj h1 h2 h3;rw [k.block j (Fe hj h.size) h1,h.block j hj h1 h2 h3]
  ·intro e;rcases h.vn j e with e' |e'
   ·exact h2 e'
   ·omega
  ·intro e;rcases h.vh j e with e' |e'
   ·exact h3 e'
   ·omega
 ·intro j e;rcases k.vn j e with e' |e'
  ·exact h.vn j e'
  ·exact .inr (F7 h.size e')
 ·intro j e;rcases k.vh j e with e' |e'
  ·exact h.vh j e'
  ·exact .inr (F7 h.size e')
theorem Core.Uf {B g:Nat} {L:List Tk} {w w':World} {R R':Bx} {p:Nat} {d e q:Int} {l:List Nd} {h:List Nat} (H:Core B g L w R p d l h e q) (F:Fr g w w' R R'):Below B w w':=
 ⟨F.os,F.tape,F.output,F.size,λk hk=>F.block k (by have:=H.old;have:=H.box.lt;omega) (by have:=H.old;omega) (λe=>by have:=(H.own.lt k e).1;omega) (λe=>by have:=(H.hts.lt k e).1;omega)⟩
theorem Core.below {B g:Nat} {L:List Tk} {w w':World} {R:Bx} {p:Nat} {d e q:Int} {l:List Nd} {h:List Nat} (H:Core B g L w R p d l h e q) (hb:Below w.heap.size w w'):Core B g L w' R p d l h e q:=by
 obtain ⟨cs,fz,hty⟩:=H.ty;exact ⟨H.box.since hb,H.toks.block (hb.block _ H.Jh),Fe H.Jh hb.size,H.told,⟨cs,fz,(hb.block _ H.Jh).trans hty⟩,Dr H.own hb,Dr H.hts hb,λx hx=>Dr (H.kids x hx) hb,H.off,H.old,H.fin,H.many,
  H.tabs.keep (λk hk=>hb.block k (by have:=H.tabs.size;omega)),H.base,λk hk=>⟨Fe (H.zone k hk).1 hb.size,(H.zone k hk).2⟩⟩
theorem Rd.below {B g:Nat} {L:List Tk} {w w':World} {R:Bx} {p:Nat} {d e q:Int} {l:List Nd} {h:List Nat} (H:Rd B g L w R p d l h e q) (hb:Below w.heap.size w w'):Rd B g L w' R p d l h e q:=
 ⟨H.toCore.below hb,H.len,H.here,H.few,H.low⟩
theorem Core.Px {B g:Nat} {L:List Tk} {w:World} {R:Bx} {p:Nat} {d e q:Int} {l:List Nd} {h:List Nat} (H:Core B g L w R p d l h e q):R.tb≠g:=by
 obtain ⟨cs,fz,hty⟩:=H.ty;intro e0;have h1:w.heap[g]? =_:=H.box;rw [e0,h1]at hty;injection hty with h2
 injection h2 with _ h3
 exact absurd h3 (by decide)
theorem Rd.store {B g:Nat} {L:List Tk} {w:World} {R:Bx} {p p':Nat} {d e q d' e' q':Int} {l:List Nd} {h:List Nat} (H:Rd B g L w R p d l h e q) {i:Nat} {u:Value}
  (hc:(#[.slice (some ⟨R.tb,0,none⟩) L.length R.tc,.int .i64 (p:Int),.int .i64 d,R.vn,R.vh,.int .i64 e,.int .i64 q]:Array Value).setIfInBounds i u= #[.slice (some ⟨R.tb,0,none⟩) L.length R.tc,.int .i64 (p':Int),.int .i64 d',R.vn,R.vh,.int .i64 e',.int .i64 q'])
  (hp:p'<L.length) (hf:l.length<=p'+1):Rd B g L (w.setCell ⟨g,i,none⟩ u) R p' d' l h e' q':=by
 have hg:=H.box;have hne: ∀k,k≠g->(w.setCell ⟨g,i,none⟩ u).heap[k]? =w.heap[k]?:=λk hk=>Below.heap_setCell w ⟨g,i,none⟩ u k hk;obtain ⟨cs,fz,hty⟩:=H.ty;have htb:=H.toCore.Px;have gr:=Gv w g i u;refine ⟨⟨?_,H.toks.block (hne _ htb),by have:=H.Jh;simpa [World.setCell] using this,H.told,⟨cs,fz,(hne _ htb).trans hty⟩,H.own.kept gr (.inr (Yr H.own hg (by decide))),H.hts.kept gr (.inr (Yr H.hts hg (by decide))),λx hx=>(H.kids x hx).kept gr (.inr (Yr (H.kids x hx) hg (by decide))),H.off,H.old,H.fin,H.many,
  H.tabs.keep (λk hk=>hne k (by have:=H.old;have:=H.base;omega)),H.base,λk hk=>⟨by have:=(H.zone k hk).1;simpa [World.setCell] using this,(H.zone k hk).2⟩⟩,H.len,hp,hf,H.low⟩;have:=hg.set i u;rw [hc]at this;exact this
theorem Core.node {B g:Nat} {L:List Tk} {w W1 w3:World} {R:Bx} {p:Nat} {d e q:Int} {l:List Nd} {h:List Nat} {v3:Value} {y:Nd} (H0:Core B g L w R p d l h e q) (hW1:Below w.heap.size w W1) (hown:w3.ownsRow B 37 5 v3 (l.length+1) (Ay l++y.cs.toList)) (hg:W1.grownBy w3 R.vn.ownBlock)
  (hat: ∀k,v3.ownBlock=some k->R.vn.ownBlock=some k\/w.heap.size<=k) (hk:Now B w (Y5 y) y.kids) (hoff:(Y5 y).ownBlock=none\/(Y5 y).ownBlock≠R.vh.ownBlock) (hz: ∀k,R.Z k->(Y5 y).ownBlock≠some k):
  Core B g L (w3.setCell ⟨g,3,none⟩ v3) {R with vn:=v3} p d (l++[y]) h e q/\Fr g w (w3.setCell ⟨g,3,none⟩ v3) R {R with vn:=v3}:=by
 have H:=H0.below hW1;have hne: ∀k,k≠g->(w3.setCell ⟨g,3,none⟩ v3).heap[k]? =w3.heap[k]?:=λk hk=>Below.heap_setCell w3 ⟨g,3,none⟩ v3 k hk;have hgv:R.vn.ownBlock≠some g:=Yr H.own H.box (by decide);have Ei:Held w3 g 98 _:=H.box.block (hg.block g H.box.lt (λe=>hgv e.symm));obtain ⟨cs,fz,hty⟩:=H.ty;have Po:R.vn.ownBlock≠some R.tb:=Yr H.own hty (by decide);have Pp:w3.heap[R.tb]? =W1.heap[R.tb]?:=hg.block R.tb H.Jh (λe=>Po e.symm);have gr:=Gv w3 g 3 v3;have hk1:Now B W1 (Y5 y) y.kids:=Dr hk hW1;have K3: ∀x,Now B W1 (Y5 x) x.kids->Now B (w3.setCell ⟨g,3,none⟩ v3) (Y5 x) x.kids:=by intro x hx;have h3:Now B w3 (Y5 x) x.kids:=World.ownsRow.kept hx hg (Nr hx H.own (by decide));exact World.ownsRow.kept h3 gr (.inr (Yr h3 Ei (by decide)))
 have h3:Now B w3 R.vh (h.map Int.ofNat):=World.ownsRow.kept H.hts hg (Nr H.hts H.own (by decide));refine ⟨⟨Ei.set 3 v3,(H.toks.block Pp).block (hne _ H.Px),?_,H.told,⟨cs,fz,(hne _ H.Px).trans (Pp.trans hty)⟩,?_,World.ownsRow.kept h3 gr (.inr (Yr h3 Ei (by decide))),?_,?_,H.old,H.fin,H.many,?_,H.base,?zone⟩,?_,?_,?_,?_,?_,?_,?_⟩
 case zone=>
  intro k hk;have h1:=H.zone k hk;refine ⟨by have h2:=hg.size;have h4:=h1.1;simp [World.setCell];omega,h1.2.1,λx hx=> ?_⟩;rcases List.mem_append.1 hx with hx |hx
  ·exact h1.2.2 x hx
  ·rw [List.mem_singleton.1 hx];exact hz k hk
 ·have h1:=H.Jh;have h2:=hg.size;simp [World.setCell];omega
 ·have h4:=World.ownsRow.kept hown gr (.inr (Yr hown Ei (by decide)));rw [Qf,Qfv,Qn8];exact h4
 ·intro x hx;rcases List.mem_append.1 hx with hx |hx
  ·exact K3 x (H.kids x hx)
  ·rw [List.mem_singleton.1 hx];exact K3 y hk1
 ·intro x hx;rcases List.mem_append.1 hx with hx |hx
  ·exact H.off x hx
  ·rw [List.mem_singleton.1 hx];exact hoff
 ·refine H.tabs.keep (λk hk=> ?_);have hb:=H.base;rw [hne k (by have:=H.old;omega),hg.block k (by have:=H.tabs.size;omega) (λe=>by have:=(H.own.lt k e.symm).1;omega)]
 ·exact (show w3.os=_ from hg.os).trans hW1.os
 ·exact (show w3.tape=_ from hg.tape).trans hW1.tape
 ·exact (show w3.output=_ from hg.output).trans hW1.output
 ·have h1:=hW1.size;have h2:=hg.size;simp [World.setCell];omega
 ·intro k hk h1 h2 h4;rw [hne k h1,hg.block k (by have:=hW1.size;omega) (λe=>h2 e.symm),hW1.block k hk]
 ·exact hat
 ·exact λk hk=>.inl hk
theorem Core.height {B g:Nat} {L:List Tk} {w W1 w3:World} {R:Bx} {p:Nat} {d e q:Int} {l:List Nd} {h:List Nat} {v3:Value} {z:Nat} (H0:Core B g L w R p d l h e q) (hW1:Below w.heap.size w W1) (hown:Now B w3 v3 ((h++[z]).map Int.ofNat)) (hg:W1.grownBy w3 R.vh.ownBlock)
  (hat: ∀k,v3.ownBlock=some k->R.vh.ownBlock=some k\/w.heap.size<=k):
  Core B g L (w3.setCell ⟨g,4,none⟩ v3) {R with vh:=v3} p d l (h++[z]) e q/\Fr g w (w3.setCell ⟨g,4,none⟩ v3) R {R with vh:=v3}:=by
 have H:=H0.below hW1;have hne: ∀k,k≠g->(w3.setCell ⟨g,4,none⟩ v3).heap[k]? =w3.heap[k]?:=λk hk=>Below.heap_setCell w3 ⟨g,4,none⟩ v3 k hk;have hgv:R.vh.ownBlock≠some g:=Yr H.hts H.box (by decide);have Ei:Held w3 g 98 _:=H.box.block (hg.block g H.box.lt (λe=>hgv e.symm));obtain ⟨cs,fz,hty⟩:=H.ty;have Po:R.vh.ownBlock≠some R.tb:=Yr H.hts hty (by decide);have Pp:w3.heap[R.tb]? =W1.heap[R.tb]?:=hg.block R.tb H.Jh (λe=>Po e.symm);have gr:=Gv w3 g 4 v3;have Qg7:=World.ownsRow.kept H.own hg (Nr H.own H.hts (by decide));refine ⟨⟨Ei.set 4 v3,(H.toks.block Pp).block (hne _ H.Px),?_,H.told,⟨cs,fz,(hne _ H.Px).trans (Pp.trans hty)⟩,World.ownsRow.kept Qg7 gr (.inr (Yr Qg7 Ei (by decide))),World.ownsRow.kept hown gr (.inr (Yr hown Ei (by decide))),?_,?_,H.old,H.fin,H.many,?_,H.base,?zone⟩,?_,?_,?_,?_,?_,?_,?_⟩
 case zone=>
  intro k hk;have h1:=H0.zone k hk;refine ⟨by have h2:=hg.size;have h4:=h1.1;have h5:=hW1.size;simp [World.setCell];omega,λe=> ?_,h1.2.2⟩;rcases hat k e with h6 |h6
  ·exact h1.2.1 h6
  ·have:=h1.1;omega
 ·have h1:=H.Jh;have h2:=hg.size;simp [World.setCell];omega
 ·intro x hx;have h4:Now B w3 (Y5 x) x.kids:=World.ownsRow.kept (H.kids x hx) hg (H.off x hx);exact World.ownsRow.kept h4 gr (.inr (Yr h4 Ei (by decide)))
 ·intro x hx;cases hb:(Y5 x).ownBlock with
  |none=>exact .inl rfl
  |some b=>
   right;intro e;rcases hat b e.symm with h1 |h1
   ·rcases H.off x hx with h2 |h2
    ·rw [h2]at hb;cases hb
    ·exact h2 (hb.trans h1.symm)
   ·have h2:=((H0.kids x hx).lt b hb).2;omega
 ·refine H.tabs.keep (λk hk=> ?_);have hb:=H.base;rw [hne k (by have:=H.old;omega),hg.block k (by have:=H.tabs.size;omega) (λe=>by have:=(H.hts.lt k e.symm).1;omega)]
 ·exact (show w3.os=_ from hg.os).trans hW1.os
 ·exact (show w3.tape=_ from hg.tape).trans hW1.tape
 ·exact (show w3.output=_ from hg.output).trans hW1.output
 ·have h1:=hW1.size;have h2:=hg.size;simp [World.setCell];omega
 ·intro k hk h1 h2 h4;rw [hne k h1,hg.block k (by have:=hW1.size;omega) (λe=>h4 e.symm),hW1.block k hk]
 ·exact λk hk=>.inl hk
 ·exact hat
theorem Fr.store {B g:Nat} {L:List Tk} {w:World} {R:Bx} (i:Nat) (u:Value):Fr g w (w.setCell ⟨g,i,none⟩ u) R R:=
 ⟨rfl,rfl,rfl,by simp [World.setCell],λk hk hne _ _=>Below.heap_setCell w ⟨g,i,none⟩ u k hne,λk hk=>.inl hk,λk hk=>.inl hk⟩
def Good (B g:Nat) (L:List Tk) (w:World) (R:Bx) (d:Nat) (s:PS):Prop:= ∃p l,Rd B g L w R p (d:Int) l s.h 0 0/\s.r=L.drop p/\s.l=l.map bare
def Bad (B g:Nat) (L:List Tk) (w:World) (R:Bx) (d:Nat) (f:Qq):Prop:= ∃p l h,Rd B g L w R p (d:Int) l h (f.1:Int) (f.2:Int)/\f.1≠0
theorem Good.below {B g:Nat} {L:List Tk} {w w':World} {R:Bx} {d:Nat} {s:PS} (H:Good B g L w R d s) (hb:Below w.heap.size w w'):Good B g L w' R d s:=by obtain ⟨p,l,h,r⟩:=H;exact ⟨p,l,h.below hb,r⟩
theorem Bad.below {B g:Nat} {L:List Tk} {w w':World} {R:Bx} {d:Nat} {f:Qq} (H:Bad B g L w R d f) (hb:Below w.heap.size w w'):Bad B g L w' R d f:=by obtain ⟨p,l,h,H,r⟩:=H;exact ⟨p,l,h,H.below hb,r⟩
theorem Rd.foreign {B g:Nat} {L:List Tk} {w:World} {R:Bx} {p:Nat} {d e q:Int} {l:List Nd} {h:List Nat} {W1 w':World} {v:Value} {B' n:Nat} {xs:List Value} (H0:Rd B g L w R p d l h e q) (hW1:Below w.heap.size w W1) (hv:W1.ownsRow B' 3 1 v n xs) (hB':Vw<=B') (hz: ∀k,v.ownBlock=some k->R.Z k) (hg:W1.grownBy w' v.ownBlock):Rd B g L w' R p d l h e q:=by
 have H:=H0.below hW1;obtain ⟨cs,fz,hty⟩:=H.ty;have hgv:v.ownBlock≠some g:=Yr hv H.box (by decide);have Po:v.ownBlock≠some R.tb:=Yr hv hty (by decide);have htb:w'.heap[R.tb]? =W1.heap[R.tb]?:=hg.block R.tb H.Jh (λe=>Po e.symm);have hne: ∀{u:Value},(∀k,R.Z k->u.ownBlock≠some k)->u.ownBlock=none\/u.ownBlock≠v.ownBlock:=by
  intro u hu;cases hb:u.ownBlock with
  |none=>exact .inl rfl
  |some b=>exact .inr (λe=>hu b (hz b e.symm) hb)
 have hlow: ∀k,k<Vw->w'.heap[k]? =W1.heap[k]?:=by intro k hk;exact hg.block k (by have:=H.tabs.size;omega) (λe=>by have:=(hv.lt k e.symm).1;omega)
 refine ⟨⟨H.box.block (hg.block g H.box.lt (λe=>hgv e.symm)),H.toks.block htb,Fe H.Jh hg.size,H.told,⟨cs,fz,htb.trans hty⟩,World.ownsRow.kept H.own hg (Nr H.own hv (by decide)),World.ownsRow.kept H.hts hg (hne (λk hk=>(H.zone k hk).2.1)),λx hx=>World.ownsRow.kept (H.kids x hx) hg (hne (λk hk=>(H.zone k hk).2.2 x hx)),H.off,H.old,H.fin,H.many,H.tabs.keep hlow,H.base,λk hk=>⟨Fe (H.zone k hk).1 hg.size,(H.zone k hk).2⟩⟩,H.len,H.here,H.few,H.low⟩
theorem Bad.foreign {B g B' n:Nat} {L:List Tk} {w W1 w':World} {R:Bx} {d:Nat} {f:Qq} {v:Value} {xs:List Value} (H:Bad B g L w R d f) (hW1:Below w.heap.size w W1) (hv:W1.ownsRow B' 3 1 v n xs) (hB':Vw<=B') (hz: ∀k,v.ownBlock=some k->R.Z k) (hg:W1.grownBy w' v.ownBlock):Bad B g L w' R d f:=by obtain ⟨p,l,h,H,r⟩:=H;exact ⟨p,l,h,H.foreign hW1 hv hB' hz hg,r⟩
theorem Rd.less {B g:Nat} {L:List Tk} {w:World} {R:Bx} {p:Nat} {d e q:Int} {l:List Nd} {h:List Nat} (H:Rd B g L w R p d l h e q) (Z':Nat->Prop) (hz: ∀k,Z' k->R.Z k):Rd B g L w {R with Z:=Z'} p d l h e q:=
 ⟨⟨H.box,H.toks,H.Jh,H.told,H.ty,H.own,H.hts,H.kids,H.off,H.old,H.fin,H.many,H.tabs,H.base,λk hk=>H.zone k (hz k hk)⟩,H.len,H.here,H.few,H.low⟩
theorem Good.less {B g:Nat} {L:List Tk} {w:World} {R:Bx} {d:Nat} {s:PS} (H:Good B g L w R d s) (Z':Nat->Prop) (hz: ∀k,Z' k->R.Z k):Good B g L w {R with Z:=Z'} d s:=by obtain ⟨p,l,h,r⟩:=H;exact ⟨p,l,h.less Z' hz,r⟩
theorem Bad.less {B g:Nat} {L:List Tk} {w:World} {R:Bx} {d:Nat} {f:Qq} (H:Bad B g L w R d f) (Z':Nat->Prop) (hz: ∀k,Z' k->R.Z k):Bad B g L w {R with Z:=Z'} d f:=by obtain ⟨p,l,h,H,r⟩:=H;exact ⟨p,l,h,H.less Z' hz,r⟩
theorem Rd.wider {B g:Nat} {L:List Tk} {w w':World} {R:Bx} {p:Nat} {d e q:Int} {l:List Nd} {h:List Nat} (H:Rd B g L w R p d l h e q) (H':Rd B g L w' R p d l h e q) (Z':Nat->Prop) (hz: ∀k,Z' k->R.Z k\/(w.heap.size<=k/\k<w'.heap.size)):Rd B g L w' {R with Z:=Z'} p d l h e q:=by
 refine ⟨⟨H'.box,H'.toks,H'.Jh,H'.told,H'.ty,H'.own,H'.hts,H'.kids,H'.off,H'.old,H'.fin,H'.many,H'.tabs,H'.base,λk hk=> ?_⟩,H'.len,H'.here,H'.few,H'.low⟩;rcases hz k hk with h1 |⟨h1,h2⟩
 ·exact H'.zone k h1
 ·exact ⟨h2,λe=>by have:=(H.hts.lt k e).2;omega,λx hx e=>by have:=((H.kids x hx).lt k e).2;omega⟩
theorem Good.wider {B g B' n:Nat} {L:List Tk} {w W1 w':World} {R:Bx} {d:Nat} {s:PS} {v:Value} {xs:List Value} (H:Good B g L w R d s) (hW1:Below w.heap.size w W1) (hv:W1.ownsRow B' 3 1 v n xs) (hB':Vw<=B') (hz: ∀k,v.ownBlock=some k->R.Z k) (hg:W1.grownBy w' v.ownBlock) (Z':Nat->Prop) (hz': ∀k,Z' k->R.Z k\/(w.heap.size<=k/\k<w'.heap.size)):Good B g L w' {R with Z:=Z'} d s:=by obtain ⟨p,l,h,r⟩:=H;exact ⟨p,l,h.wider (h.foreign hW1 hv hB' hz hg) Z' hz',r⟩
theorem Bad.wider {B g B' n:Nat} {L:List Tk} {w W1 w':World} {R:Bx} {d:Nat} {f:Qq} {v:Value} {xs:List Value} (H:Bad B g L w R d f) (hW1:Below w.heap.size w W1) (hv:W1.ownsRow B' 3 1 v n xs) (hB':Vw<=B') (hz: ∀k,v.ownBlock=some k->R.Z k) (hg:W1.grownBy w' v.ownBlock) (Z':Nat->Prop) (hz': ∀k,Z' k->R.Z k\/(w.heap.size<=k/\k<w'.heap.size)):Bad B g L w' {R with Z:=Z'} d f:=by obtain ⟨p,l,h,H,r⟩:=H;exact ⟨p,l,h,H.wider (H.foreign hW1 hv hB' hz hg) Z' hz',r⟩
theorem Qd4 {L:List Tk} {p:Nat} (hp:p<L.length): ∃t,L[p]? =some t/\L.drop p=t::L.drop (p+1):=⟨L[p],Y3 hp,List.drop_eq_getElem_cons hp⟩
theorem Good.tok {B g:Nat} {L:List Tk} {w:World} {R:Bx} {d:Nat} {s:PS} (H:Good B g L w R d s): ∃p l,Rd B g L w R p (d:Int) l s.h 0 0/\s.r=L.drop p/\s.l=l.map bare/\L[p]? =some s.tok/\s.next.r=L.drop (p+1):=by
 obtain ⟨p,l,h,hr,hl⟩:=H;obtain ⟨t,h1,h2⟩:=Qd4 h.here;refine ⟨p,l,h,hr,hl,?_,?_⟩
 ·unfold PS.tok;rw [hr,h2];exact h1
 ·show s.r.tail=_;rw [hr,h2];rfl
variable {B g:Nat}{L:List Tk}{w:World}{R:Bx}{p:Nat}{d e q:Int}{l:List Nd}{h:List Nat}
theorem Core.c0 (H:Core B g L w R p d l h e q):w.cell? ⟨g,0,none⟩=some (.slice (some ⟨R.tb,0,none⟩) L.length R.tc):=H.box.at_ rfl
theorem Core.c1 (H:Core B g L w R p d l h e q):w.cell? ⟨g,1,none⟩=some (.int .i64 (p:Int)):=H.box.at_ rfl
theorem Core.c2 (H:Core B g L w R p d l h e q):w.cell? ⟨g,2,none⟩=some (.int .i64 d):=H.box.at_ rfl
theorem Core.c3 (H:Core B g L w R p d l h e q):w.cell? ⟨g,3,none⟩=some R.vn:=H.box.at_ rfl
theorem Core.c4 (H:Core B g L w R p d l h e q):w.cell? ⟨g,4,none⟩=some R.vh:=H.box.at_ rfl
theorem Core.c5 (H:Core B g L w R p d l h e q):w.cell? ⟨g,5,none⟩=some (.int .i64 e):=H.box.at_ rfl
theorem Core.c6 (H:Core B g L w R p d l h e q):w.cell? ⟨g,6,none⟩=some (.int .i64 q):=H.box.at_ rfl
theorem Held.t0 {a b c x:Value} {t:TypeId} (H:Held w g t #[a,b,c,x]):w.cell? ⟨g,0,none⟩=some a:=H.at_ rfl
theorem Held.t1 {a b c x:Value} {t:TypeId} (H:Held w g t #[a,b,c,x]):w.cell? ⟨g,1,none⟩=some b:=H.at_ rfl
theorem Held.t2 {a b c x:Value} {t:TypeId} (H:Held w g t #[a,b,c,x]):w.cell? ⟨g,2,none⟩=some c:=H.at_ rfl
theorem Held.t3 {a b c x:Value} {t:TypeId} (H:Held w g t #[a,b,c,x]):w.cell? ⟨g,3,none⟩=some x:=H.at_ rfl
end
end Go.Proofs.YtdncpkkhkbijfaaGreatDoor
