import Derived.Test.YtdncpkkhkbijfaaGreatDoorAg6
import Derived.Test.YtdncpkkhkbijfaaGreatDoorAg8
import Derived.Test.YtdncpkkhkbijfaaGreatDoorAg13
open Go.Proofs.Tryz
set_option linter.all false
set_option maxHeartbeats 0
set_option maxRecDepth 100000
namespace Go.Proofs.YtdncpkkhkbijfaaGreatDoor
section
open Go.RowKit
structure IsL (L:List Tk):Prop where
 some:0<L.length
 many:L.length<=100000
 fin: ∀j t,L[j]? = .some t->t.kind≠0->j+1<L.length
theorem Wg2 {L:List Tk} (b off c:Nat) (w:World) (hT:Co w) (hL:IsL L) (hk:Uo w b off L):
  Calls prog 52 #[.slice (some ⟨b,off,none⟩) L.length c] w λen w'=> ∃g R,en= .returned (.pointer (some ⟨g,0,none⟩))/\Rd w.heap.size g L w' R 0 0 [] [] 0 0/\Below w.heap.size w w':=by
 have HT:=Qa hT;have HL:=Qa hL;have HC:=Qa (Wdx b off L.length c (Ey L) w (Q8o L) (by have:=hL.many;omega) hk (Wnh L));clear hT hL hk;go_enter func52,ntmps52;go_wp2_with fail;refine HC.out.mono ?_;rintro en w1 ⟨v,rfl,hown,_,hb⟩;obtain ⟨tb,tc,rfl,htb⟩:=Qpr hown HL.out.some;have HO:=Qa hown;have HB:=Qa hb;have Fz:=Qa htb;clear hown hb htb;go_wp2_with fail;go_ret;have hbb:Below w1.heap.size w1 (w1.alloc (.cells #[.slice (some ⟨tb,0,none⟩) L.length tc,.int .i64 0,.int .i64 0,.slice none 0 0,.slice none 0 0,.int .i64 0,.int .i64 0] 98)):=Qag;have hall:=Z4 HB.out hbb;have hlt:=(HO.out.lt tb rfl).2;refine ⟨w1.heap.size,⟨tb,tc,.slice none 0 0,.slice none 0 0,λ_=>False⟩,rfl,⟨⟨Held.new w1 _ _,?_,?_,Fz.out,?_,⟨rfl,.inl ⟨rfl,rfl⟩⟩,⟨rfl,.inl ⟨rfl,rfl⟩⟩,(λx hx=>by cases hx),(λx hx=>by cases hx),HB.out.size,HL.out.fin,HL.out.many,HT.out.keep (λk hk=>hall.block k (by have:=HT.out.size;omega)),HT.out.size,(λk hk=>hk.elim)⟩,rfl,HL.out.some,Vh _,(λx hx=>by cases hx)⟩,hall⟩
 ·intro j u hj;have h1:=HO.out.cells (g:=tb) rfl j u hj;rw [Qef]at h1;have h2:=hbb.cell (p:=⟨tb,j,none⟩) hlt;rw [Bq];exact h2.trans h1
 ·exact Fe hlt hbb.size
 ·rcases HO.out.2 with ⟨h1,_⟩ |⟨g',cap,cur,h1,_,h3,_⟩
  ·cases h1
  ·injection h1 with h1
   injection h1 with h1
   injection h1 with h1
   subst h1;exact ⟨cur,(0,0),(hbb.block _ hlt).trans h3⟩
variable {B g:Nat}{L:List Tk}{w:World}{R:Bx}{p:Nat}{d e q:Int}{l:List Nd}{h:List Nat}
theorem Uw {w V:World} {A:Nat} {t:TypeId} {a0 b0:Value} (h:Held V A t #[a0,b0]) (hb:Below w.heap.size w V) (hA:w.heap.size<=A) (a b:Value):
  ∃W',W'=((V.setCell ⟨A,0,none⟩ a).setCell ⟨A,1,none⟩ b)/\Held W' A t #[a,b]/\Below w.heap.size w W':=
 ⟨_,rfl,(h.set 0 _).set 1 _,(hb.setCell hA _).setCell hA _⟩
theorem Qyt (H:Rd B g L w R p d l h e q):
  Calls prog 25 #[.pointer (some ⟨g,0,none⟩)] w λen w'=>en= .returned (.agg #[.int .i64 e,.int .i64 q])/\Below w.heap.size w w':=by
 obtain ⟨W,hW⟩:=Qb (w.alloc (.cells #[.int .i64 0,.int .i64 0] 29));have HB:Hid (Below w.heap.size w W):=by rw [hW];exact Qag
 obtain ⟨G,hG⟩:=Qb w.heap.size;have HG:Hid (Held W G 29 #[.int .i64 0,.int .i64 0]):=by rw [hW,hG];exact Held.new _ _ _
 have HW:=H.below HB.out;have c5:=HW.c5;have c6:=HW.c6;have z0:W.cell? ⟨G,0,none⟩=some (.int .i64 0):=HG.out.at_ rfl;have z1:W.cell? ⟨G,1,none⟩=some (.int .i64 0):=HG.out.at_ rfl;have f0:=HG.out.frozen 0;have f1:=HG.out.frozen 1;have Fa:=Qa hG;clear H HW hG;go_enter func25,ntmps25;rw [Qz 1];go_wp2_with fail;rw [<-hW,<-Fa.out];clear hW;refine Qn ?_;go_wp2_with fail;obtain ⟨W',hW',hH,hBel⟩:=Uw HG.out HB.out (by rw [Fa.out];exact Qh _) (.int .i64 e) (.int .i64 q);rw [<-hW'];have y0:W'.cell? ⟨G,0,none⟩=some (.int .i64 e):=hH.at_ rfl;have y1:W'.cell? ⟨G,1,none⟩=some (.int .i64 q):=hH.at_ rfl;clear hW' hH;exact bodyPost_ret (v:=.agg #[.int .i64 e,.int .i64 q]) (by simp [results,results25,go_sem,y0,y1]) rfl ⟨rfl,hBel⟩
theorem Qz2 {L:List Nd} {j:Nat} (hj:j<L.length):L.drop j=nd L j::L.drop (j+1):=by rw [Uv hj];exact List.drop_eq_getElem_cons hj
theorem Wg8 {A C:List Nd} {i:Nat} (h:A.length<=i):nd (A++C) i=nd C (i-A.length):=by unfold nd;rw [Yc,Yc,Ht h]
structure Qk7 (w wr:World) (v:Value) (l Q:List Nd) (i:Nat):Prop where
 own:wr.ownsRow w.heap.size 37 5 v l.length (Ay (Q++l.drop i))
 kids: ∀x∈Q,Now w.heap.size wr (Y5 x) x.kids
 len:Q.length=i
 same:Q.map bare=(l.take i).map bare
 below:Below w.heap.size w wr
theorem Wlm {A C:List Value} {c0 c1 c2 c3 c4 x:Value} {p:Nat} (hp:p=A.length):(A++[c0,c1,c2,c3,c4]++C).set (p+1) x=A++[c0,x,c2,c3,c4]++C:=by subst hp;simp
theorem Qk7.next {w wr w1:World} {gp cp n:Nat} {l Q:List Nd} {i:Nat} {va:Option Addr} {kc:Nat} (h:Qk7 w wr (.slice (some ⟨gp,0,none⟩) n cp) l Q i) (hi:i<l.length) (hb:Below wr.heap.size wr w1) (hk:w1.ownsRow wr.heap.size 3 1 (.slice va (nd l i).kids.length kc) (nd l i).kids.length ((nd l i).kids.map (Value.int .i64))):
  Qk7 w (w1.setCell ⟨gp,i*5+1,none⟩ (.slice va (nd l i).kids.length kc)) (.slice (some ⟨gp,0,none⟩) n cp) l (Q++[⟨(nd l i).kind,va,kc,(nd l i).kids,(nd l i).n,(nd l i).s,(nd l i).at_⟩]) (i+1):=by
 have hbw:=h.below.size;have Q50:=Dr h.own hb;have hset:=Wa5 (u:=.slice va (nd l i).kids.length kc) (j:=i*5+1) Q50 (g:=gp) rfl (by omega);have gr:=Gv w1 gp (i*5+1) (.slice va (nd l i).kids.length kc);have K: ∀v xs n,w1.ownsRow w.heap.size 3 1 v n xs->(w1.setCell ⟨gp,i*5+1,none⟩ (.slice va (nd l i).kids.length kc)).ownsRow w.heap.size 3 1 v n xs:=by intro v xs n hv;refine World.ownsRow.kept hv gr ?_;have h2:=Nr hv Q50 (by decide);exact h2
 refine ⟨?_,?_,by rw [Qf,h.len];rfl,?_,?_⟩
 ·have e1:Ay (Q++l.drop i)=Ay Q++[.int .i64 (nd l i).kind,.slice (nd l i).ka (nd l i).kids.length (nd l i).kc,.int .i64 (nd l i).n,.string (nd l i).s,.int .i64 (nd l i).at_]++Ay (l.drop (i+1)):=by rw [Qz2 hi,Qfv,show nd l i::l.drop (i+1)=[nd l i]++l.drop (i+1)from rfl,Qfv,Qn8,<-Qy];rfl
  rw [e1,Wlm (by rw [Q0q,h.len])]at hset;rw [Qfv,Qfv,Qn8];exact hset
 ·intro x hx;rcases List.mem_append.1 hx with hx |hx
  ·exact K _ _ _ (Dr (h.kids x hx) hb)
  ·rw [List.mem_singleton.1 hx];exact K _ _ _ (Qb1 hk hbw)
 ·rw [Zp,h.same,List.take_add_one,Zp];congr 1;rw [Y3 hi];simp [bare,Uv hi]
 ·have hgp:=(h.own.lt gp rfl).1;exact (h.below.trans (hb.mono hbw)).setCell (p:=⟨gp,i*5+1,none⟩) hgp _
theorem Wpz (H:Rd B g L w R p d l h e q) (hl:0<l.length) (hkl: ∀x∈l,x.kids.length<=100000):
  Calls prog 26 #[.pointer (some ⟨g,0,none⟩)] w λen w'=> ∃v l',en= .returned v/\w'.ownsRow w.heap.size 37 5 v l.length (Ay l')/\l'.map bare=l.map bare/\(∀x∈l',Now w.heap.size w' (Y5 x) x.kids)/\Below w.heap.size w w':=by
 have hll:l.length<=100000:=by have:=H.few;have:=H.here;have:=H.many;omega
 have HC:=Qa (Wfb w H.own (by omega) (Wov l));have c3:=H.c3;obtain ⟨vn,L6⟩:=Qb R.vn;rw [<-L6]at c3 HC;have HH:=Qa H;have HKL:=Qa hkl;obtain ⟨n,hn⟩:=Qb l.length;have HN:=Qa hn;rw [<-hn]at hl hll;clear H hkl L6 hn;go_enter func26,ntmps26;rw [Qz 8];go_wp2_with fail;refine HC.out.mono ?_;rintro en w1 ⟨v,rfl,hown,hb⟩;obtain ⟨gp,cp,rfl,_⟩:=Qpr hown (by rw [<-HN.out];exact hl);have HST:Hid (Qk7 w w1 (.slice (some ⟨gp,0,none⟩) l.length cp) l [] 0):=⟨hown,(λx hx=>by cases hx),rfl,rfl,hb⟩;clear hown hb;rw [<-HN.out]at HST ⊢;go_wp2_with fail;go_loopw [14] (λt14 wr=> ∃(i:Nat) (Q:List Nd),i<=n/\t14= .int .i64 (i:Int)/\Hid (Qk7 w wr (.slice (some ⟨gp,0,none⟩) n cp) l Q i)) (λt14 _=>n-(intOf t14).toNat)
 case atStart=>exact ⟨0,[],by omega,rfl,HST⟩
 case round=>
  obtain ⟨i,Q,hi,rfl,HT⟩:=hrel;by_cases hin:i<n
  ·have Wiw:(i:Int)<(n:Int):=(by omega);have Xl:Hid (i<l.length):=(by show i<_;rw [<-HN.out];exact hin);obtain ⟨y,hy⟩:=Qb (nd l i);have HY:=Qa hy;have hmem:y∈l:=(by rw [hy,Uv Xl.out];exact F5 _);have HKN:=Qa (Dr (HH.out.kids y hmem) HT.out.below);have hyl:=HKL.out y hmem;have hcell:wr.cell? ⟨gp,i*5+1,none⟩=some (.slice y.ka y.kids.length y.kc):=by
    have h1:=HT.out.own.cells (g:=gp) rfl (i*5+1) (.slice y.ka y.kids.length y.kc) (by rw [Qqt _ i 1 (by rw [Qf,HT.out.len,Vf];have:=Xl.out;omega) (by decide),Wg8 (by rw [HT.out.len];exact Qh _),HT.out.len,Nat.sub_self,Qz2 Xl.out,hy];rfl);rw [Qef]at h1;exact h1
   clear hy hmem;go_wp2_with fail;refine (Q4y wr (v:=.slice y.ka y.kids.length y.kc) HKN.out (by omega) (ints_oneCell _ _)).mono ?_;rintro en w2 ⟨v2,rfl,hown2,hb2⟩;obtain ⟨ka2,kc2,rfl⟩:=Zq hown2;have HN2:=Qa (HT.out.next Xl.out hb2 (by rw [<-HY.out];exact hown2));have hfz:w2.frozen? ⟨gp,i*5+1,none⟩=false:=by have h1:=Dr HT.out.own hb2;rw [<-HN.out]at h1;exact Wmu h1 _
   have hc2:=(hb2.cell (p:=⟨gp,i*5+1,none⟩) (HT.out.own.lt gp rfl).2).trans hcell;clear hown2 hb2 hcell;go_wp2_with fail;obtain ⟨W2,hW2⟩:=Qb (w2.setCell ⟨gp,i*5+1,none⟩ (.slice ka2 y.kids.length kc2));rw [<-HY.out,<-hW2]at HN2;rw [<-hW2];clear hW2 hfz hc2;refine Qn ?_;go_wp2_with fail;go_roundw
   case rel=>exact ⟨i+1,_,by omega,by go_num,HN2⟩
   case measure=>simp [intOf];omega
  ·obtain rfl:i=n:=(by omega);go_wp2_with fail;go_ret;refine ⟨_,Q,rfl,?_,?_,HT.out.kids,HT.out.below⟩
   ·have:=HT.out.own;rw [Qla (by rw [<-HN.out];exact Qh _),Xe]at this;rw [<-HN.out]at this ⊢;exact this
   ·rw [HT.out.same,F6 (by rw [<-HN.out];exact Qh _)]
end
section
open Go.RowKit
def Given (w w':World) (v:Value) (l:List Nd):Prop:= ∃l',w'.ownsRow w.heap.size 37 5 v l'.length (Ay l')/\l'.map bare=l/\ ∀x∈l',Now w.heap.size w' (Y5 x) x.kids
variable {B g:Nat}{L:List Tk}{w:World}{R:Bx}{d:Nat}{s:PS}{f:Qq}
theorem Wde (H:Bad B g L w R d f):
  Calls prog 25 #[.pointer (some ⟨g,0,none⟩)] w λen w'=>en= .returned (.agg #[.int .i64 (f.1:Int),.int .i64 (f.2:Int)])/\Below w.heap.size w w':=by
 obtain ⟨p,l,h,H,_⟩:=H;exact Qyt H
theorem Wru (H:Bad B g L w R d f):
  Calls prog 99 #[.pointer (some ⟨g,0,none⟩)] w λen w'=>en= .returned (.bool true)/\w'=w:=by
 obtain ⟨p,l,h,H,hf⟩:=H;exact Qe3 H (by omega)
theorem Wcz (x a:Nat) (hx:x≠0) (H:Bad B g L w R d f):
  Calls prog 60 #[.pointer (some ⟨g,0,none⟩),.int .i64 (x:Int),.int .i64 (a:Int)] w λen w'=>(∃v,en= .returned v)/\w'=w:=by
 obtain ⟨p,l,h,H,hf⟩:=H;exact Qhh _ _ H (by omega) (by omega)
theorem Wbp (H:Good B g L w R d s) (hl:0<s.l.length) (hk: ∀x∈s.l,x.kids.length<=100000):
  Calls prog 26 #[.pointer (some ⟨g,0,none⟩)] w λen w'=> ∃v,en= .returned v/\Given w w' v s.l/\Below w.heap.size w w':=by
 obtain ⟨p,l,H,_,hls⟩:=H;refine (Wpz H (by rw [hls,Zr]at hl;exact hl) (λx hx=>hk (bare x) (by rw [hls];exact List.mem_map_of_mem hx))).mono ?_;rintro en w' ⟨v,l',h1,h2,h3,h4,h5⟩;have hlen:l'.length=l.length:=by have:=congrArg List.length h3;simpa using this
 exact ⟨v,h1,⟨l',by rw [hlen];exact h2,by rw [hls];exact h3,h4⟩,h5⟩
theorem Given.base {w0 w w':World} {v:Value} {l:List Nd} (h:Given w w' v l) (hb:w0.heap.size<=w.heap.size):Given w0 w' v l:=by obtain ⟨l',h1,h2,h3⟩:=h;exact ⟨l',Qb1 h1 hb,h2,λx hx=>Qb1 (h3 x hx) hb⟩
theorem Given.below {w w1 w':World} {v:Value} {l:List Nd} (h:Given w w1 v l) (hb:Below w1.heap.size w1 w'):Given w w' v l:=by obtain ⟨l',h1,h2,h3⟩:=h;exact ⟨l',Dr h1 hb,h2,λx hx=>Dr (h3 x hx) hb⟩
end
section
open Go.RowKit
theorem Wa1 {r:List UInt8} (h:k0 r=1):0<r.length/\isLt (bt r 0)=true:=by
 cases r with
 |nil=>cases h
 |cons c cs=>
  have h':(if isLt c.toNat then 1 else if Yn c.toNat then 2 else 4)=1:=h;by_cases g:isLt c.toNat=true
  ·exact ⟨by simp,g⟩
  ·rw [Qd g]at h';split at h'<;>cases h'
theorem Wij {n:Nat} (h:isLt n=true):Yn n=false:=by
 cases hd:Yn n with
 |false=>rfl
 |true=>rw [Qyv hd]at h;cases h
theorem Wkv {r:List UInt8} {p:Nat} (he:er r=0) (hk:(tk r p).kind=1):Xa (tk r p).text=true:=by
 have hk':Bl (k0 r) (r.take (ln r))=1:=hk;unfold Bl at hk';split at hk'
 ·cases hk'
 ·rename_i hkey;have hnk:isKey (r.take (ln r))=false:=by
   cases h:isKey (r.take (ln r))with
   |false=>rfl
   |true=>exact absurd ⟨hk',h⟩ hkey
  obtain ⟨hl,hlt⟩:=Wa1 hk';have hln:=(Qpx hl hlt).2;have h0:=Qhd he;have hle:=Qgf r;have h32:ln r<=32:=by
   unfold er Kw at he;rw [Qd (by omega),hk',Qd (by decide),hnk,Qd (λh=>by cases h.2)]at he;by_cases g:32<ln r
   ·rw [Qk ⟨rfl,g⟩]at he;cases he
   ·omega
  show Xa (r.take (ln r))=true;have hlen:(r.take (ln r)).length=ln r:=by rw [F9];omega
  refine Qxs (by omega) (by omega) ?_ ?_ hnk
  ·rw [Ql9 h0];exact Wij hlt
  ·intro k hk2;rw [Ql9 (by omega)];exact Qma Vt r k (by omega)
theorem Wgl {t:List UInt8}:(num t).getD 0<=9223372036854775807:=by
 cases h:num t with
 |none=>exact Vh _
 |some n=>exact Qx7 (l:=t) (k:=t.length) (by rw [List.take_length];exact h)
theorem Wkk {r:List UInt8}: ∀{p:Nat} {L:List Tk},S r p= .ok L->I8 L:=by
 refine Qv5 (Q:=λr=> ∀{p:Nat} {L:List Tk},S r p= .ok L->I8 L) ?_ ?_ ?_ r
 ·intro p L h;injection h with h
  subst h;refine ⟨λj t ht hk=> ?_,λt ht hk=> ?_,λt ht=> ?_⟩
  ·match j,ht with
   | 0,ht=>injection ht with ht;subst ht;exact absurd rfl hk
  ·rw [List.mem_singleton.1 ht]at hk;cases hk
  ·rw [List.mem_singleton.1 ht];exact Vh _
 ·intro r hr hb p L h;rw [Qhl p hr hb]at h;cases h
 ·intro r hr hb ih p L h;rcases Qp0 h with ⟨e,_⟩ |⟨_,_,M,rfl,hM⟩
  ·exact absurd e hr
  ·have hi:=ih hM;refine ⟨λj t ht hk=> ?_,λt ht hk=> ?_,λt ht=> ?_⟩
   ·have:=Q6p hM;cases j with
    |zero=>rw [Qp];omega
    |succ j=>have:=hi.fin j t ht hk;rw [Qp];omega
   ·rcases List.mem_cons.1 ht with rfl |ht
    ·exact Wkv hb hk
    ·exact hi.name t ht hk
   ·rcases List.mem_cons.1 ht with rfl |ht
    ·show Kv _ _<=_;unfold Kv;split
     ·exact Wgl
     ·exact Vh _
    ·exact hi.num t ht
theorem Qbp {l:List UInt8} {L:List Tk} (h:T l 0= .ok L):I8 L:=Wkk h
theorem Qgw {l:List UInt8} {L:List Tk} (h:T l 0= .ok L):0<L.length/\L.length<=l.length+1:=by refine ⟨Q6p h,?_⟩;have:=Wo8 h;rw [Vf]at this;omega
theorem Qiq {l:List UInt8} {L:List Tk} (h:T l 0= .ok L) (hl:l.length<=65536):IsL L:=by have:=Qgw h;exact ⟨this.1,by omega,(Qbp h).fin⟩
theorem Qdf (l:List Nd) (i:Nat):nd (l.map bare) i=bare (nd l i):=by
 unfold nd;rw [Yc,Yc,Ng];cases l[i]? with
 |none=>rfl
 |some x=>rfl
theorem Given.nodes {w w':World} {v:Value} {l:List Nd} (h:Given w w' v l) (hs: ∀x∈l,x.kids.length<=100000/\0<=x.n/\x.n<=9223372036854775807/\x.s.size<=32):
  ∃a c l',v= .slice a l'.length c/\Nodes w' a l'/\l'.map bare=l:=by
 obtain ⟨l',h1,h2,h3⟩:=h;have hok: ∀j,j<l'.length->Ok w' (nd l' j):=by
  intro j hj;have hm:nd l' j∈l':=by unfold nd;rw [Yc,Y3 hj];exact F5 _
  have hb:bare (nd l' j)∈l:=by rw [<-h2];exact List.mem_map_of_mem hm
  obtain ⟨k1,k2,k3,k4⟩:=hs _ hb;have hN:=h3 _ hm;have k1':(nd l' j).kids.length<=100000:=k1;have k2':0<=(nd l' j).n:=k2;have k3':(nd l' j).n<=9223372036854775807:=k3;have k4':(nd l' j).s.size<=32:=k4;obtain ⟨A,N,C,hA⟩: ∃A N C,Y5 (nd l' j)= .slice A N C:=⟨_,_,_,rfl⟩;unfold Y5 at hA;rcases hN.2 with ⟨e1,e2⟩ |⟨g,cap,cur,e1,e2,e3,e4,e5,e6,e7⟩
  ·have ea:(nd l' j).ka=none:=(by unfold Y5 at e1;injection e1);have ec:(nd l' j).kc=0:=(by unfold Y5 at e1;injection e1);have ek:(nd l' j).kids.length=0:=(by unfold Y5 at e1;injection e1);exact ⟨λh=>by omega,by omega,λ_=>ec,by omega,by omega,by omega,by omega⟩
  ·have ea:(nd l' j).ka=some ⟨g,0,none⟩:=(by unfold Y5 at e1;injection e1);have ec:(nd l' j).kc=cap:=(by unfold Y5 at e1;injection e1);refine ⟨λhpos=>⟨g,0,ea,(Array.getElem?_eq_some_iff.1 e3).1,λk hk=> ?_⟩,by rw [ec];exact e4,(λh=>by rw [ea]at h;cases h),by omega,by omega,by omega,by omega⟩;have hkk:(nd l' j).kids[k]? =some ((nd l' j).kids.getD k 0):=by rw [Yc,Y3 hk];rfl
   have hc:=World.ownsRow.cells hN (g:=g) (by unfold Y5;rw [ea];rfl) k (.int .i64 ((nd l' j).kids.getD k 0)) (by rw [Ng,hkk];rfl);rw [Qef]at hc;rw [Bq];exact hc
 rcases h1.2 with ⟨rfl,e2⟩ |⟨g,cap,cur,rfl,e2,e3,r⟩
 ·exact ⟨none,0,l',by rw [e2],⟨λh=>by omega,hok⟩,h2⟩
 ·refine ⟨some ⟨g,0,none⟩,cap,l',rfl,⟨λ_=>⟨g,0,rfl,(Array.getElem?_eq_some_iff.1 e3).1,λj hj=> ?_⟩,hok⟩,h2⟩;have hget: ∀k,k<5-> ∀u,(nd l' j).cs.toList[k]? =some u->w'.cell? ⟨g,0+j*5+k,none⟩=some u:=by intro k hk u hu;rw [Bq];have hc:=World.ownsRow.cells h1 (g:=g) rfl (j*5+k) u ((Qqt l' j k hj hk).trans hu);rw [Qef]at hc;exact hc
  exact ⟨hget 0 (by omega) _ rfl,hget 1 (by omega) _ rfl,hget 2 (by omega) _ rfl,hget 3 (by omega) _ rfl,hget 4 (by omega) _ rfl⟩
theorem Qzm {l:List Nd} (h:Rt l): ∀x∈l,x.s.size<=32:=by
 intro x hx;obtain ⟨i,hi,e⟩:=List.getElem_of_mem hx;have hf:=h.2.1 i hi;have en:nd l i=x:=by unfold nd;rw [Yc,Y3 hi,e];rfl
 rw [en]at hf;unfold J7 at hf;have ho:ownB x=true:=by
  cases g:ownB x with
  |true=>rfl
  |false=>rw [g]at hf;cases hf
 unfold ownB at ho;simp only [Yo]at ho;have hz:=ho.1.2;have hsz:x.s.size=x.t.length:=(Qa3 x.s).symm;split at hz
 ·unfold Xa at hz;simp only [Yo,Wt]at hz;omega
 ·have:x.t=[]:=of_decide_eq_true hz;rw [hsz,this];exact Vh _
end
section
structure Vj (s s':PS) (k:Nat):Prop where
 all:s'.l.length+s'.r.length+k<=s.l.length+s.r.length
 toks:s'.r.length<=s.r.length
 hts:s.h.length=s.l.length->s'.h.length=s'.l.length
variable {s s0 s1:PS}{v:Out}{b:List UInt8}{k:Nat}
theorem Vj.refl (s:PS):Vj s s 0:=⟨Qh _,Qh _,id⟩
theorem Vj.trans {s2:PS} {j:Nat} (h:Vj s s1 k) (g:Vj s1 s2 j):Vj s s2 (k+j):=⟨by have:=h.all;have:=g.all;omega,by have:=h.toks;have:=g.toks;omega,λe=>g.hts (h.hts e)⟩
theorem Vj.next (h:Vj s0 s k) (hk:s.tok.kind≠0):Vj s0 s.next (k+1):=by have h1:=Qgp hk;have e1:s.next.l=s.l:=rfl;have e2:s.next.h=s.h:=rfl;exact ⟨by have:=h.all;rw [e1];omega,by have:=h.toks;omega,by rw [e1,e2];exact h.hts⟩
def Du (s:PS) (v:Out):Prop:= ∀l s',v= .ok (l,s')->Vj s s' 0
theorem Q63 {x:Nd} {l:List Int} {s':PS} (h:Vj s0 s (k+1)) (g:lay x s= .ok (l,s')):Vj s0 s' k:=by obtain ⟨a,b,c,_⟩:=Qbq g;exact ⟨by have:=h.all;rw [b];omega,by have:=h.toks;rw [b];omega,λe=>c (h.hts e)⟩
theorem L8 {x:Nd} (h:Vj s0 s (k+1)) (g:some (lay x s)=some v):Du s0 v:=by
 injection g with g
 intro l s' e;rw [e]at g;have:=Q63 h g;exact ⟨by have:=this.all;omega,this.toks,this.hts⟩
theorem G9 {f:PS->Option Out} (h0:Vj s0 s k) (h:Qm b s f=some v) (g:Vj s0 s.next (k+1)->f s.next=some v->Du s0 v):Du s0 v:=by
 rcases Qfq h with ⟨h1,h2⟩ |⟨_,rfl⟩
 ·exact g (h0.next (Dc h1)) h2
 ·intro l s' e;cases e
theorem Qjh {f:ByteArray->Nat->PS->Option Out} (h0:Vj s0 s k) (h:Xf s f=some v) (g: ∀nm a,Vj s0 s.next (k+1)->f nm a s.next=some v->Du s0 v):Du s0 v:=by
 rcases Qkb h with ⟨h1,h2⟩ |⟨_,rfl⟩
 ·exact g _ _ (h0.next (by omega)) h2
 ·intro l s' e;cases e
theorem Q1c {f:Nat->PS->Option Out} (h0:Vj s0 s k) (h:V3 s f=some v) (g:Vj s0 s.next (k+1)->f (Yt s.tok) s.next=some v->Du s0 v):Du s0 v:=by
 rcases Qut h with ⟨h1,h2⟩ |⟨_,rfl⟩
 ·exact g (h0.next (Qyl h1)) h2
 ·intro l s' e;cases e
theorem Af {m:Md} {n d:Nat} {f:List Int->PS->Option Out} (h0:Vj s0 s k) (h:Out.go (Qg n m d s) f=some v) (g: ∀p s1,Vj s0 s1 k->f p s1=some v->Du s0 v):Du s0 v:=by
 rcases go_ok h with ⟨e,h1,rfl⟩ |⟨p,s1,h1,h2⟩
 ·intro l s' e;cases e
 ·obtain ⟨a,b,c⟩:=Lg n m d s _ h1 p s1 rfl;exact g p s1 (by have:=h0.trans (k:=k) (j:=0) (⟨by omega,b,c⟩:Vj s s1 0);exact this) h2
theorem Qai {n d:Nat} {f:Int->PS->Option Out} (h0:Vj s0 s k) (h:Wy n d s f=some v) (g: ∀p s1,Vj s0 s1 k->f p s1=some v->Du s0 v):Du s0 v:=Af h0 h (λp s1 h1 h2=>g _ s1 h1 h2)
theorem Qgx {m:Pm} {n d:Nat} (ih: ∀d s v,Qac n m d s=some v->Du s v) {f:List Int->PS->Option Out} (h0:Vj s0 s k) (h:Out.go (Qac n m d s) f=some v) (g: ∀p s1,Vj s0 s1 k->f p s1=some v->Du s0 v):Du s0 v:=by
 rcases go_ok h with ⟨e,h1,rfl⟩ |⟨p,s1,h1,h2⟩
 ·intro l s' e;cases e
 ·exact g p s1 (h0.trans (j:=0) (ih _ _ _ h1 p s1 rfl)) h2
theorem Du.from_ (h:Du s v) (h0:Vj s0 s k):Du s0 v:=λl s' e=>by have:=h0.trans (h l s' e);exact ⟨by have:=this.all;omega,this.toks,this.hts⟩
theorem Sn: ∀(n:Nat) (m:Pm) (d:Nat) (s:PS) (v:Out),(∀acc,m≠ .prog acc)->Qac n m d s=some v->Du s v
 | 0,_,_,_,_,_,h=>by cases h
 |n+1,.block,d,s,v,_,h=>by
  rw [Qac]at h;refine G9 (.refl s) h λh1 h=> ?_;split at h
  ·injection h with h;subst h;intro l s' e;cases e
  ·exact (Sn n _ _ _ _ (λ_ e=>by cases e) h).from_ h1
 |n+1,.stmts acc a,d,s,v,_,h=>by
  rw [Qac]at h;split at h
  ·rename_i g;exact L8 ((Vj.refl s).next (Dc g)) h
  ·exact Qgx (λd s v h=>Sn n _ _ _ _ (λ_ e=>by cases e) h) (.refl s) h λp s1 h1 h=>(Sn n _ _ _ _ (λ_ e=>by cases e) h).from_ h1
 |n+1,.stmt,d,s,v,_,h=>by
  have hB: ∀d s v,Qac n .block d s=some v->Du s v:=λd s v h=>Sn n _ _ _ _ (λ_ e=>by cases e) h;have hnx:Xc s.tok≠0->Vj s s.next 1:=λh0=>(Vj.refl s).next (Qt1 h0);rw [Qac]at h;split at h
  ·rename_i hg;exact Qjh (hnx (by rw [hg];decide)) h λnm a h1 h=>G9 h1 h λh1 h=>Qai h1 h λx s1 h1 h=>G9 h1 h λh1 h=>L8 h1 h
  ·rename_i hg;exact Qjh (hnx (by rw [hg];decide)) h λnm a h1 h=>G9 h1 h λh1 h=>Qai h1 h λx s1 h1 h=>G9 h1 h λh1 h=>Qai h1 h λy s2 h1 h=>Qgx hB h1 h λz s3 h1 h=>L8 h1 h
  ·rename_i hg;exact G9 (hnx (by rw [hg];decide)) h λh1 h=>L8 h1 h
  ·rename_i hg;exact G9 (hnx (by rw [hg];decide)) h λh1 h=>L8 h1 h
  ·rename_i hg;exact Qai (hnx (by rw [hg];decide)) h λx s1 h1 h=>G9 h1 h λh1 h=>L8 h1 h
  ·rename_i hg;exact Qai (hnx (by rw [hg];decide)) h λx s1 h1 h=>G9 h1 h λh1 h=>L8 h1 h
  ·rename_i hg;exact Qai (hnx (by rw [hg];decide)) h λx s1 h1 h=>Qgx hB h1 h λz s2 h1 h=>L8 h1 h
  ·rename_i hg;refine Qai (hnx (by rw [hg];decide)) h λx s1 h1 h=>Qgx hB h1 h λz s2 h1 h=> ?_;split at h
   ·rename_i g;exact Qgx hB (h1.next (Dc g)) h λz s2 h1 h=>L8 h1 h
   ·exact L8 h1 h
  ·refine Qjh (.refl s) h λnm a h1 h=> ?_;split at h
   ·exact Af h1 h λp s1 h1 h=>G9 h1 h λh1 h=>L8 h1 h
   ·split at h
    ·exact Af h1 h λp s1 h1 h=>G9 h1 h λh1 h=>Qai h1 h λx s1 h1 h=>G9 h1 h λh1 h=>L8 h1 h
    ·exact G9 h1 h λh1 h=>Qai h1 h λx s1 h1 h=>G9 h1 h λh1 h=>L8 h1 h
 |n+1,.params acc,d,s,v,_,h=>by
  rw [Qac]at h;refine Qjh (.refl s) h λnm a h1 h=> ?_;split at h
  ·injection h with h;subst h;intro l s' e;cases e
  ·refine Q1c h1 h λh1 h=> ?_;rcases go_ok h with ⟨e,h3,rfl⟩ |⟨q,s2,h3,h4⟩
   ·intro l s' e;cases e
   ·injection h3 with h3
    have h5:=Q63 h1 h3;split at h4
    ·rename_i g;exact (Sn n _ _ _ _ (λ_ e=>by cases e) h4).from_ (h5.next (Dc g))
    ·refine G9 h5 h4 λh1 h=> ?_;injection h with h
     subst h;intro l s' e;cases e;exact ⟨by have:=h1.all;omega,h1.toks,h1.hts⟩
 |n+1,.func,d,s,v,_,h=>by
  have hB: ∀d s v,Qac n .block d s=some v->Du s v:=λd s v h=>Sn n _ _ _ _ (λ_ e=>by cases e) h;rw [Qac]at h;refine Qjh (.refl s) h λnm a h1 h=>G9 h1 h λh1 h=> ?_;rcases go_ok h with ⟨e,h3,rfl⟩ |⟨q,s2,h3,h4⟩
  ·intro l s' e;cases e
  ·have h5:Vj s s2 1:=by
    split at h3
    ·rename_i g;injection h3 with h3
     injection h3 with h3
     injection h3 with _ h6
     subst h6;have:=h1.next (Dc g);exact ⟨by have:=this.all;omega,this.toks,this.hts⟩
    ·have:=h1.trans (Sn n _ _ _ _ (λ_ e=>by cases e) h3 q s2 rfl);exact ⟨by have:=this.all;omega,this.toks,this.hts⟩
   exact Q1c h5 h4 λh1 h=>Qgx hB h1 h λz s3 h1 h=>L8 h1 h
 |n+1,.prog acc,d,s,v,hm,h=>absurd rfl (hm acc)
theorem Qs.left {m:Pm} {d:Nat} {l:List Int} {s':PS} (hm: ∀acc,m≠ .prog acc) (h:Qs m d s (.ok (l,s'))):Vj s s' 0:=by obtain ⟨n,hn⟩:=h;exact Sn n _ _ _ _ hm hn _ _ rfl
theorem Qr7: ∀(n:Nat) (acc:List Int) (d:Nat) (s:PS) (l:List Int) (s':PS),Qac n (.prog acc) d s=some (.ok (l,s'))->s'.l.length+s'.r.length<=s.l.length+s.r.length+1
 | 0,_,_,_,_,_,h=>by cases h
 |n+1,acc,d,s,l,s',h=>by
  rw [Qac]at h;split at h
  ·injection h with h
   obtain ⟨a,b,_,_⟩:=Qbq h;rw [b];omega
  ·rcases Qfq h with ⟨h1,h2⟩ |⟨_,h2⟩
   ·split at h2
    ·cases h2
    ·rcases go_ok h2 with ⟨e,_,h3⟩ |⟨q,s2,h3,h4⟩
     ·cases h3
     ·have h5:=((Vj.refl s).next (Dc h1)).trans (Sn n _ _ _ _ (λ_ e=>by cases e) h3 q s2 rfl);have h6:=Qr7 n _ _ _ _ _ h4;have:=h5.all;omega
   ·cases h2
end
section
open Go.RowKit
variable {B g:Nat}{L:List Tk}{w w':World}{R R':Bx}{d:Nat}{o o':Except Qq PS}
def Any (B g:Nat) (L:List Tk) (w:World) (R:Bx) (d:Nat):Except Qq PS->Prop
 | .ok s=>Good B g L w R d s
 | .error f=>Bad B g L w R d f
def toO:Out->Except Qq PS
 | .ok (_,s)=>.ok s
 | .error f=>.error f
def Qt:Out->Int
 | .ok (l,_)=>hd1 l
 | .error _=> -1
def Does (o:Except Qq PS) (F:PS->Nat->Option Out) (v:Out):Prop:=match o with
 | .ok s=>Ev (F s) v
 | .error f=>v= .error f
def Qc (o:Except Qq PS) (n m:Nat):Prop:= ∀s,o= .ok s->s.l.length+s.r.length<=n/\s.r.length<=m
theorem Qc.mono {n m n' m':Nat} (h:Qc o n m) (h1:n<=n') (h2:m<=m'):Qc o n' m':=λs e=>⟨by have:=(h s e).1;omega,by have:=(h s e).2;omega⟩
theorem Qc.self {n m:Nat} (h:Qc o n m):Qc o n n:=λs e=>⟨(h s e).1,by have:=(h s e).1;omega⟩
theorem Qc.err {f:Qq} {n m:Nat}:Qc (.error f) n m:=λs e=>by cases e
theorem Any.below (H:Any B g L w R d o) (hb:Below w.heap.size w w'):Any B g L w' R d o:=by
 cases o with
 |ok s=>exact Good.below H hb
 |error f=>exact Bad.below H hb
theorem Any.core (H:Any B g L w R d o): ∃p l h e q,Rd B g L w R p (d:Int) l h e q:=by
 cases o with
 |ok s=>obtain ⟨p,l,h,_⟩:=H;exact ⟨_,_,_,_,_,h⟩
 |error f=>obtain ⟨p,l,h,H,_⟩:=H;exact ⟨_,_,_,_,_,H⟩
theorem Any.held {G:Nat} {t:TypeId} {cs:Array Value} (H:Any B g L w R d o) (F:Fr g w w' R R') (h:Held w G t cs) (h1:t≠98) (h2:t≠3) (hv:R.vn.ownBlock≠some G):Held w' G t cs:=by
 obtain ⟨p,l,hh,e,q,H⟩:=H.core;refine h.block (F.block G h.lt ?_ hv (Yr H.hts h (λe=>h2 e.symm)));intro e;subst e;have h4:w.heap[G]? =_:=H.box;have h5:w.heap[G]? =_:=h;rw [h4]at h5;injection h5 with h6
 injection h6 with _ h7
 exact h1 h7.symm
theorem Any.Lj {G:Nat} {t:TypeId} {cs:Array Value} (H:Any B g L w R d o) (h:Held w G t cs) (h2:t≠37):R.vn.ownBlock≠some G:=by obtain ⟨p,l,hh,e,q,H⟩:=H.core;exact Yr H.own h (λe=>h2 e.symm)
theorem Any.tabs (H:Any B g L w R d o):Co w:=by obtain ⟨p,l,hh,e,q,H⟩:=H.core;exact H.tabs
theorem Any.Uf (H:Any B g L w R d o) (F:Fr g w w' R R'):Below B w w':=by obtain ⟨p,l,hh,e,q,H⟩:=H.core;exact H.toCore.Uf F
theorem Any.low (H:Any B g L w R d o) (F:Fr g w w' R R') {k:Nat} (hk:k<Vw):w'.heap[k]? =w.heap[k]?:=by obtain ⟨p,l,hh,e,q,H⟩:=H.core;exact (H.toCore.Uf F).block k (by have:=H.base;omega)
theorem Any.many (H:Any B g L w R d o):L.length<=100000:=by obtain ⟨p,l,hh,e,q,H⟩:=H.core;exact H.many
theorem Any.less (H:Any B g L w R d o) (Z':Nat->Prop) (hz: ∀k,Z' k->R.Z k):Any B g L w {R with Z:=Z'} d o:=by
 cases o with
 |ok s=>exact Good.less H Z' hz
 |error f=>exact Bad.less H Z' hz
theorem Any.wider {B' n:Nat} {W1:World} {v:Value} {xs:List Value} (H:Any B g L w R d o) (hW1:Below w.heap.size w W1) (hv:W1.ownsRow B' 3 1 v n xs) (hB':Vw<=B') (hz: ∀k,v.ownBlock=some k->R.Z k) (hg:W1.grownBy w' v.ownBlock) (Z':Nat->Prop) (hz': ∀k,Z' k->R.Z k\/(w.heap.size<=k/\k<w'.heap.size)):Any B g L w' {R with Z:=Z'} d o:=by
 cases o with
 |ok s=>exact Good.wider H hW1 hv hB' hz hg Z' hz'
 |error f=>exact Bad.wider H hW1 hv hB' hz hg Z' hz'
theorem Q7v (w:World) (r:Option Nat):w.grownBy w r:=⟨rfl,rfl,rfl,Qh _,λ_ _ _=>rfl⟩
theorem Any.widen (H:Any B g L w R d o) (hW1:Below w.heap.size w w') (Z':Nat->Prop) (hz': ∀k,Z' k->R.Z k\/(w.heap.size<=k/\k<w'.heap.size)):Any B g L w' {R with Z:=Z'} d o:=
 H.wider (B':=Vw) (n:=0) (xs:=[]) (v:=.slice none 0 0) hW1 ⟨rfl,.inl ⟨rfl,rfl⟩⟩ (Qh _) (λk hk=>by simp [Value.ownBlock]at hk) (Q7v _ _) Z' hz'
theorem Rd.other {N p:Nat} {d e q:Int} {l:List Nd} {h:List Nat} {cs:Array Value} (H:Rd B g L w R p d l h e q) (hN:Held w N 37 cs) (hne:R.vn.ownBlock≠some N) (hx:Vw<=N) (hg:w.grownBy w' (some N)):Rd B g L w' R p d l h e q:=by
 obtain ⟨cs',fz,hty⟩:=H.ty;have hgN:g≠N:=by
  intro e;subst e;have h4:w.heap[g]? =_:=H.box;have h5:w.heap[g]? =_:=hN;rw [h4]at h5;injection h5 with h6
  injection h6 with _ h7
  exact absurd h7 (by decide)
 have htN:R.tb≠N:=by
  intro e;rw [e]at hty;have h5:w.heap[N]? =_:=hN;rw [hty]at h5;injection h5 with h6
  injection h6 with _ h7
  exact absurd h7 (by decide)
 have K: ∀k,k≠N->k<w.heap.size->w'.heap[k]? =w.heap[k]?:=λk hk hs=>hg.block k hs (λe=>hk (by injection e));have htb:=K R.tb htN H.Jh;refine ⟨⟨H.box.block (K g hgN H.box.lt),H.toks.block htb,Fe H.Jh hg.size,H.told,⟨cs',fz,htb.trans hty⟩,World.ownsRow.kept H.own hg (.inr hne),World.ownsRow.kept H.hts hg (.inr (Yr H.hts hN (by decide))),λx hx=>World.ownsRow.kept (H.kids x hx) hg (.inr (Yr (H.kids x hx) hN (by decide))),H.off,H.old,H.fin,H.many,
  H.tabs.keep (λk hk=>K k (by omega) (by have:=H.tabs.size;omega)),H.base,λk hk=>⟨Fe (H.zone k hk).1 hg.size,(H.zone k hk).2⟩⟩,H.len,H.here,H.few,H.low⟩
theorem Any.other {N:Nat} {cs:Array Value} (H:Any B g L w R d o) (hN:Held w N 37 cs) (hne:R.vn.ownBlock≠some N) (hx:Vw<=N) (hg:w.grownBy w' (some N)):Any B g L w' R d o:=by
 cases o with
 |ok s=>obtain ⟨p,l,h,r⟩:=H;exact ⟨p,l,h.other hN hne hx hg,r⟩
 |error f=>obtain ⟨p,l,h,H,r⟩:=H;exact ⟨p,l,h,H.other hN hne hx hg,r⟩
theorem Fr.other {N:Nat} {w0:World} {R0:Bx} (F:Fr g w0 w R0 R) (hN:w0.heap.size<=N) (hg:w.grownBy w' (some N)):Fr g w0 w' R0 R:=by refine ⟨hg.os.trans F.os,hg.tape.trans F.tape,hg.output.trans F.output,F7 F.size hg.size,?_,F.vn,F.vh⟩;intro k hk h1 h2 h3;rw [hg.block k (by have:=F.size;omega) (λe=>by injection e with e;omega),F.block k hk h1 h2 h3]
def Lu (x a:Nat):Except Qq PS->Except Qq PS
 | .ok _=>.error (x,a)
 | .error f=>.error f
def Gy (d a:Nat):Except Qq PS->Except Qq PS
 | .ok s=>if 200<=d then .error (4,a)else .ok s
 | .error f=>.error f
def Yv (b:List UInt8):Except Qq PS->Except Qq PS
 | .ok s=>if s.is b then .ok s.next else .error (8,s.tok.place)
 | .error f=>.error f
def Vg:Except Qq PS->Except Qq PS
 | .ok s=>if s.tok.kind=1 then .ok s.next else .error (8,s.tok.place)
 | .error f=>.error f
def Cj:Except Qq PS->ByteArray
 | .ok s=>if s.tok.kind=1 then ⟨s.tok.text.toArray⟩else ⟨#[]⟩
 | .error f=>⟨#[]⟩
theorem Oq {b:List UInt8} {s:PS} (h:s.is b=true):Yv b (.ok s)= .ok s.next:=Qk h
theorem Ov {b:List UInt8} {s:PS} (h:s.is b=false):Yv b (.ok s)= .error (8,s.tok.place):=Qd (by rw [h];decide)
theorem Qkd {s:PS} (h:s.tok.kind=1):Vg (.ok s)= .ok s.next:=Qk h
theorem Qcr {s:PS} (h:s.tok.kind≠1):Vg (.ok s)= .error (8,s.tok.place):=Qd h
theorem Qvv {s:PS} (h:s.tok.kind=1):Cj (.ok s)=⟨s.tok.text.toArray⟩:=Qk h
theorem Qyc {s:PS} (h:s.tok.kind≠1):Cj (.ok s)=⟨#[]⟩:=Qd h
theorem Ry {d a:Nat} {s:PS} (h:200<=d):Gy d a (.ok s)= .error (4,a):=Qk h
theorem Un {d a:Nat} {s:PS} (h: ¬200<=d):Gy d a (.ok s)= .ok s:=Qd h
theorem Does.need {b:List UInt8} {G:PS->Nat->Option Out} {v:Out} (h:Does (Yv b o) G v):Does o (λs n=>Qm b s (λs1=>G s1 n)) v:=by
 cases o with
 |error f=>exact h
 |ok s=>
  cases hb:s.is b with
  |true=>rw [Oq hb]at h;exact Ev.need (f:=λn s1=>G s1 n) hb h
  |false=>rw [Ov hb]at h;rw [show v=_ from h];exact Ev.Q3h (f:=λn s1=>G s1 n) hb
theorem Qc.need {b:List UInt8} {n m:Nat} (h:Qc o (n+1) (m+1)):Qc (Yv b o) n m:=by
 cases o with
 |error f=>exact Qc.err
 |ok s=>
  cases hb:s.is b with
  |true=>
   rw [Oq hb];intro s' e;injection e with e
   subst e;have h1:=h s rfl;have h2:=Ve hb;have h3:s.next.l=s.l:=rfl;rw [h3];exact ⟨by omega,by omega⟩
  |false=>rw [Ov hb];exact Qc.err
theorem Does.name {a:Nat} {G:ByteArray->Nat->PS->Nat->Option Out} {v:Out} (ha: ∀s,o= .ok s->a=s.tok.place) (h:Does (Vg o) (G (Cj o) a) v):Does o (λs n=>Xf s (λx y s1=>G x y s1 n)) v:=by
 cases o with
 |error f=>exact h
 |ok s=>
  have ha:=ha s rfl;subst ha;by_cases hb:s.tok.kind=1
  ·rw [Qkd hb,Qvv hb]at h;exact Ev.name (f:=λn x y s1=>G x y s1 n) hb h
  ·rw [Qcr hb]at h;rw [show v=_ from h];exact Ev.Qvz (f:=λn x y s1=>G x y s1 n) hb
theorem Qc.name {n m:Nat} (h:Qc o (n+1) (m+1)):Qc (Vg o) n m:=by
 cases o with
 |error f=>exact Qc.err
 |ok s=>
  by_cases hb:s.tok.kind=1
  ·rw [Qkd hb];intro s' e;injection e with e
   subst e;have h1:=h s rfl;have h2:=Cr (s:=s) (by omega);have h3:s.next.l=s.l:=rfl;rw [h3];exact ⟨by omega,by omega⟩
  ·rw [Qcr hb];exact Qc.err
theorem Does.go {F:PS->Nat->Option Out} {G:Int->PS->Nat->Option Out} {v1 v:Out} (h1:Does o F v1) (h:Does (toO v1) (G (Qt v1)) v):Does o (λs n=>Out.go (F s n) (λp s1=>G (hd1 p) s1 n)) v:=by
 cases o with
 |error f=>rw [show v1=_ from h1]at h;exact h
 |ok s=>
  match v1,h1,h with
  | .error f,h1,h=>rw [show v=_ from h];exact Ev.Qis (f:=λn p s1=>G (hd1 p) s1 n) h1
  | .ok (p,s1),h1,h=>exact Ev.go (f:=λn p s1=>G (hd1 p) s1 n) h1 h
theorem Does.go' {F:PS->Nat->Option Out} {G:List Int->PS->Nat->Option Out} {v1 v:Out} {q:List Int} (h1:Does o F v1) (hq: ∀p s,v1= .ok (p,s)->q=p) (h:Does (toO v1) (G q) v):Does o (λs n=>Out.go (F s n) (λp s1=>G p s1 n)) v:=by
 cases o with
 |error f=>rw [show v1=_ from h1]at h;exact h
 |ok s=>
  match v1,h1,hq,h with
  | .error f,h1,hq,h=>rw [show v=_ from h];exact Ev.Qis (f:=λn p s1=>G p s1 n) h1
  | .ok (p,s1),h1,hq,h=>obtain rfl:=hq p s1 rfl;exact Ev.go (f:=λn p s1=>G p s1 n) h1 h
theorem Does.ex {G:Int->PS->Nat->Option Out} {v1 v:Out} (h1:Does o (λs n=>Qg n (.chain 0) d s) v1) (h:Does (toO v1) (G (Qt v1)) v):Does o (λs n=>Wy n d s (λa s1=>G a s1 n)) v:=Does.go (G:=G) h1 h
theorem Does.Pw {m:Md} {v:Out} {s:PS} (h:Reads m d s v):Does (.ok s) (λs n=>Qg n m d s) v:=h.ev
structure Came (B g:Nat) (L:List Tk) (w:World) (R:Bx) (d:Nat) (v:Out) (en:Ending) (w':World) (R':Bx):Prop where
 fr:Fr g w w' R R'
 z:R'.Z=R.Z
 en:en= .returned (.int .i64 (Qt v))
 any:Any B g L w' R' d (toO v)
theorem Ends.came {v:Out} {en:Ending} (h:Ends B g L w R d v en w'): ∃R',Came B g L w R d v en w' R':=by
 obtain ⟨R',hf,hz,hv⟩:=h;rcases hv with ⟨k,s1,rfl,rfl,hg⟩ |⟨f,rfl,rfl,hg⟩
 ·exact ⟨R',hf,hz,rfl,hg⟩
 ·exact ⟨R',hf,hz,rfl,hg⟩
theorem Qic (H:Any B g L w R d o) (hd: ∀s,o= .ok s->d<=200):
  Calls prog 94 #[.pointer (some ⟨g,0,none⟩)] w λen w'=> ∃v R',Does o (λs n=>Qg n (.chain 0) d s) v/\Came B g L w R d v en w' R'/\ ∀n m,Qc o n m->Qc (toO v) n m:=by
 cases o with
 |ok s=>
  refine (Wk3 H (hd s rfl)).mono ?_;rintro en w' ⟨v,hrd,he⟩;obtain ⟨R',hc⟩:=Ends.came he;refine ⟨v,R',Does.Pw hrd,hc,λn m hl=> ?_⟩
  match v,hrd with
  | .error f,_=>exact Qc.err
  | .ok (p,s1),hrd=>
   intro s' e;injection e with e
   subst e;have h1:=hl s rfl;have h2:=hrd.N7;exact ⟨by omega,by omega⟩
 |error f=>
  refine (Qi9 H).mono ?_;rintro en w' ⟨rfl,hb⟩;exact ⟨.error f,R,rfl,⟨Fr.of_below R hb,rfl,rfl,Bad.below H hb⟩,λn m _=>Qc.err⟩
theorem Qb0 (b:List UInt8) (H:Any B g L w R d o):
  Calls prog 97 #[.pointer (some ⟨g,0,none⟩),.string ⟨b.toArray⟩] w λen w'=>(∃x,en= .returned x)/\Any B g L w' R d (Yv b o)/\Fr g w w' R R:=by
 cases o with
 |ok s=>
  cases hb:s.is b with
  |true=>rw [Oq hb];exact (Qj2 b H hb).mono λen w' ⟨h1,h2,h3⟩=>⟨⟨_,h1⟩,h2,h3⟩
  |false=>rw [Ov hb];exact (Qg5 b H hb).mono λen w' ⟨h1,h2,h3⟩=>⟨⟨_,h1⟩,h2,h3⟩
 |error f=>exact (Qe4 b H).mono λen w' ⟨h1,h2⟩=>⟨⟨_,h1⟩,Bad.below H h2,Fr.of_below R h2⟩
theorem Wc8 (H:Any B g L w R d o):
  Calls prog 127 #[.pointer (some ⟨g,0,none⟩)] w λen w'=>en= .returned (.string (Cj o))/\Any B g L w' R d (Vg o)/\Fr g w w' R R:=by
 cases o with
 |ok s=>
  by_cases hb:s.tok.kind=1
  ·rw [Qkd hb,Qvv hb];exact Q20 H hb
  ·rw [Qcr hb,Qyc hb];exact Q6s H hb
 |error f=>exact (Qtv H).mono λen w' ⟨h1,h2⟩=>⟨h1,Bad.below H h2,Fr.of_below R h2⟩
theorem Qdl (H:Any B g L w R d o):
  Calls prog 61 #[.pointer (some ⟨g,0,none⟩)] w λen w'=> ∃(k n a:Nat) (x:ByteArray),en= .returned (.agg #[.int .i64 (k:Int),.string x,.int .i64 (n:Int),.int .i64 (a:Int)])/\(∀s,o= .ok s->k=s.tok.kind/\a=s.tok.place)/\Below w.heap.size w w':=by
 cases o with
 |ok s=>exact (Qbx H).mono λen w' ⟨h1,h2⟩=>⟨_,_,_,_,h1,(λs' e=>by injection e with e;subst e;exact ⟨rfl,rfl⟩),h2⟩
 |error f=>exact (Qki H).mono λen w' ⟨k,n,a,x,h1,h2⟩=>⟨k,n,a,x,h1,(λs' e=>by cases e),h2⟩
theorem Qjg (x a:Nat) (hx:x≠0) (H:Any B g L w R d o):
  Calls prog 60 #[.pointer (some ⟨g,0,none⟩),.int .i64 (x:Int),.int .i64 (a:Int)] w λen w'=>(∃v,en= .returned v)/\Any B g L w' R d (Lu x a o)/\Fr g w w' R R:=by
 cases o with
 |ok s=>exact Q6t x a hx H
 |error f=>exact (Wcz x a hx H).mono λen w' ⟨h1,h2⟩=>by subst h2;exact ⟨h1,H,Fr.of_below R (Below.refl _ _)⟩
theorem Wh8 (a:Nat) (H:Any B g L w R d o) (hd2:d<=1000):
  Calls prog 129 #[.pointer (some ⟨g,0,none⟩),.int .i64 (a:Int)] w λen w'=>(∃x,en= .returned x)/\Any B g L w' R (d+1) (Gy d a o)/\Fr g w w' R R:=by
 cases o with
 |ok s=>
  by_cases hd:200<=d
  ·rw [Ry hd];exact (Qm7 a H hd hd2).mono λen w' ⟨h1,h2⟩=>⟨⟨_,h1⟩,h2⟩
  ·rw [Un hd];exact (Qlu a H (by omega)).mono λen w' ⟨h1,h2⟩=>⟨⟨_,h1⟩,h2⟩
 |error f=>exact (Qu7 a H hd2).mono λen w' ⟨h1,h2⟩=>⟨⟨_,h1⟩,h2⟩
theorem Q2g (H:Any B g L w R (d+1) o) (hd2:d<=1000):
  Calls prog 131 #[.pointer (some ⟨g,0,none⟩)] w λen w'=>(∃x,en= .returned x)/\Any B g L w' R d o/\Fr g w w' R R:=by
 cases o with
 |ok s=>exact Qnm H hd2
 |error f=>exact Pg H hd2
theorem G5 (b:List UInt8) (H:Any B g L w R d o):
  Calls prog 96 #[.pointer (some ⟨g,0,none⟩),.string ⟨b.toArray⟩] w λen w'=> ∃(c:Bool) (o':Except Qq PS),en= .returned (.bool c)/\Any B g L w' R d o'/\Fr g w w' R R/\
   ((c=true/\ ∃s,o= .ok s/\s.is b=true/\o'= .ok s.next)\/(c=false/\o'=o/\ ∀s,o= .ok s->s.is b=false)):=by
 cases o with
 |ok s=>
  cases hb:s.is b with
  |true=>exact (Qbh b H hb).mono λen w' ⟨h1,h2,h3⟩=>⟨true,.ok s.next,h1,h2,h3,.inl ⟨rfl,s,rfl,hb,rfl⟩⟩
  |false=>exact (Qbi b H hb).mono λen w' ⟨h1,h2⟩=>⟨false,.ok s,h1,Good.below H h2,Fr.of_below R h2,.inr ⟨rfl,rfl,λs' e=>by injection e with e;subst e;exact hb⟩⟩
 |error f=>exact (Nz b H).mono λen w' ⟨h1,h2⟩=>⟨false,.error f,h1,Bad.below H h2,Fr.of_below R h2,.inr ⟨rfl,rfl,λs' e=>by cases e⟩⟩
theorem Qmu (b:List UInt8) (H:Any B g L w R d o):
  Calls prog 59 #[.pointer (some ⟨g,0,none⟩),.string ⟨b.toArray⟩] w λen w'=> ∃c:Bool,en= .returned (.bool c)/\Below w.heap.size w w'/\((c=true/\ ∃s,o= .ok s/\s.is b=true)\/(c=false/\ ∀s,o= .ok s->s.is b=false)):=by
 cases o with
 |ok s=>
  refine (Qhp b H).mono λen w' ⟨h1,h2⟩=>⟨s.is b,h1,h2,?_⟩;cases hb:s.is b with
  |true=>exact .inl ⟨rfl,s,rfl,hb⟩
  |false=>exact .inr ⟨rfl,λs' e=>by injection e with e;subst e;exact hb⟩
 |error f=>exact (Qck b H).mono λen w' ⟨h1,h2⟩=>⟨false,h1,h2,.inr ⟨rfl,λs' e=>by cases e⟩⟩
theorem Ob {B':Nat} (K:Int) (v:Value) (acc:List Int) (n:Int) (S:ByteArray) (a:Nat) (H:Any B g L w R d o) (hk:Now B' w v acc) (hl:Qc o L.length L.length) (hn:acc.length<=100000):
  Calls prog 63 #[.pointer (some ⟨g,0,none⟩),.agg #[.int .i64 K,v,.int .i64 n,.string S,.int .i64 (a:Int)]] w λen w'=> ∃u R',Does o (λs _=>some (lay (En K acc n S (a:Int)) s)) u/\Came B g L w R d u en w' R'/\ ∀n m,Qc o n m->Qc (toO u) (n+1) m:=by
 obtain ⟨ka,kc,rfl⟩:=Zq hk;cases o with
 |ok s=>
  refine (Qey ⟨K,ka,kc,acc,n,S,(a:Int)⟩ a H hk (hl s rfl).1 hn rfl).mono ?_;intro en w' he;obtain ⟨R',hc⟩:=Ends.came he;refine ⟨_,R',Ev.const,hc,λn' m hl=> ?_⟩;show Qc (toO (lay _ s)) _ _;unfold lay;by_cases h2:200<high s.h acc
  ·rw [Qk (by exact h2)];exact Qc.err
  ·rw [Qd (by exact h2)];intro s' e;injection e with e
   subst e;have h1:=hl s rfl;exact ⟨by show (s.l++[_]).length+s.r.length<=_;rw [Qf,Yw];omega,h1.2⟩
 |error f=>
  refine (Mx _ _ _ _ _ H).mono ?_;rintro en w' ⟨rfl,hb⟩;exact ⟨.error f,R,rfl,⟨Fr.of_below R hb,rfl,rfl,Bad.below H hb⟩,λn m _=>Qc.err⟩
end
section
open Go.RowKit
structure QCore (B g:Nat) (L:List Tk) (w:World) (R:Bx) (p:Nat) (d:Int) (l:List Nd) (h:List Nat) (e q:Int):Prop where
 box:Held w g 67 #[.slice (some ⟨R.tb,0,none⟩) L.length R.tc,.int .i64 (p:Int),.int .i64 d,R.vn,R.vh,.int .i64 e,.int .i64 q]
 toks:Uo w R.tb 0 L
 Jh:R.tb<w.heap.size
 told:B<=R.tb
 ty: ∃cs fz,w.heap[R.tb]? =some (.cells cs 69 fz)
 own:w.ownsRow B 37 5 R.vn l.length (Ay l)
 hts:Now B w R.vh (h.map Int.ofNat)
 kids: ∀x∈l,Now B w (Y5 x) x.kids
 off: ∀x∈l,(Y5 x).ownBlock=none\/(Y5 x).ownBlock≠R.vh.ownBlock
 old:B<=g
 fin: ∀j t,L[j]? =some t->t.kind≠0->j+1<L.length
 many:L.length<=100000
 tabs:Co w
 base:Vw<=B
 zone: ∀k,R.Z k->k<w.heap.size/\R.vh.ownBlock≠some k/\ ∀x∈l,(Y5 x).ownBlock≠some k
structure Km (B g:Nat) (L:List Tk) (w:World) (R:Bx) (p:Nat) (d:Int) (l:List Nd) (h:List Nat) (e q:Int):Prop extends QCore B g L w R p d l h e q where
 len:h.length=l.length
 here:p<L.length
 few:l.length<=p+1
 low: ∀x∈h,x<=200
theorem QCore.Uf {B g:Nat} {L:List Tk} {w w':World} {R R':Bx} {p:Nat} {d e q:Int} {l:List Nd} {h:List Nat} (H:QCore B g L w R p d l h e q) (F:Fr g w w' R R'):Below B w w':=
 ⟨F.os,F.tape,F.output,F.size,λk hk=>F.block k (by have:=H.old;have:=H.box.lt;omega) (by have:=H.old;omega) (λe=>by have:=(H.own.lt k e).1;omega) (λe=>by have:=(H.hts.lt k e).1;omega)⟩
theorem QCore.below {B g:Nat} {L:List Tk} {w w':World} {R:Bx} {p:Nat} {d e q:Int} {l:List Nd} {h:List Nat} (H:QCore B g L w R p d l h e q) (hb:Below w.heap.size w w'):QCore B g L w' R p d l h e q:=by
 obtain ⟨cs,fz,hty⟩:=H.ty;exact ⟨H.box.since hb,H.toks.block (hb.block _ H.Jh),Fe H.Jh hb.size,H.told,⟨cs,fz,(hb.block _ H.Jh).trans hty⟩,Dr H.own hb,Dr H.hts hb,λx hx=>Dr (H.kids x hx) hb,H.off,H.old,H.fin,H.many,
  H.tabs.keep (λk hk=>hb.block k (by have:=H.tabs.size;omega)),H.base,λk hk=>⟨Fe (H.zone k hk).1 hb.size,(H.zone k hk).2⟩⟩
theorem Km.below {B g:Nat} {L:List Tk} {w w':World} {R:Bx} {p:Nat} {d e q:Int} {l:List Nd} {h:List Nat} (H:Km B g L w R p d l h e q) (hb:Below w.heap.size w w'):Km B g L w' R p d l h e q:=
 ⟨H.toQCore.below hb,H.len,H.here,H.few,H.low⟩
theorem QCore.Px {B g:Nat} {L:List Tk} {w:World} {R:Bx} {p:Nat} {d e q:Int} {l:List Nd} {h:List Nat} (H:QCore B g L w R p d l h e q):R.tb≠g:=by
 obtain ⟨cs,fz,hty⟩:=H.ty;intro e0;have h1:w.heap[g]? =_:=H.box;rw [e0,h1]at hty;injection hty with h2
 injection h2 with _ h3
 exact absurd h3 (by decide)
theorem Km.store {B g:Nat} {L:List Tk} {w:World} {R:Bx} {p p':Nat} {d e q d' e' q':Int} {l:List Nd} {h:List Nat} (H:Km B g L w R p d l h e q) {i:Nat} {u:Value}
  (hc:(#[.slice (some ⟨R.tb,0,none⟩) L.length R.tc,.int .i64 (p:Int),.int .i64 d,R.vn,R.vh,.int .i64 e,.int .i64 q]:Array Value).setIfInBounds i u= #[.slice (some ⟨R.tb,0,none⟩) L.length R.tc,.int .i64 (p':Int),.int .i64 d',R.vn,R.vh,.int .i64 e',.int .i64 q'])
  (hp:p'<L.length) (hf:l.length<=p'+1):Km B g L (w.setCell ⟨g,i,none⟩ u) R p' d' l h e' q':=by
 have hg:=H.box;have hne: ∀k,k≠g->(w.setCell ⟨g,i,none⟩ u).heap[k]? =w.heap[k]?:=λk hk=>Below.heap_setCell w ⟨g,i,none⟩ u k hk;obtain ⟨cs,fz,hty⟩:=H.ty;have htb:=H.toQCore.Px;have gr:=Gv w g i u;refine ⟨⟨?_,H.toks.block (hne _ htb),by have:=H.Jh;simpa [World.setCell] using this,H.told,⟨cs,fz,(hne _ htb).trans hty⟩,H.own.kept gr (.inr (Yr H.own hg (by decide))),H.hts.kept gr (.inr (Yr H.hts hg (by decide))),λx hx=>(H.kids x hx).kept gr (.inr (Yr (H.kids x hx) hg (by decide))),H.off,H.old,H.fin,H.many,
  H.tabs.keep (λk hk=>hne k (by have:=H.old;have:=H.base;omega)),H.base,λk hk=>⟨by have:=(H.zone k hk).1;simpa [World.setCell] using this,(H.zone k hk).2⟩⟩,H.len,hp,hf,H.low⟩;have:=hg.set i u;rw [hc]at this;exact this
theorem QCore.node {B g:Nat} {L:List Tk} {w W1 w3:World} {R:Bx} {p:Nat} {d e q:Int} {l:List Nd} {h:List Nat} {v3:Value} {y:Nd} (H0:QCore B g L w R p d l h e q) (hW1:Below w.heap.size w W1) (hown:w3.ownsRow B 37 5 v3 (l.length+1) (Ay l++y.cs.toList)) (hg:W1.grownBy w3 R.vn.ownBlock)
  (hat: ∀k,v3.ownBlock=some k->R.vn.ownBlock=some k\/w.heap.size<=k) (hk:Now B w (Y5 y) y.kids) (hoff:(Y5 y).ownBlock=none\/(Y5 y).ownBlock≠R.vh.ownBlock) (hz: ∀k,R.Z k->(Y5 y).ownBlock≠some k):
  QCore B g L (w3.setCell ⟨g,3,none⟩ v3) {R with vn:=v3} p d (l++[y]) h e q/\Fr g w (w3.setCell ⟨g,3,none⟩ v3) R {R with vn:=v3}:=by
 have H:=H0.below hW1;have hne: ∀k,k≠g->(w3.setCell ⟨g,3,none⟩ v3).heap[k]? =w3.heap[k]?:=λk hk=>Below.heap_setCell w3 ⟨g,3,none⟩ v3 k hk;have hgv:R.vn.ownBlock≠some g:=Yr H.own H.box (by decide);have Ei:Held w3 g 67 _:=H.box.block (hg.block g H.box.lt (λe=>hgv e.symm));obtain ⟨cs,fz,hty⟩:=H.ty;have Po:R.vn.ownBlock≠some R.tb:=Yr H.own hty (by decide);have Pp:w3.heap[R.tb]? =W1.heap[R.tb]?:=hg.block R.tb H.Jh (λe=>Po e.symm);have gr:=Gv w3 g 3 v3;have hk1:Now B W1 (Y5 y) y.kids:=Dr hk hW1;have K3: ∀x,Now B W1 (Y5 x) x.kids->Now B (w3.setCell ⟨g,3,none⟩ v3) (Y5 x) x.kids:=by intro x hx;have h3:Now B w3 (Y5 x) x.kids:=World.ownsRow.kept hx hg (Nr hx H.own (by decide));exact World.ownsRow.kept h3 gr (.inr (Yr h3 Ei (by decide)))
 have h3:Now B w3 R.vh (h.map Int.ofNat):=World.ownsRow.kept H.hts hg (Nr H.hts H.own (by decide));refine ⟨⟨Ei.set 3 v3,(H.toks.block Pp).block (hne _ H.Px),?_,H.told,⟨cs,fz,(hne _ H.Px).trans (Pp.trans hty)⟩,?_,World.ownsRow.kept h3 gr (.inr (Yr h3 Ei (by decide))),?_,?_,H.old,H.fin,H.many,?_,H.base,?zone⟩,?_,?_,?_,?_,?_,?_,?_⟩
 case zone=>
  intro k hk;have h1:=H.zone k hk;refine ⟨by have h2:=hg.size;have h4:=h1.1;simp [World.setCell];omega,h1.2.1,λx hx=> ?_⟩;rcases List.mem_append.1 hx with hx |hx
  ·exact h1.2.2 x hx
  ·rw [List.mem_singleton.1 hx];exact hz k hk
 ·have h1:=H.Jh;have h2:=hg.size;simp [World.setCell];omega
 ·have h4:=World.ownsRow.kept hown gr (.inr (Yr hown Ei (by decide)));rw [Qf,Qfv,Qn8];exact h4
 ·intro x hx;rcases List.mem_append.1 hx with hx |hx
  ·exact K3 x (H.kids x hx)
  ·rw [List.mem_singleton.1 hx];exact K3 y hk1
 ·intro x hx;rcases List.mem_append.1 hx with hx |hx
  ·exact H.off x hx
  ·rw [List.mem_singleton.1 hx];exact hoff
 ·refine H.tabs.keep (λk hk=> ?_);have hb:=H.base;rw [hne k (by have:=H.old;omega),hg.block k (by have:=H.tabs.size;omega) (λe=>by have:=(H.own.lt k e.symm).1;omega)]
 ·exact (show w3.os=_ from hg.os).trans hW1.os
 ·exact (show w3.tape=_ from hg.tape).trans hW1.tape
 ·exact (show w3.output=_ from hg.output).trans hW1.output
 ·have h1:=hW1.size;have h2:=hg.size;simp [World.setCell];omega
 ·intro k hk h1 h2 h4;rw [hne k h1,hg.block k (by have:=hW1.size;omega) (λe=>h2 e.symm),hW1.block k hk]
 ·exact hat
 ·exact λk hk=>.inl hk
theorem QCore.height {B g:Nat} {L:List Tk} {w W1 w3:World} {R:Bx} {p:Nat} {d e q:Int} {l:List Nd} {h:List Nat} {v3:Value} {z:Nat} (H0:QCore B g L w R p d l h e q) (hW1:Below w.heap.size w W1) (hown:Now B w3 v3 ((h++[z]).map Int.ofNat)) (hg:W1.grownBy w3 R.vh.ownBlock)
  (hat: ∀k,v3.ownBlock=some k->R.vh.ownBlock=some k\/w.heap.size<=k):
  QCore B g L (w3.setCell ⟨g,4,none⟩ v3) {R with vh:=v3} p d l (h++[z]) e q/\Fr g w (w3.setCell ⟨g,4,none⟩ v3) R {R with vh:=v3}:=by
 have H:=H0.below hW1;have hne: ∀k,k≠g->(w3.setCell ⟨g,4,none⟩ v3).heap[k]? =w3.heap[k]?:=λk hk=>Below.heap_setCell w3 ⟨g,4,none⟩ v3 k hk;have hgv:R.vh.ownBlock≠some g:=Yr H.hts H.box (by decide);have Ei:Held w3 g 67 _:=H.box.block (hg.block g H.box.lt (λe=>hgv e.symm));obtain ⟨cs,fz,hty⟩:=H.ty;have Po:R.vh.ownBlock≠some R.tb:=Yr H.hts hty (by decide);have Pp:w3.heap[R.tb]? =W1.heap[R.tb]?:=hg.block R.tb H.Jh (λe=>Po e.symm);have gr:=Gv w3 g 4 v3;have Qg7:=World.ownsRow.kept H.own hg (Nr H.own H.hts (by decide));refine ⟨⟨Ei.set 4 v3,(H.toks.block Pp).block (hne _ H.Px),?_,H.told,⟨cs,fz,(hne _ H.Px).trans (Pp.trans hty)⟩,World.ownsRow.kept Qg7 gr (.inr (Yr Qg7 Ei (by decide))),World.ownsRow.kept hown gr (.inr (Yr hown Ei (by decide))),?_,?_,H.old,H.fin,H.many,?_,H.base,?zone⟩,?_,?_,?_,?_,?_,?_,?_⟩
 case zone=>
  intro k hk;have h1:=H0.zone k hk;refine ⟨by have h2:=hg.size;have h4:=h1.1;have h5:=hW1.size;simp [World.setCell];omega,λe=> ?_,h1.2.2⟩;rcases hat k e with h6 |h6
  ·exact h1.2.1 h6
  ·have:=h1.1;omega
 ·have h1:=H.Jh;have h2:=hg.size;simp [World.setCell];omega
 ·intro x hx;have h4:Now B w3 (Y5 x) x.kids:=World.ownsRow.kept (H.kids x hx) hg (H.off x hx);exact World.ownsRow.kept h4 gr (.inr (Yr h4 Ei (by decide)))
 ·intro x hx;cases hb:(Y5 x).ownBlock with
  |none=>exact .inl rfl
  |some b=>
   right;intro e;rcases hat b e.symm with h1 |h1
   ·rcases H.off x hx with h2 |h2
    ·rw [h2]at hb;cases hb
    ·exact h2 (hb.trans h1.symm)
   ·have h2:=((H0.kids x hx).lt b hb).2;omega
 ·refine H.tabs.keep (λk hk=> ?_);have hb:=H.base;rw [hne k (by have:=H.old;omega),hg.block k (by have:=H.tabs.size;omega) (λe=>by have:=(H.hts.lt k e.symm).1;omega)]
 ·exact (show w3.os=_ from hg.os).trans hW1.os
 ·exact (show w3.tape=_ from hg.tape).trans hW1.tape
 ·exact (show w3.output=_ from hg.output).trans hW1.output
 ·have h1:=hW1.size;have h2:=hg.size;simp [World.setCell];omega
 ·intro k hk h1 h2 h4;rw [hne k h1,hg.block k (by have:=hW1.size;omega) (λe=>h4 e.symm),hW1.block k hk]
 ·exact λk hk=>.inl hk
 ·exact hat
def Zu (B g:Nat) (L:List Tk) (w:World) (R:Bx) (d:Nat) (s:PS):Prop:= ∃p l,Km B g L w R p (d:Int) l s.h 0 0/\s.r=L.drop p/\s.l=l.map bare
theorem Km.foreign {B g:Nat} {L:List Tk} {w:World} {R:Bx} {p:Nat} {d e q:Int} {l:List Nd} {h:List Nat} {W1 w':World} {v:Value} {B' n:Nat} {xs:List Value} (H0:Km B g L w R p d l h e q) (hW1:Below w.heap.size w W1) (hv:W1.ownsRow B' 3 1 v n xs) (hB':Vw<=B') (hz: ∀k,v.ownBlock=some k->R.Z k) (hg:W1.grownBy w' v.ownBlock):Km B g L w' R p d l h e q:=by
 have H:=H0.below hW1;obtain ⟨cs,fz,hty⟩:=H.ty;have hgv:v.ownBlock≠some g:=Yr hv H.box (by decide);have Po:v.ownBlock≠some R.tb:=Yr hv hty (by decide);have htb:w'.heap[R.tb]? =W1.heap[R.tb]?:=hg.block R.tb H.Jh (λe=>Po e.symm);have hne: ∀{u:Value},(∀k,R.Z k->u.ownBlock≠some k)->u.ownBlock=none\/u.ownBlock≠v.ownBlock:=by
  intro u hu;cases hb:u.ownBlock with
  |none=>exact .inl rfl
  |some b=>exact .inr (λe=>hu b (hz b e.symm) hb)
 have hlow: ∀k,k<Vw->w'.heap[k]? =W1.heap[k]?:=by intro k hk;exact hg.block k (by have:=H.tabs.size;omega) (λe=>by have:=(hv.lt k e.symm).1;omega)
 refine ⟨⟨H.box.block (hg.block g H.box.lt (λe=>hgv e.symm)),H.toks.block htb,Fe H.Jh hg.size,H.told,⟨cs,fz,htb.trans hty⟩,World.ownsRow.kept H.own hg (Nr H.own hv (by decide)),World.ownsRow.kept H.hts hg (hne (λk hk=>(H.zone k hk).2.1)),λx hx=>World.ownsRow.kept (H.kids x hx) hg (hne (λk hk=>(H.zone k hk).2.2 x hx)),H.off,H.old,H.fin,H.many,H.tabs.keep hlow,H.base,λk hk=>⟨Fe (H.zone k hk).1 hg.size,(H.zone k hk).2⟩⟩,H.len,H.here,H.few,H.low⟩
theorem Km.less {B g:Nat} {L:List Tk} {w:World} {R:Bx} {p:Nat} {d e q:Int} {l:List Nd} {h:List Nat} (H:Km B g L w R p d l h e q) (Z':Nat->Prop) (hz: ∀k,Z' k->R.Z k):Km B g L w {R with Z:=Z'} p d l h e q:=
 ⟨⟨H.box,H.toks,H.Jh,H.told,H.ty,H.own,H.hts,H.kids,H.off,H.old,H.fin,H.many,H.tabs,H.base,λk hk=>H.zone k (hz k hk)⟩,H.len,H.here,H.few,H.low⟩
theorem Km.wider {B g:Nat} {L:List Tk} {w w':World} {R:Bx} {p:Nat} {d e q:Int} {l:List Nd} {h:List Nat} (H:Km B g L w R p d l h e q) (H':Km B g L w' R p d l h e q) (Z':Nat->Prop) (hz: ∀k,Z' k->R.Z k\/(w.heap.size<=k/\k<w'.heap.size)):Km B g L w' {R with Z:=Z'} p d l h e q:=by
 refine ⟨⟨H'.box,H'.toks,H'.Jh,H'.told,H'.ty,H'.own,H'.hts,H'.kids,H'.off,H'.old,H'.fin,H'.many,H'.tabs,H'.base,λk hk=> ?_⟩,H'.len,H'.here,H'.few,H'.low⟩;rcases hz k hk with h1 |⟨h1,h2⟩
 ·exact H'.zone k h1
 ·exact ⟨h2,λe=>by have:=(H.hts.lt k e).2;omega,λx hx e=>by have:=((H.kids x hx).lt k e).2;omega⟩
theorem Zu.tok {B g:Nat} {L:List Tk} {w:World} {R:Bx} {d:Nat} {s:PS} (H:Zu B g L w R d s): ∃p l,Km B g L w R p (d:Int) l s.h 0 0/\s.r=L.drop p/\s.l=l.map bare/\L[p]? =some s.tok/\s.next.r=L.drop (p+1):=by
 obtain ⟨p,l,h,hr,hl⟩:=H;obtain ⟨t,h1,h2⟩:=Qd4 h.here;refine ⟨p,l,h,hr,hl,?_,?_⟩
 ·unfold PS.tok;rw [hr,h2];exact h1
 ·show s.r.tail=_;rw [hr,h2];rfl
theorem QCore.c0 {B g:Nat} {L:List Tk} {w:World} {R:Bx} {p:Nat} {d e q:Int} {l:List Nd} {h:List Nat} (H:QCore B g L w R p d l h e q):w.cell? ⟨g,0,none⟩=some (.slice (some ⟨R.tb,0,none⟩) L.length R.tc):=H.box.at_ rfl
theorem QCore.c1 {B g:Nat} {L:List Tk} {w:World} {R:Bx} {p:Nat} {d e q:Int} {l:List Nd} {h:List Nat} (H:QCore B g L w R p d l h e q):w.cell? ⟨g,1,none⟩=some (.int .i64 (p:Int)):=H.box.at_ rfl
theorem QCore.c2 {B g:Nat} {L:List Tk} {w:World} {R:Bx} {p:Nat} {d e q:Int} {l:List Nd} {h:List Nat} (H:QCore B g L w R p d l h e q):w.cell? ⟨g,2,none⟩=some (.int .i64 d):=H.box.at_ rfl
theorem QCore.c3 {B g:Nat} {L:List Tk} {w:World} {R:Bx} {p:Nat} {d e q:Int} {l:List Nd} {h:List Nat} (H:QCore B g L w R p d l h e q):w.cell? ⟨g,3,none⟩=some R.vn:=H.box.at_ rfl
theorem QCore.c4 {B g:Nat} {L:List Tk} {w:World} {R:Bx} {p:Nat} {d e q:Int} {l:List Nd} {h:List Nat} (H:QCore B g L w R p d l h e q):w.cell? ⟨g,4,none⟩=some R.vh:=H.box.at_ rfl
theorem QCore.c5 {B g:Nat} {L:List Tk} {w:World} {R:Bx} {p:Nat} {d e q:Int} {l:List Nd} {h:List Nat} (H:QCore B g L w R p d l h e q):w.cell? ⟨g,5,none⟩=some (.int .i64 e):=H.box.at_ rfl
theorem QCore.c6 {B g:Nat} {L:List Tk} {w:World} {R:Bx} {p:Nat} {d e q:Int} {l:List Nd} {h:List Nat} (H:QCore B g L w R p d l h e q):w.cell? ⟨g,6,none⟩=some (.int .i64 q):=H.box.at_ rfl
variable {B g:Nat}{L:List Tk}{w w':World}{R R':Bx}{d:Nat}{o o':Except Qq PS}
def Eu (B g:Nat) (L:List Tk) (w:World) (R:Bx) (f:Qq):Prop:= ∃p l h,∃dd:Int,Km B g L w R p dd l h (f.1:Int) (f.2:Int)/\f.1≠0
def Qw (B g:Nat) (L:List Tk) (w:World) (R:Bx) (d:Nat):Except Qq PS->Prop
 | .ok s=>Zu B g L w R d s
 | .error f=>Eu B g L w R f
theorem Qw.core (H:Qw B g L w R d o): ∃p l h dd e q,Km B g L w R p dd l h e q:=by
 cases o with
 |ok s=>obtain ⟨p,l,h,_⟩:=H;exact ⟨_,_,_,_,_,_,h⟩
 |error f=>obtain ⟨p,l,h,dd,H,_⟩:=H;exact ⟨_,_,_,_,_,_,H⟩
theorem Qw.map {w':World} {R':Bx} (H:Qw B g L w R d o) (h: ∀p dd l h e q,Km B g L w R p dd l h e q->Km B g L w' R' p dd l h e q):Qw B g L w' R' d o:=by
 cases o with
 |ok s=>obtain ⟨p,l,H,r⟩:=H;exact ⟨p,l,h _ _ _ _ _ _ H,r⟩
 |error f=>obtain ⟨p,l,hh,dd,H,r⟩:=H;exact ⟨p,l,hh,dd,h _ _ _ _ _ _ H,r⟩
theorem Qw.below (H:Qw B g L w R d o) (hb:Below w.heap.size w w'):Qw B g L w' R d o:=H.map λ_ _ _ _ _ _ h=>h.below hb
theorem Qw.less (H:Qw B g L w R d o) (Z':Nat->Prop) (hz: ∀k,Z' k->R.Z k):Qw B g L w {R with Z:=Z'} d o:=H.map λ_ _ _ _ _ _ h=>h.less Z' hz
theorem Qw.wider {B' n:Nat} {W1:World} {v:Value} {xs:List Value} (H:Qw B g L w R d o) (hW1:Below w.heap.size w W1) (hv:W1.ownsRow B' 3 1 v n xs) (hB':Vw<=B') (hz: ∀k,v.ownBlock=some k->R.Z k) (hg:W1.grownBy w' v.ownBlock) (Z':Nat->Prop) (hz': ∀k,Z' k->R.Z k\/(w.heap.size<=k/\k<w'.heap.size)):Qw B g L w' {R with Z:=Z'} d o:=
 H.map λ_ _ _ _ _ _ h=>h.wider (h.foreign hW1 hv hB' hz hg) Z' hz'
theorem Qw.widen (H:Qw B g L w R d o) (hW1:Below w.heap.size w w') (Z':Nat->Prop) (hz': ∀k,Z' k->R.Z k\/(w.heap.size<=k/\k<w'.heap.size)):Qw B g L w' {R with Z:=Z'} d o:=
 H.wider (B':=Vw) (n:=0) (xs:=[]) (v:=.slice none 0 0) hW1 ⟨rfl,.inl ⟨rfl,rfl⟩⟩ (Qh _) (λk hk=>by simp [Value.ownBlock]at hk) (Q7v _ _) Z' hz'
theorem Qw.tabs (H:Qw B g L w R d o):Co w:=by obtain ⟨p,l,hh,dd,e,q,H⟩:=H.core;exact H.tabs
theorem Qw.Uf (H:Qw B g L w R d o) (F:Fr g w w' R R'):Below B w w':=by obtain ⟨p,l,hh,dd,e,q,H⟩:=H.core;exact H.toQCore.Uf F
theorem Qw.many (H:Qw B g L w R d o):L.length<=100000:=by obtain ⟨p,l,hh,dd,e,q,H⟩:=H.core;exact H.many
theorem Qw.held {G:Nat} {t:TypeId} {cs:Array Value} (H:Qw B g L w R d o) (F:Fr g w w' R R') (h:Held w G t cs) (h1:t≠67) (h2:t≠3) (hv:R.vn.ownBlock≠some G):Held w' G t cs:=by
 obtain ⟨p,l,hh,dd,e,q,H⟩:=H.core;refine h.block (F.block G h.lt ?_ hv (Yr H.hts h (λe=>h2 e.symm)));intro e;subst e;have h4:w.heap[G]? =_:=H.box;have h5:w.heap[G]? =_:=h;rw [h4]at h5;injection h5 with h6
 injection h6 with _ h7
 exact h1 h7.symm
theorem Qw.Lj {G:Nat} {t:TypeId} {cs:Array Value} (H:Qw B g L w R d o) (h:Held w G t cs) (h2:t≠37):R.vn.ownBlock≠some G:=by obtain ⟨p,l,hh,dd,e,q,H⟩:=H.core;exact Yr H.own h (λe=>h2 e.symm)
theorem Qw.Qq1 {v:Value} {acc:List Int} {B1:Nat} (h:Now B1 w v acc) (H:Qw B g L w R d o) (hz: ∀k,v.ownBlock=some k->R.Z k) (F:Fr g w w' R R'):Now B1 w' v acc:=by
 obtain ⟨p,l,hh,dd,e,q,H⟩:=H.core;refine h.Qt2 (λk hk=> ?_);have hlt:=(World.ownsRow.lt h k hk).2;refine F.block k hlt ?_ ?_ ((H.zone k (hz k hk)).2.1)
 ·intro e;subst e;exact Yr h H.box (by decide) hk
 ·intro e;rcases Nr h H.own (by decide)with h1 |h1
  ·rw [h1]at hk;cases hk
  ·exact h1 (hk.trans e.symm)
theorem Zu.some {s:PS} (H:Zu B g L w R d s):0<s.r.length:=by obtain ⟨p,l,h,hr,hl⟩:=H;have:=h.here;rw [hr,Vf];omega
def Y7 (g n:Nat) (w:World):Nat:=match w.cell? ⟨g,5,none⟩,w.cell? ⟨g,1,none⟩with
 |some (.int _ e),some (.int _ p)=>if e=0 then n-p.toNat else 0
 |_,_=>0
theorem Zu.Y7 {s:PS} (H:Zu B g L w R d s):Y7 g L.length w=s.r.length:=by obtain ⟨p,l,h,hr,hl⟩:=H;unfold Go.Proofs.YtdncpkkhkbijfaaGreatDoor.Y7;rw [h.c5,h.c1];show (if (0:Int)=0 then _ else _)=_;rw [Qk rfl,hr,Vf];rfl
theorem Eu.Y7 {f:Qq} (H:Eu B g L w R f):Y7 g L.length w=0:=by obtain ⟨p,l,h,dd,H,hf⟩:=H;unfold Go.Proofs.YtdncpkkhkbijfaaGreatDoor.Y7;rw [H.c5,H.c1];show (if (f.1:Int)=0 then _ else _)=_;rw [Qd (by omega)]
end
end Go.Proofs.YtdncpkkhkbijfaaGreatDoor
