import Derived.Test.YtdncpkkhkbijfaaGreatDoorBa14
import Derived.Deep.RegionLaw
import Derived.Deep.AppendLies
open Go.Proofs.Tryz
set_option linter.all false
set_option maxHeartbeats 0
set_option maxRecDepth 100000
namespace Go.Proofs.YtdncpkkhkbijfaaGreatDoor
section
open Go.RowKit
variable {B g:Nat}{L:List Tk}{w:World}{R:Bx}{p:Nat}{d e q:Int}{l:List Nd}{h:List Nat}
theorem Q22 {h:List Nat} (hl: ∀x∈h,x<=200) {a:Nat} (ha:a<=201) (k:Int):hstep h a k<=201:=by
 unfold hstep;split
 ·rename_i hk;have:h.getD k.toNat 0<=200:=by rw [Yc,Y3 (by omega)];exact hl _ (F5 _)
  omega
 ·exact ha
theorem Q4x {xs:List Int} {f:Nat->Int->Nat} {a i:Nat} (hi:i<xs.length):(xs.take (i+1)).foldl f a=f ((xs.take i).foldl f a) (xs.getD i 0):=by rw [Wnb xs i hi,List.foldl_append];rfl
def Laid (B g:Nat) (L:List Tk) (w:World) (R:Bx) (p:Nat) (d:Int) (l:List Nd) (h:List Nat) (q:Int) (x:Nd) (en:Ending) (w':World):Prop:=
 (high h x.kids<=200/\en= .returned (.int .i64 (l.length:Int))/\ ∃R' y,R'.Z=R.Z/\bare y=bare x/\Rd B g L w' R' p d (l++[y]) (h++[high h x.kids]) 0 q/\Fr g w w' R R')\/
 (200<high h x.kids/\en= .returned (.int .i64 (-1))/\Turned B g L w R p d l h 4 x.at_ w')
theorem Whw (c0 c1 c2 c3 c4:Value) (H:Rd B g L w R p d l h e q) (he:e≠0):
  Calls prog 63 #[.pointer (some ⟨g,0,none⟩),.agg #[c0,c1,c2,c3,c4]] w λen w'=>en= .returned (.int .i64 (-1))/\Below w.heap.size w w':=by
 have HH:=Qa H;have HE:=Qa he;clear H he;go_enter func63,ntmps63;rw [Qz 1];go_wp2_with fail;obtain ⟨W,hW⟩:=Qb (w.alloc (.cells #[c0,c1,c2,c3,c4] 37));have HB:Hid (Below w.heap.size w W):=by rw [hW];exact Qag
 rw [<-hW];clear hW;refine Qn ?_;go_wp2_with fail;refine (Qe3 (HH.out.below HB.out) HE.out).mono ?_;rintro en w1 ⟨rfl,hw1⟩;rw [hw1];clear hw1 w1;go_wp2_with fail;go_ret;exact ⟨rfl,HB.out⟩
theorem Wan {B':Nat} (x:Nd) (H:Rd B g L w R p d l h 0 q) (hk:Now B' w (Y5 x) x.kids) (hf:l.length<=p) (hn:x.kids.length<=100000):
  Calls prog 63 #[.pointer (some ⟨g,0,none⟩),.agg #[.int .i64 x.kind,.slice x.ka x.kids.length x.kc,.int .i64 x.n,.string x.s,.int .i64 x.at_]] w (Laid B g L w R p d l h q x):=by
 have hpm:p<100000:=by have:=H.here;have:=H.many;omega
 have hlen:=H.len;have HH:=Qa H;have HK:=Qa hk;have Qee:=Qa H.low;have HLEN:=Qa hlen;obtain ⟨ka,cap,hkv,hrow,_⟩:=hk.shape;have hka:x.ka=ka:=by unfold Y5 at hkv;injection hkv
 rw [<-hka]at hrow;have Qed:=Qa hrow;obtain ⟨ha,hc,I7,hhr,_⟩:=H.hts.shape;rw [Zr]at I7 hhr;have Rv:=Qa I7;have HHR:=Qa hhr;clear H hk hkv hrow hka I7 hhr hlen;obtain ⟨M,hM⟩:=Qb x.kids.length;rw [<-hM]at hn Qed ⊢;have HM:=Qa hM;clear hM;obtain ⟨hl,hhl⟩:=Qb h.length;rw [<-hhl]at Rv HHR;have HHL:=Qa hhl;have Qrs:hl<=100000:=by have:=HLEN.out;omega
 clear hhl;obtain ⟨Z,hZ⟩:=Qb (high h x.kids);have HZ:Hid (Z=x.kids.foldl (hstep h) 1):=hZ;have HZ':=Qa hZ;clear hZ;go_enter func63,ntmps63;rw [Qz 1,Qz 13,Qz 16];go_wp2_with fail;obtain ⟨W,hW⟩:=Qb (w.alloc (.cells #[.int .i64 x.kind,.slice x.ka M x.kc,.int .i64 x.n,.string x.s,.int .i64 x.at_] 37));have HB:Hid (Below w.heap.size w W):=by rw [hW];exact Qag
 obtain ⟨G,hG⟩:=Qb w.heap.size;have HG:Hid (Held W G 37 #[.int .i64 x.kind,.slice x.ka M x.kc,.int .i64 x.n,.string x.s,.int .i64 x.at_]):=by rw [hW,hG];exact Held.new _ _ _
 rw [<-hW,<-hG];have HGE:=Qa hG;clear hW hG;refine Qn ?_;go_wp2_with fail;refine (Ql8 (HH.out.below HB.out)).mono ?_;rintro en w1 ⟨rfl,hw1⟩;rw [hw1];clear hw1 w1;have z1:W.cell? ⟨G,1,none⟩=some (.slice x.ka M x.kc):=HG.out.at_ rfl;have c4:=(HH.out.below HB.out).c4;rw [Rv.out]at c4;go_wp2_with fail;go_loop [5,13] (λt5 t13=> ∃i a:Nat,i<=M/\a<=201/\t13= .int .i64 (i:Int)/\t5= .int .i64 (a:Int)/\Hid (a=(x.kids.take i).foldl (hstep h) 1)) (λ_ t13=>M-(intOf t13).toNat)
 case atStart=>exact ⟨0,1,by omega,by omega,rfl,rfl,rfl⟩
 case round=>
  obtain ⟨i,a,hi,ha1,rfl,rfl,HA⟩:=hrel;by_cases him:i<M
  ·have Qwo:(i:Int)<(M:Int):=(by omega);obtain ⟨kb,ko,hka,hkb,hkc⟩:=(Qed.out.below HB.out) (by omega);have hci:=hkc i him;simp only at hci;rw [hka]at z1 ⊢;have HX:Hid (i<x.kids.length):=(by show i<_;rw [<-HM.out];exact him);obtain ⟨k,hkk⟩:=Qb (x.kids.getD i 0);rw [<-hkk]at hci;have HKK:=Qa hkk;clear hkk hkc hka hkb;have HA2:Hid (hstep h a k=(x.kids.take (i+1)).foldl (hstep h) 1):=(by show _=_;rw [Q4x HX.out,<-HA.out,HKK.out]);have HA3:=Qa (Q22 Qee.out ha1 k);by_cases hk0:0<=k
   ·obtain ⟨u,rfl⟩: ∃u:Nat,k=u:=⟨k.toNat,by omega⟩;by_cases hkl:u<hl
    ·have Wga:(u:Int)<(hl:Int):=(by omega);obtain ⟨hb,ho,hha,hhb,hhc⟩:=(HHR.out.below HB.out) (by omega);have hcu:=hhc u hkl;simp only at hcu;obtain ⟨v,hv⟩:=Qb (h.getD u 0);have Oy:u<h.length:=(by rw [<-HHL.out];exact hkl);have hv2:(h.map Int.ofNat).getD u 0=(v:Int):=by rw [hv,Yc,Ng,Y3 Oy,Yc,Y3 Oy];rfl
     rw [hv2]at hcu;have hvl:v<=200:=by rw [hv,Yc,Y3 Oy];exact Qee.out _ (F5 _)
     have HS:Hid (hstep h a (u:Int)=max a (v+1)):=by show hstep h a (u:Int)=max a (v+1);unfold hstep;rw [Qk ⟨by omega,by omega⟩,hv];rfl
     rw [hha]at c4;clear hv hv2 Oy hhc hha hhb;rcases (show a<v+1\/v+1<a\/a=v+1 by omega)with hlt |hgt |heq
     ·go_wp2_with fail;go_round
      case rel=>exact ⟨i+1,v+1,by omega,by omega,by go_num,by go_num,(by show _=_;rw [<-HA2.out,HS.out];omega)⟩
      case measure=>simp [intOf];omega
     ·go_wp2_with fail;go_round
      case rel=>exact ⟨i+1,a,by omega,by omega,by go_num,by go_num,(by show _=_;rw [<-HA2.out,HS.out];omega)⟩
      case measure=>simp [intOf];omega
     ·subst heq;go_wp2_with fail;go_round
      case rel=>exact ⟨i+1,v+1,by omega,by omega,by go_num,by go_num,(by show _=_;rw [<-HA2.out,HS.out];omega)⟩
      case measure=>simp [intOf];omega
    ·have Wga: ¬(u:Int)<(hl:Int):=(by omega);have HS:Hid (hstep h a (u:Int)=a):=by show hstep h a (u:Int)=a;unfold hstep;rw [Qd (by have:=HHL.out;omega)]
     go_wp2_with fail;go_round
     case rel=>exact ⟨i+1,a,by omega,by omega,by go_num,rfl,(by show _=_;rw [<-HA2.out,HS.out])⟩
     case measure=>simp [intOf];omega
   ·have HS:Hid (hstep h a k=a):=by show hstep h a k=a;unfold hstep;rw [Qd (by omega)]
    go_wp2_with fail;go_round
    case rel=>exact ⟨i+1,a,by omega,by omega,by go_num,rfl,(by show _=_;rw [<-HA2.out,HS.out])⟩
    case measure=>simp [intOf];omega
  ·obtain ⟨ei⟩:Nonempty (i=M):=⟨by omega⟩;have HAZ:Hid (a=Z):=by show a=Z;rw [HA.out,HZ.out,ei,HM.out,List.take_length]
   clear ei;by_cases hbig:200<a
   ·have Qrt:(200:Int)<(a:Int):=(by omega);have z4:W.cell? ⟨G,4,none⟩=some (.int .i64 x.at_):=HG.out.at_ rfl;go_wp2_with fail;refine (Qh6 4 x.at_ (by decide) (HH.out.below HB.out)).mono ?_;rintro en w3 ⟨⟨v,rfl⟩,hb3⟩;have HB3:=Qa ((Turned.of_below HH.out HB.out).then hb3);clear hb3;go_wp2_with fail;go_ret;exact .inr ⟨by rw [<-HZ'.out,<-HAZ.out];exact hbig,rfl,HB3.out⟩
   ·have Qrt: ¬(200:Int)<(a:Int):=(by omega);go_wp2_with fail;refine Qn ?_;have hKW:W.ownsRow B' 3 1 (.slice x.ka M x.kc) M (x.kids.map (Value.int .i64)):=by have h1:=Dr HK.out HB.out;unfold Y5 at h1;rw [<-HM.out]at h1;exact h1
    have R9:=Qa hKW;clear hKW z1 c4;have z1:W.cell? ⟨G,1,none⟩=some (.slice x.ka M x.kc):=HG.out.at_ rfl;have zf:=HG.out.frozen 1;go_wp2_with fail;refine (Q4y W R9.out (by omega) (ints_oneCell _ _)).mono ?_;rintro en w1 ⟨v1,rfl,hown1,hb1⟩;obtain ⟨Rj,P9,rfl⟩:=Zq hown1;have Vu:=Qa (HG.out.since hb1);have Xq:=Qa hown1;have HB1:=Qa hb1;clear hown1 hb1 z1 zf;have z1:w1.cell? ⟨G,1,none⟩=some (.slice x.ka M x.kc):=Vu.out.at_ rfl;have zf:=Vu.out.frozen 1;go_wp2_with fail;obtain ⟨W2,hW2⟩:=Qb (w1.setCell ⟨G,1,none⟩ (.slice Rj M P9));have HG2:Hid (Held W2 G 37 #[.int .i64 x.kind,.slice Rj M P9,.int .i64 x.n,.string x.s,.int .i64 x.at_]):=(by rw [hW2];exact Vu.out.set 1 _);have HB2:Hid (Below w.heap.size w W2):=by rw [hW2];exact (Z4 HB.out HB1.out).setCell (p:=⟨G,1,none⟩) (by show _<=G;rw [HGE.out];exact Qh _) _
    have X4:Hid (W2.ownsRow W.heap.size 3 1 (.slice Rj M P9) M (x.kids.map (Value.int .i64))):=by rw [hW2];exact World.ownsRow.kept Xq.out (Gv _ _ _ _) (.inr (Yr Xq.out Vu.out (by decide)))
    rw [<-hW2];obtain ⟨y,hy⟩:=Qb (⟨x.kind,Rj,P9,x.kids,x.n,x.s,x.at_⟩:Nd);have HYC:Hid (y.cs.toList=[.int .i64 x.kind,.slice Rj M P9,.int .i64 x.n,.string x.s,.int .i64 x.at_]):=(by rw [hy,HM.out];rfl);have HYB:Hid (bare y=bare x):=(by rw [hy];rfl);have HYV:Hid (Y5 y= .slice Rj M P9):=(by rw [hy,HM.out];rfl);have HYK:Hid (y.kids=x.kids):=(by show y.kids=x.kids;rw [hy]);clear hy hW2 z1 zf Xq Vu HB1;have HWB:Hid (B<=W.heap.size):=(by have h1:=HH.out.old;have h2:=HH.out.box.lt;have h3:=HB.out.size;show B<=_;omega);have Y1:=Qa (HH.out.toCore.below HB2.out);have HNK:Hid (Now B W2 (Y5 y) y.kids):=by rw [HYV.out,HYK.out];show W2.ownsRow B _ 1 _ x.kids.length _;rw [<-HM.out];exact Qb1 X4.out HWB.out
    have Qdg:Hid ((Y5 y).ownBlock=none\/(Y5 y).ownBlock≠R.vh.ownBlock):=by
     rw [HYV.out];show _\/_;cases hb:(Value.slice Rj M P9).ownBlock with
     |none=>exact .inl rfl
     |some b=>
      right;intro e;have h1:=(X4.out.lt b hb).1;have h2:=(HH.out.hts.lt b e.symm).2;have h3:=HB.out.size;omega
    have Qty:Hid (∀k,R.Z k->(Y5 y).ownBlock≠some k):=by rw [HYV.out];intro k hk e;have h1:=(X4.out.lt k e).1;have h2:=(HH.out.zone k hk).1;have h3:=HB.out.size;omega
    have c3:=Y1.out.c3;have f3:=Y1.out.box.frozen 3;obtain ⟨vn,L6⟩:=Qb R.vn;have Qea:=Y1.out.own;rw [<-L6]at c3 Qea;have HOWN:=Qa Qea;have HVN:=Qa L6;have y0:W2.cell? ⟨G,0,none⟩=some (.int .i64 x.kind):=HG2.out.at_ rfl;have y1:W2.cell? ⟨G,1,none⟩=some (.slice Rj M P9):=HG2.out.at_ rfl;have y2:W2.cell? ⟨G,2,none⟩=some (.int .i64 x.n):=HG2.out.at_ rfl;have y3:W2.cell? ⟨G,3,none⟩=some (.string x.s):=HG2.out.at_ rfl;have y4:W2.cell? ⟨G,4,none⟩=some (.int .i64 x.at_):=HG2.out.at_ rfl;have hB2:B<=W2.heap.size:=(by have h1:=HWB.out;have h2:=HB2.out.size;have h3:=HH.out.box.lt;have h4:=HH.out.old;omega);have Uz:g<W2.heap.size:=Y1.out.box.lt;have Qrk:G<W2.heap.size:=HG2.out.lt;clear Qea L6;obtain ⟨i0,hi0,hz0,hz1,hz2⟩:=info_parts Qvm;have HI0:=Qa hi0;have HZ0:=Qa hz0;have HZ1:=Qa hz1;have HZ2:=Qa hz2;clear hi0 hz0 hz1 hz2;go_region_law ((refine step_append_lies _ (by rfl) _ _ _ (by rfl) B 37 i0 (.agg #[.int .i64 0,.slice none 0 0,.int .i64 0,.string ⟨#[]⟩,.int .i64 0]) 5 64 underlying22 HI0.out HZ0.out HZ1.out HZ2.out rfl (by omega) vn l.length (Ay l) (by rfl) ((HOWN.out.alloc _).drew) ⟨W2.heap.size,0,none⟩ 1 1 [.int .i64 x.kind,.slice Rj M P9,.int .i64 x.n,.string x.s,.int .i64 x.at_] (by rfl) (by rfl) (World.news_of_block (cs:= #[.int .i64 x.kind,.slice Rj M P9,.int .i64 x.n,.string x.s,.int .i64 x.at_]) (t:=37) (fr:=(0,0)) (heap_alloc_new W2 _)) (by simp [Value.oneCell']) (by omega) (by unfold maxLen;omega) (by omega) (by simp;omega) (W2.heap.size+1) (by simp) ?_;intro gg cap w3 hown3 hgrow hat hlt;have V5:=Qa hgrow;have Ab:=Qa hown3;have HAT:=Qa hat;have hbx:=Y1.out.box.block (w':=w3) ((hgrow.block g (by have:=Y1.out.box.lt;simp;omega) (λe=>Yr HOWN.out Y1.out.box (by decide) e.symm)).trans (heap_alloc_old W2 _ Y1.out.box.lt));have b3:w3.cell? ⟨g,3,none⟩=some R.vn:=hbx.at_ rfl;have f3:=hbx.frozen 3;clear hbx hown3 hgrow hat hlt))
    all_goals
     have hPN:=Y1.out.node (W1:=(W2.alloc (.cells #[.int .i64 x.kind,.slice Rj M P9,.int .i64 x.n,.string x.s,.int .i64 x.at_] 37)).drew) (y:=y) (v3:=.slice (some ⟨gg,0,none⟩) (l.length+1) cap) Qag.drew (by rw [HYC.out];exact Ab.out) (by rw [<-HVN.out];exact V5.out) (λk hk=>by
      have e:gg=k:=(by simpa [Value.ownBlock] using hk);subst e;rcases HAT.out with h1 |h1
      ·exact .inl (by rw [<-HVN.out];exact h1)
      ·exact .inr (by omega)) HNK.out Qdg.out Qty.out;obtain ⟨W4,Bt⟩:=Qb (w3.setCell ⟨g,3,none⟩ (.slice (some ⟨gg,0,none⟩) (l.length+1) cap));rw [<-Bt]at hPN ⊢;have Gd:=Qa hPN.1;have Ez:=Qa ((Fr.of_below R HB2.out).trans hPN.2);clear hPN Bt b3 f3 c3 y0 y1 y2 y3 y4 Uz Qrk V5 Ab HAT;have c4:=Gd.out.c4;have f4:=Gd.out.box.frozen 4;obtain ⟨vh,I7⟩:=Qb R.vh;have hHT:=Gd.out.hts;rw [<-I7]at c4 hHT;have HHT:=Qa hHT;have Fv:=Qa I7;have Uz:g<W4.heap.size:=Gd.out.box.lt;have hB4:B<=W4.heap.size:=(by have h4:=Gd.out.old;omega);clear hHT I7;have HHM:Hid ((h.map Int.ofNat).length<=100000):=(by show _<=_;rw [Zr,<-HHL.out];exact Qrs);rw [Rv.out]at Fv;go_wp2_with (at_builtin;refine Hf rfl (.tmp 63) (.tmp 65) rfl B W4 vh (h.map Int.ofNat) (a:Int) rfl rfl HHT.out hB4 (by have:=HHM.out;omega) ?_;intro v5 w5 Aj hg5 K8;have hbx:=Gd.out.box.block (w':=w5) ((hg5.block g (by simp;omega) (λe=>Yr HHT.out Gd.out.box (by decide) e.symm)).trans (heap_alloc_old W4 _ (by omega)));have b4:w5.cell? ⟨g,4,none⟩=some R.vh:=hbx.at_ rfl;have f4:=hbx.frozen 4;have HR5:=Qa Aj;have E8:=Qa hg5;have HW5:=Qa K8;obtain ⟨ga,gc,hv5⟩:=Zq Aj;rw [Qf,Zr,<-HHL.out,Yw]at hv5;subst hv5;clear hbx Aj hg5 K8);have hPH:=Gd.out.height (W1:=W4.alloc (.cells #[.int .i64 (a:Int)] 3)) (z:=a) (v3:=.slice ga (hl+1) gc) Qag (by rw [Zp];exact HR5.out) (by show World.grownBy _ _ R.vh.ownBlock;rw [Rv.out,<-Fv.out];exact E8.out) (λk hk=>by
      rcases HW5.out k hk with h1 |h1
      ·exact .inl (by show R.vh.ownBlock=_;rw [Rv.out,<-Fv.out];exact h1)
      ·exact .inr (by rw [h1];simp));obtain ⟨W6,Va⟩:=Qb (w5.setCell ⟨g,4,none⟩ (.slice ga (hl+1) gc));rw [<-Va]at hPH ⊢;have HC6:=Qa hPH.1;have Ph:=Qa (Ez.out.trans hPH.2);have c3:=HC6.out.c3;clear hPH Va b4 f4 c4 E8 HR5 HW5;simp only at c3;refine Qn ?_;go_wp2_with fail;go_ret;refine .inl ⟨by rw [<-HZ'.out,<-HAZ.out];omega,by first |rfl |(congr 2;omega),⟨R.tb,R.tc,.slice (some ⟨gg,0,none⟩) (l.length+1) cap,.slice ga (hl+1) gc,R.Z⟩,y,rfl,HYB.out,⟨?_,?_,HH.out.here,?_,?_⟩,Ph.out⟩
     ·rw [<-HZ'.out,<-HAZ.out];exact HC6.out
     ·rw [Qf,Qf,HLEN.out];rfl
     ·rw [Qf];show l.length+1<=p+1;omega
     ·intro u hu;rcases List.mem_append.1 hu with hu |hu
      ·exact Qee.out u hu
      ·rw [List.mem_singleton.1 hu,<-HZ'.out,<-HAZ.out];omega
end
section
open Go.RowKit
variable {B g:Nat}{L:List Tk}{w:World}{R:Bx}{d:Nat}{s:PS}{f:Qq}
theorem Ve {b:List UInt8} (h:s.is b=true):s.next.r.length+1=s.r.length:=by
 unfold PS.is PS.tok at h;cases hr:s.r with
 |nil=>rw [hr]at h;exact absurd rfl (Q2d h)
 |cons t r=>unfold PS.next;rw [hr];rfl
theorem Cr (h:s.tok.kind≠0):s.next.r.length+1=s.r.length:=by
 unfold PS.tok at h;cases hr:s.r with
 |nil=>rw [hr]at h;exact absurd rfl h
 |cons t r=>unfold PS.next;rw [hr];rfl
theorem Good.size (H:Good B g L w R d s):s.l.length+s.r.length<=L.length+1:=by obtain ⟨p,l,h,hr,hl⟩:=H;have:=h.few;have:=h.here;rw [hl,hr,Zr,Vf];omega
theorem Good.some (H:Good B g L w R d s):0<s.r.length:=by obtain ⟨p,l,h,hr,hl⟩:=H;have:=h.here;rw [hr,Vf];omega
theorem Qbx (H:Good B g L w R d s):
  Calls prog 61 #[.pointer (some ⟨g,0,none⟩)] w λen w'=>en= .returned (.agg #[.int .i64 (s.tok.kind:Int),.string ⟨s.tok.text.toArray⟩,.int .i64 (s.tok.n:Int),.int .i64 (s.tok.place:Int)])/\Below w.heap.size w w':=by
 obtain ⟨p,l,h,_,_,ht,_⟩:=H.tok;exact Qaz h ht
theorem Qki (H:Bad B g L w R d f):
  Calls prog 61 #[.pointer (some ⟨g,0,none⟩)] w λen w'=> ∃(k n a:Nat) (x:ByteArray),en= .returned (.agg #[.int .i64 (k:Int),.string x,.int .i64 (n:Int),.int .i64 (a:Int)])/\Below w.heap.size w w':=by
 obtain ⟨p,l,h,H,_⟩:=H;obtain ⟨t,ht,_⟩:=Qd4 H.here;exact (Qaz H ht).mono λen w' ⟨h1,h2⟩=>⟨_,_,_,_,h1,h2⟩
theorem Qhp (b:List UInt8) (H:Good B g L w R d s):
  Calls prog 59 #[.pointer (some ⟨g,0,none⟩),.string ⟨b.toArray⟩] w λen w'=>en= .returned (.bool (s.is b))/\Below w.heap.size w w':=by
 obtain ⟨p,l,h,_,_,ht,_⟩:=H.tok;exact Qp6 b h ht
theorem Qck (b:List UInt8) (H:Bad B g L w R d f):
  Calls prog 59 #[.pointer (some ⟨g,0,none⟩),.string ⟨b.toArray⟩] w λen w'=>en= .returned (.bool false)/\Below w.heap.size w w':=by
 obtain ⟨p,l,h,H,hf⟩:=H;exact Q2c b H (by omega)
theorem Wdu (H:Good B g L w R d s):
  Calls prog 98 #[.pointer (some ⟨g,0,none⟩)] w λen w'=>en= .returned (.bool true)/\Below w.heap.size w w':=by
 obtain ⟨p,l,h,_⟩:=H;exact Qq5 h
theorem Wfj (H:Bad B g L w R d f):
  Calls prog 98 #[.pointer (some ⟨g,0,none⟩)] w λen w'=>en= .returned (.bool false)/\Below w.heap.size w w':=by
 obtain ⟨p,l,h,H,hf⟩:=H;exact Qqv H (by omega)
theorem Good.Qny {p:Nat} {l:List Nd} {w':World} (hl:s.l=l.map bare) (hr:s.next.r=L.drop (p+1)) (H:Turned B g L w R (p+1) (d:Int) l s.h 0 0 w'):Good B g L w' R d s.next/\Fr g w w' R R:=
 ⟨⟨p+1,l,H.1,hr,hl⟩,H.2⟩
theorem Qbh (b:List UInt8) (H:Good B g L w R d s) (hs:s.is b=true):
  Calls prog 96 #[.pointer (some ⟨g,0,none⟩),.string ⟨b.toArray⟩] w λen w'=>en= .returned (.bool true)/\Good B g L w' R d s.next/\Fr g w w' R R:=by
 obtain ⟨p,l,h,_,hl,ht,hr⟩:=H.tok;exact (Qzi b h ht hs).mono λen w' ⟨h1,h2⟩=>⟨h1,Good.Qny hl hr h2⟩
theorem Qbi (b:List UInt8) (H:Good B g L w R d s) (hs:s.is b=false):
  Calls prog 96 #[.pointer (some ⟨g,0,none⟩),.string ⟨b.toArray⟩] w λen w'=>en= .returned (.bool false)/\Below w.heap.size w w':=by
 obtain ⟨p,l,h,_,hl,ht,hr⟩:=H.tok;exact Qwj b h ht hs
theorem Nz (b:List UInt8) (H:Bad B g L w R d f):
  Calls prog 96 #[.pointer (some ⟨g,0,none⟩),.string ⟨b.toArray⟩] w λen w'=>en= .returned (.bool false)/\Below w.heap.size w w':=by
 obtain ⟨p,l,h,H,hf⟩:=H;exact Q1f b H (by omega)
theorem Qj2 (b:List UInt8) (H:Good B g L w R d s) (hs:s.is b=true):
  Calls prog 97 #[.pointer (some ⟨g,0,none⟩),.string ⟨b.toArray⟩] w λen w'=>en= .returned (.bool true)/\Good B g L w' R d s.next/\Fr g w w' R R:=by
 obtain ⟨p,l,h,_,hl,ht,hr⟩:=H.tok;exact (Wqc b h ht hs).mono λen w' ⟨h1,h2⟩=>⟨h1,Good.Qny hl hr h2⟩
theorem Qg5 (b:List UInt8) (H:Good B g L w R d s) (hs:s.is b=false):
  Calls prog 97 #[.pointer (some ⟨g,0,none⟩),.string ⟨b.toArray⟩] w λen w'=>en= .returned (.bool false)/\Bad B g L w' R d (8,s.tok.place)/\Fr g w w' R R:=by
 obtain ⟨p,l,h,_,hl,ht,hr⟩:=H.tok;exact (Wca b h ht hs).mono λen w' ⟨h1,h2⟩=>⟨h1,⟨p,l,s.h,h2.1,by show 8≠0;decide⟩,h2.2⟩
theorem Qe4 (b:List UInt8) (H:Bad B g L w R d f):
  Calls prog 97 #[.pointer (some ⟨g,0,none⟩),.string ⟨b.toArray⟩] w λen w'=>en= .returned (.bool false)/\Below w.heap.size w w':=by
 obtain ⟨p,l,h,H,hf⟩:=H;exact Wiq b H (by omega)
theorem Q20 (H:Good B g L w R d s) (hs:s.tok.kind=1):
  Calls prog 127 #[.pointer (some ⟨g,0,none⟩)] w λen w'=>en= .returned (.string ⟨s.tok.text.toArray⟩)/\Good B g L w' R d s.next/\Fr g w w' R R:=by
 obtain ⟨p,l,h,_,hl,ht,hr⟩:=H.tok;exact (Wmz h ht hs).mono λen w' ⟨h1,h2⟩=>⟨h1,Good.Qny hl hr h2⟩
theorem Q6s (H:Good B g L w R d s) (hs:s.tok.kind≠1):
  Calls prog 127 #[.pointer (some ⟨g,0,none⟩)] w λen w'=>en= .returned (.string ⟨#[]⟩)/\Bad B g L w' R d (8,s.tok.place)/\Fr g w w' R R:=by
 obtain ⟨p,l,h,_,hl,ht,hr⟩:=H.tok;exact (Qvz h ht hs).mono λen w' ⟨h1,h2⟩=>⟨h1,⟨p,l,s.h,h2.1,by show 8≠0;decide⟩,h2.2⟩
theorem Qtv (H:Bad B g L w R d f):
  Calls prog 127 #[.pointer (some ⟨g,0,none⟩)] w λen w'=>en= .returned (.string ⟨#[]⟩)/\Below w.heap.size w w':=by
 obtain ⟨p,l,h,H,hf⟩:=H;exact Wau H (by omega)
theorem Qlu (a:Nat) (H:Good B g L w R d s) (hd:d<200):
  Calls prog 129 #[.pointer (some ⟨g,0,none⟩),.int .i64 (a:Int)] w λen w'=>en= .returned (.bool true)/\Good B g L w' R (d+1) s/\Fr g w w' R R:=by
 obtain ⟨p,l,h,hr,hl⟩:=H;exact (Wrn (a:Int) h (by omega)).mono λen w' ⟨h1,h2⟩=>⟨h1,⟨p,l,by have:=h2.1;exact this,hr,hl⟩,h2.2⟩
theorem Qm7 (a:Nat) (H:Good B g L w R d s) (hd:200<=d) (hd2:d<=1000):
  Calls prog 129 #[.pointer (some ⟨g,0,none⟩),.int .i64 (a:Int)] w λen w'=>en= .returned (.bool false)/\Bad B g L w' R (d+1) (4,a)/\Fr g w w' R R:=by
 obtain ⟨p,l,h,hr,hl⟩:=H;exact (Wq1 (a:Int) h (by omega)).mono λen w' ⟨h1,h2⟩=>⟨h1,⟨p,l,s.h,by have:=h2.1;exact this,by show 4≠0;decide⟩,h2.2⟩
theorem Qu7 (a:Nat) (H:Bad B g L w R d f) (hd2:d<=1000):
  Calls prog 129 #[.pointer (some ⟨g,0,none⟩),.int .i64 (a:Int)] w λen w'=>en= .returned (.bool false)/\Bad B g L w' R (d+1) f/\Fr g w w' R R:=by
 obtain ⟨p,l,h,H,hf⟩:=H;exact (Wnx (a:Int) H (by omega) (by omega)).mono λen w' ⟨h1,h2⟩=>⟨h1,⟨p,l,h,by have:=h2.1;exact this,hf⟩,h2.2⟩
theorem Qnm (H:Good B g L w R (d+1) s) (hd2:d<=1000):
  Calls prog 131 #[.pointer (some ⟨g,0,none⟩)] w λen w'=>(∃v,en= .returned v)/\Good B g L w' R d s/\Fr g w w' R R:=by
 obtain ⟨p,l,h,hr,hl⟩:=H;refine (Qy1 h (by omega)).mono λen w' ⟨h1,h2⟩=>⟨h1,⟨p,l,?_,hr,hl⟩,h2.2⟩;have:=h2.1;rw [show ((d+1:Nat):Int)-1=(d:Int) by omega]at this;exact this
theorem Pg (H:Bad B g L w R (d+1) f) (hd2:d<=1000):
  Calls prog 131 #[.pointer (some ⟨g,0,none⟩)] w λen w'=>(∃v,en= .returned v)/\Bad B g L w' R d f/\Fr g w w' R R:=by
 obtain ⟨p,l,h,H,hf⟩:=H;refine (Qy1 H (by omega)).mono λen w' ⟨h1,h2⟩=>⟨h1,⟨p,l,h,?_,hf⟩,h2.2⟩;have:=h2.1;rw [show ((d+1:Nat):Int)-1=(d:Int) by omega]at this;exact this
theorem Q6t (x a:Nat) (hx:x≠0) (H:Good B g L w R d s):
  Calls prog 60 #[.pointer (some ⟨g,0,none⟩),.int .i64 (x:Int),.int .i64 (a:Int)] w λen w'=>(∃v,en= .returned v)/\Bad B g L w' R d (x,a)/\Fr g w w' R R:=by
 obtain ⟨p,l,h,hr,hl⟩:=H;exact (Qh6 (x:Int) (a:Int) (by omega) h).mono λen w' ⟨h1,h2⟩=>⟨h1,⟨p,l,s.h,h2.1,hx⟩,h2.2⟩
def lam (g n:Nat) (w:World):Nat:=match w.cell? ⟨g,5,none⟩,w.cell? ⟨g,1,none⟩with
 |some (.int _ e),some (.int _ p)=>if e=0 then n-p.toNat else 0
 |_,_=>0
theorem Good.lam (H:Good B g L w R d s):lam g L.length w=s.r.length:=by obtain ⟨p,l,h,hr,hl⟩:=H;unfold Go.Proofs.YtdncpkkhkbijfaaGreatDoor.lam;rw [h.c5,h.c1];show (if (0:Int)=0 then _ else _)=_;rw [Qk rfl,hr,Vf];rfl
theorem Bad.lam (H:Bad B g L w R d f):lam g L.length w=0:=by obtain ⟨p,l,h,H,hf⟩:=H;unfold Go.Proofs.YtdncpkkhkbijfaaGreatDoor.lam;rw [H.c5,H.c1];show (if (f.1:Int)=0 then _ else _)=_;rw [Qd (by omega)]
theorem Good.held {w':World} {R':Bx} {G:Nat} {t:TypeId} {cs:Array Value} (H:Good B g L w R d s) (F:Fr g w w' R R') (h:Held w G t cs) (h1:t≠98) (h2:t≠37) (h3:t≠3):Held w' G t cs:=by
 obtain ⟨p,l,H,_⟩:=H;refine h.block (F.block G h.lt ?_ (Yr H.own h (λe=>h2 e.symm)) (Yr H.hts h (λe=>h3 e.symm)));intro e;subst e;have h4:w.heap[G]? =_:=H.box;have h5:w.heap[G]? =_:=h;rw [h4]at h5;injection h5 with h6
 injection h6 with _ h7
 exact h1 h7.symm
def Ends (B g:Nat) (L:List Tk) (w:World) (R:Bx) (d:Nat) (v:Out) (en:Ending) (w':World):Prop:=
 ∃R',Fr g w w' R R'/\R'.Z=R.Z/\((∃k s',v= .ok ([k],s')/\en= .returned (.int .i64 k)/\Good B g L w' R' d s')\/(∃f,v= .error f/\en= .returned (.int .i64 (-1))/\Bad B g L w' R' d f))
theorem Qey {B':Nat} (x:Nd) (a:Nat) (H:Good B g L w R d s) (hk:Now B' w (Y5 x) x.kids) (hf:s.l.length+s.r.length<=L.length) (hn:x.kids.length<=100000) (ha:x.at_=(a:Int)):
  Calls prog 63 #[.pointer (some ⟨g,0,none⟩),.agg #[.int .i64 x.kind,.slice x.ka x.kids.length x.kc,.int .i64 x.n,.string x.s,.int .i64 x.at_]] w (Ends B g L w R d (lay (bare x) s)):=by
 obtain ⟨p,l,h,hr,hl⟩:=H;have hh:=h.here;have hll:s.l.length=l.length:=by rw [hl,Zr]
 refine (Wan x h hk (by rw [hll,hr,Vf]at hf;omega) hn).mono ?_;rintro en w' (⟨h1,h2,R',y,hzz,hy,hR,hF⟩ |⟨h1,h2,hT⟩)
 ·refine ⟨R',hF,hzz,.inl ⟨(s.l.length:Int),⟨s.r,s.l++[bare x],s.h++[high s.h x.kids]⟩,?_,by rw [hll];exact h2,p,l++[y],hR,hr,?_⟩⟩
  ·unfold lay;rw [Qd (by show¬200<high s.h x.kids;omega)];rfl
  ·show s.l++[bare x]=_;rw [Zp,hl,<-hy];rfl
 ·refine ⟨R,hT.2,rfl,.inr ⟨(4,a),?_,h2,p,l,s.h,?_,by show 4≠0;decide⟩⟩
  ·unfold lay;rw [Qk (by show 200<high s.h x.kids;omega)];show Except.error (4,x.at_.toNat)=_;rw [ha];rfl
  ·have:=hT.1;rw [ha]at this;exact this
theorem Mx (c0 c1 c2 c3 c4:Value) (H:Bad B g L w R d f):
  Calls prog 63 #[.pointer (some ⟨g,0,none⟩),.agg #[c0,c1,c2,c3,c4]] w λen w'=>en= .returned (.int .i64 (-1))/\Below w.heap.size w w':=by
 obtain ⟨p,l,h,H,hf⟩:=H;exact Whw c0 c1 c2 c3 c4 H (by omega)
theorem Qex (w:World) (xs:List Int) (cs:Array Value) (hcs:cs=(xs.map (Value.int .i64)).toArray) (hx:xs.length<=100000) (n:Nat) (hn:n=xs.length):Now w.heap.size (w.alloc (.cells cs 3)) (.slice (some ⟨w.heap.size,0,none⟩) n n) xs:=by subst hn;refine ⟨by rw [Zr,Nat.mul_one],.inr ⟨w.heap.size,xs.length,cs,rfl,Qh _,Held.new w _ cs,Qh _,by unfold maxLen;omega,by rw [hcs];simp,by rw [hcs,Nat.mul_one];exact F6 (by simp)⟩⟩
end
section
open Go.RowKit
variable {B g:Nat}{L:List Tk}{w:World}{R:Bx}{d:Nat}{f:Qq}
theorem Waz (H:Bad B g L w R d f):
  Calls prog 158 #[.pointer (some ⟨g,0,none⟩)] w λen w'=>en= .returned (.int .i64 (-1))/\Below w.heap.size w w':=by
 have HH:=Qa H;clear H;go_enter func158,ntmps158;rw [Qz 2,Qz 14,Qz 20];go_wp2_with fail;refine (Qki HH.out).mono ?_;rintro en w1 ⟨K,N,A,X,rfl,hb1⟩;have HB1:=Qa hb1;clear hb1;go_wp2_with fail;obtain ⟨W,hW⟩:=Qb (w1.alloc (.cells #[.int .i64 (K:Int),.string X,.int .i64 (N:Int),.int .i64 (A:Int)] 69));obtain ⟨G,hG⟩:=Qb w1.heap.size;have HG:Hid (Held W G 69 #[.int .i64 (K:Int),.string X,.int .i64 (N:Int),.int .i64 (A:Int)]):=by rw [hW,hG];exact Held.new _ _ _
 have HB:Hid (Below w.heap.size w W):=by rw [hW];exact HB1.out.alloc HB1.out.size _
 rw [<-hW,<-hG];clear hW hG HB1;refine Qn ?_;go_wp2_with fail;refine (Qck lp (HH.out.below HB.out)).mono ?_;rintro en w2 ⟨rfl,hb⟩;replace HG:=Qa (HG.out.since hb);replace HB:=Qa (Z4 HB.out hb);clear hb;go_wp2_with fail;refine (Nz Bz (HH.out.below HB.out)).mono ?_;rintro en w3 ⟨rfl,hb⟩;replace HG:=Qa (HG.out.since hb);replace HB:=Qa (Z4 HB.out hb);clear hb;go_wp2_with fail;refine (Nz Cv (HH.out.below HB.out)).mono ?_;rintro en w4 ⟨rfl,hb⟩;replace HG:=Qa (HG.out.since hb);replace HB:=Qa (Z4 HB.out hb);clear hb;go_wp2_with fail;refine (Nz Di (HH.out.below HB.out)).mono ?_;rintro en w5 ⟨rfl,hb⟩;replace HG:=Qa (HG.out.since hb);replace HB:=Qa (Z4 HB.out hb);clear hb;go_wp2_with fail;refine (Nz Ky (HH.out.below HB.out)).mono ?_;rintro en w6 ⟨rfl,hb⟩;replace HG:=Qa (HG.out.since hb);replace HB:=Qa (Z4 HB.out hb);clear hb;go_wp2_with fail;refine (Nz Ah (HH.out.below HB.out)).mono ?_;rintro en w7 ⟨rfl,hb⟩;replace HG:=Qa (HG.out.since hb);replace HB:=Qa (Z4 HB.out hb);clear hb;go_wp2_with fail;refine Qn ?_;have z0:=HG.out.t0;by_cases hk:K=2
 ·have hk2:((K:Int)==2)=true:=by simp;omega
  go_wp2_with fail;refine (Wfj (HH.out.below HB.out)).mono ?_;rintro en Fg ⟨rfl,hb⟩;replace HG:=Qa (HG.out.since hb);replace HB:=Qa (Z4 HB.out hb);clear hb z0;go_wp2_with fail;refine (Qtv (HH.out.below HB.out)).mono ?_;rintro en Kk ⟨rfl,hb⟩;replace HG:=Qa (HG.out.since hb);replace HB:=Qa (Z4 HB.out hb);clear hb;go_wp2_with fail;refine (Qck lp (HH.out.below HB.out)).mono ?_;rintro en Mq ⟨rfl,hb⟩;replace HG:=Qa (HG.out.since hb);replace HB:=Qa (Z4 HB.out hb);clear hb;have z3:=HG.out.t3;go_wp2_with fail;refine Qn ?_;go_wp2_with fail;refine (Mx _ _ _ _ _ (HH.out.below HB.out)).mono ?_;rintro en w23 ⟨rfl,hb⟩;replace HB:=Qa (Z4 HB.out hb);clear hb;go_wp2_with fail;go_ret;exact ⟨rfl,HB.out⟩
 ·have hk2:((K:Int)==2)=false:=by simp;omega
  go_wp2_with fail;refine (Qtv (HH.out.below HB.out)).mono ?_;rintro en Kk ⟨rfl,hb⟩;replace HG:=Qa (HG.out.since hb);replace HB:=Qa (Z4 HB.out hb);clear hb;go_wp2_with fail;refine (Qck lp (HH.out.below HB.out)).mono ?_;rintro en Mq ⟨rfl,hb⟩;replace HG:=Qa (HG.out.since hb);replace HB:=Qa (Z4 HB.out hb);clear hb;have z3:=HG.out.t3;go_wp2_with fail;refine Qn ?_;go_wp2_with fail;refine (Mx _ _ _ _ _ (HH.out.below HB.out)).mono ?_;rintro en w23 ⟨rfl,hb⟩;replace HB:=Qa (Z4 HB.out hb);clear hb;go_wp2_with fail;go_ret;exact ⟨rfl,HB.out⟩
theorem Wka (H:Bad B g L w R d f):
  Calls prog 152 #[.pointer (some ⟨g,0,none⟩)] w λen w'=>en= .returned (.int .i64 (-1))/\Below w.heap.size w w':=by
 have HH:=Qa H;clear H;have HB:Hid (Below w.heap.size w w):=Below.refl _ _;go_enter func152,ntmps152;go_wp2_with fail;refine (Waz (HH.out.below HB.out)).mono ?_;rintro en w1 ⟨rfl,hb⟩;replace HB:=Qa (Z4 HB.out hb);clear hb;go_wp2_with fail;go_loopw [3] (λt3 wr=>wr=w1/\t3= .int .i64 (-1)) (λ_ _=>0)
 case atStart=>exact ⟨rfl,rfl⟩
 case round=>
  obtain ⟨rfl,rfl⟩:=hrel;go_wp2_with fail;refine (Qck lb (HH.out.below HB.out)).mono ?_;rintro en w2 ⟨rfl,hb⟩;replace HB:=Qa (Z4 HB.out hb);clear hb;go_wp2_with fail;go_ret;exact ⟨rfl,HB.out⟩
end
section
open Go.RowKit
variable {B g:Nat}{L:List Tk}{w:World}{R:Bx}{d:Nat}{f:Qq}{s:PS}
theorem Q12: ∀(j:Nat),j<2-> ∀(w:World),(Instr.index 160 (.agg Qqp) (.int .i64 (j:Int))).run prog w= .ok (.agg #[.string ⟨(if j=0 then minus else bang).toArray⟩,.int .i64 (if j=0 then 6 else 7)]) w
 | 0,_,w=>by kernel_rfl
 | 1,_,w=>by kernel_rfl
 |n+2,h,_=>by omega
theorem Bad.tabs (H:Bad B g L w R d f):Co w:=by obtain ⟨p,l,h,H,_⟩:=H;exact H.tabs
theorem Good.tabs (H:Good B g L w R d s):Co w:=by obtain ⟨p,l,H,_⟩:=H;exact H.tabs
theorem Q42 {w:World} (h:Co w) {lv:Nat} (hl:lv<5):w.cell? ⟨9,lv*3,none⟩=some (.int .i64 (Zx lv:Int))/\w.cell? ⟨9,lv*3+1,none⟩=some (.int .i64 (Ag lv:Int))/\w.cell? ⟨9,lv*3+2,none⟩=some (.bool (lv==2)):=by
 obtain ⟨t,fr,h⟩:=h.str;have e: ∀j,w.cell? ⟨9,j,none⟩=strCells[j]?:=λj=>by simp [World.cell?,h]
 rw [e,e,e]
 match lv,hl with
 | 0,_=>exact ⟨by kernel_rfl,by kernel_rfl,by kernel_rfl⟩
 | 1,_=>exact ⟨by kernel_rfl,by kernel_rfl,by kernel_rfl⟩
 | 2,_=>exact ⟨by kernel_rfl,by kernel_rfl,by kernel_rfl⟩
 | 3,_=>exact ⟨by kernel_rfl,by kernel_rfl,by kernel_rfl⟩
 | 4,_=>exact ⟨by kernel_rfl,by kernel_rfl,by kernel_rfl⟩
theorem Wg1: ∀op,op<17->Qv4[op]? =some (.string ⟨(Xu.getD op []).toArray⟩)
 | 0,_=>by kernel_rfl
 | 1,_=>by kernel_rfl
 | 2,_=>by kernel_rfl
 | 3,_=>by kernel_rfl
 | 4,_=>by kernel_rfl
 | 5,_=>by kernel_rfl
 | 6,_=>by kernel_rfl
 | 7,_=>by kernel_rfl
 | 8,_=>by kernel_rfl
 | 9,_=>by kernel_rfl
 | 10,_=>by kernel_rfl
 | 11,_=>by kernel_rfl
 | 12,_=>by kernel_rfl
 | 13,_=>by kernel_rfl
 | 14,_=>by kernel_rfl
 | 15,_=>by kernel_rfl
 | 16,_=>by kernel_rfl
 |n+17,h=>by omega
theorem Qvk {w:World} (h:Co w) {op:Nat} (hl:op<17):w.cell? ⟨10,op,none⟩=some (.string ⟨(Xu.getD op []).toArray⟩):=by
 obtain ⟨t,fr,h⟩:=h.sign;have e: ∀j,w.cell? ⟨10,j,none⟩=Qv4[j]?:=λj=>by simp [World.cell?,h]
 rw [e];exact Wg1 op hl
theorem Qxr {lv:Nat} (hl:lv<5):1<=Zx lv/\Zx lv<=Ag lv/\Ag lv<=16:=by
 match lv,hl with
 | 0,_=>decide
 | 1,_=>decide
 | 2,_=>decide
 | 3,_=>decide
 | 4,_=>decide
theorem Qzk (H:Bad B g L w R d f):
  Calls prog 143 #[.pointer (some ⟨g,0,none⟩)] w λen w'=>en= .returned (.int .i64 (-1))/\Below w.heap.size w w':=by
 have HH:=Qa H;clear H;have HB:Hid (Below w.heap.size w w):=Below.refl _ _;have Xp:=Xm;go_enter func143,ntmps143;rw [Qz 5];go_wp2_with fail;refine (Qki HH.out).mono ?_;rintro en w1 ⟨K,N,A,X,rfl,hb⟩;replace HB:=Qa (Z4 HB.out hb);clear hb;obtain ⟨tt,fr,hg⟩:=(HH.out.below HB.out).tabs.front;have HG:=Qa hg;clear hg;go_wp2_with (refine wpList_load_row rfl 160 _ rfl 13 rfl tt _ fr _ HG.out underlying160 rfl (by kernel_rfl) ?_);go_loopw [11] (λt11 wr=> ∃k:Nat,k<=2/\t11= .int .i64 (k:Int)/\Hid (Below w.heap.size w wr)) (λt11 _=>2-(intOf t11).toNat)
 case atStart=>exact ⟨0,by omega,rfl,HB⟩
 case round=>
  obtain ⟨k,hk,rfl,Ku⟩:=hrel;by_cases hlt:k<2
  ·have hix:=Q12 k hlt;obtain ⟨c,hc⟩:=Qb (if k=0 then minus else bang);obtain ⟨m,hm⟩:=Qb ((if k=0 then 6 else 7):Int);rw [<-hc,<-hm]at hix;clear hc hm;go_wp2_with fail;obtain ⟨W,hW⟩:=Qb (wr.alloc (.cells #[.string ⟨c.toArray⟩,.int .i64 m] 159));obtain ⟨G,hG⟩:=Qb wr.heap.size;have hH:Held W G 159 #[.string ⟨c.toArray⟩,.int .i64 m]:=(by rw [hW,hG];exact Held.new _ _ _);have z0:W.cell? ⟨G,0,none⟩=some (.string ⟨c.toArray⟩):=hH.at_ rfl;have HB2:Hid (Below w.heap.size w W):=(by rw [hW];exact Ku.out.alloc Ku.out.size _);rw [<-hW,<-hG];clear hW hG hH;refine Qn ?_;go_wp2_with fail;refine (Nz c (HH.out.below HB2.out)).mono ?_;rintro en w2 ⟨rfl,hb⟩;have HB3:=Qa (Z4 HB2.out hb);clear hb;go_wp2_with fail;go_roundw
   case rel=>exact ⟨k+1,by omega,by go_num,HB3⟩
   case measure=>simp [intOf];omega
  ·obtain rfl:k=2:=(by omega);go_wp2_with fail;refine (Wka (HH.out.below Ku.out)).mono ?_;rintro en w2 ⟨rfl,hb⟩;have HB3:=Qa (Z4 Ku.out hb);clear hb;go_wp2_with fail;go_ret;exact ⟨rfl,HB3.out⟩
theorem Wp7 (H:Bad B g L w R d f):
  Calls prog 128 #[.pointer (some ⟨g,0,none⟩),.int .i64 5] w λen w'=>en= .returned (.int .i64 (-1))/\Below w.heap.size w w':=by
 have HH:=Qa H;clear H;go_enter func128,ntmps128;go_wp2_with fail;go_step3;go_wp2_with fail;refine (Qzk HH.out).mono ?_;rintro en w2 ⟨rfl,hb⟩;have HB3:=Qa hb;clear hb;go_wp2_with fail
 try rw [Exit.noGoto_ret]
 go_ret;exact ⟨rfl,HB3.out⟩
theorem Wln (lv:Nat) (hlv:lv<5) (IH: ∀w,Bad B g L w R d f->Calls prog 128 #[.pointer (some ⟨g,0,none⟩),.int .i64 ((lv:Int)+1)] w λen w'=>en= .returned (.int .i64 (-1))/\Below w.heap.size w w') (H:Bad B g L w R d f):
  Calls prog 128 #[.pointer (some ⟨g,0,none⟩),.int .i64 (lv:Int)] w λen w'=>en= .returned (.int .i64 (-1))/\Below w.heap.size w w':=by
 have HH:=Qa H;have HIH:=Qa IH;obtain ⟨x0,x1,x2⟩:=Q42 H.tabs hlv;have Ip:=Qxr hlv;obtain ⟨o1,ho1⟩:=Qb (Zx lv);obtain ⟨o2,ho2⟩:=Qb (Ag lv);obtain ⟨once,hon⟩:=Qb (lv==2);rw [<-ho1]at x0 Ip;rw [<-ho2]at x1 Ip;rw [<-hon]at x2;clear H IH ho1 ho2 hon;obtain ⟨hq1,hq2,hq3⟩:=Ip;have hne:((lv:Int)==5)=false:=by simp;omega
 have Xp:=Xm;go_enter func128,ntmps128;rw [Qz 4];go_wp2_with fail;go_step3;go_wp2_with fail;obtain ⟨W,hW⟩:=Qb (w.alloc (.cells #[.int .i64 (o1:Int),.int .i64 (o2:Int),.bool once] 152));obtain ⟨G,hG⟩:=Qb w.heap.size;have HG:Hid (Held W G 152 #[.int .i64 (o1:Int),.int .i64 (o2:Int),.bool once]):=by rw [hW,hG];exact Held.new _ _ _
 have HB:Hid (Below w.heap.size w W):=by rw [hW];exact Qag
 rw [<-hW,<-hG];clear hW hG x0 x1 x2 hne;refine Qn ?_;go_wp2_with fail;refine (HIH.out W (HH.out.below HB.out)).mono ?_;rintro en w1 ⟨rfl,hb⟩;replace HG:=Qa (HG.out.since hb);replace HB:=Qa (Z4 HB.out hb);clear hb;go_wp2_with fail;go_step3;go_wp2_with fail;go_loopw [6] (λt6 wr=>t6= .int .i64 (-1)/\wr=w1) (λ_ _=>0)
 case atStart=>exact ⟨rfl,rfl⟩
 case round=>
  obtain ⟨rfl,rfl⟩:=hrel;go_wp2_with fail;refine (Qki (HH.out.below HB.out)).mono ?_;rintro en w2 ⟨K,N,A,X,rfl,hb⟩;replace HG:=Qa (HG.out.since hb);replace HB:=Qa (Z4 HB.out hb);clear hb;have z0:w2.cell? ⟨G,0,none⟩=some (.int .i64 (o1:Int)):=HG.out.at_ rfl;go_wp2_with fail;go_loopw [6,8] (λt6 t8 wr=> ∃k:Nat,t6= .int .i64 (-1)/\o1<=k/\k<=o2+1/\t8= .int .i64 (k:Int)/\Hid (Below w.heap.size w wr)/\Hid (Held wr G 152 #[.int .i64 (o1:Int),.int .i64 (o2:Int),.bool once])) (λ_ t8 _=>o2+1-(intOf t8).toNat)
  case atStart=>exact ⟨o1,rfl,by omega,by omega,rfl,HB,HG⟩
  case round=>
   obtain ⟨k,rfl,hk1,hk2,rfl,Ku,HGr⟩:=hrel;have z1:wr.cell? ⟨G,1,none⟩=some (.int .i64 (o2:Int)):=HGr.out.at_ rfl;clear z0;by_cases hlt:k<=o2
   ·have Qaf:(k:Int)<=(o2:Int):=(by omega);have c1:=Qvk (HH.out.below Ku.out).tabs (op:=k) (by omega);obtain ⟨c,hc⟩:=Qb (Xu.getD k []);rw [<-hc]at c1;clear hc;go_wp2_with fail;refine (Nz c (HH.out.below Ku.out)).mono ?_;rintro en w3 ⟨rfl,hb⟩;have HB3:=Qa (Z4 Ku.out hb);have V5:=Qa (HGr.out.since hb);clear hb;go_wp2_with fail;go_roundw
    case rel=>exact ⟨k+1,rfl,by omega,by omega,by go_num,HB3,V5⟩
    case measure=>simp [intOf];omega
   ·have Qaf: ¬(k:Int)<=(o2:Int):=(by omega);go_wp2_with fail
    try rw [Exit.noGoto_ret]
    go_ret;exact ⟨rfl,Ku.out⟩
theorem Wqp (lv:Nat) (hlv:lv<=5) (H:Bad B g L w R d f):
  Calls prog 128 #[.pointer (some ⟨g,0,none⟩),.int .i64 (lv:Int)] w λen w'=>en= .returned (.int .i64 (-1))/\Below w.heap.size w w':=by
 have key: ∀n,n<=5-> ∀w,Bad B g L w R d f->Calls prog 128 #[.pointer (some ⟨g,0,none⟩),.int .i64 ((5-n:Nat):Int)] w λen w'=>en= .returned (.int .i64 (-1))/\Below w.heap.size w w':=by
  intro n
  induction n with
  |zero=>intro _ w h;exact Wp7 h
  |succ n ih=>
   intro hn w h;refine Wln (5-(n+1)) (by omega) (λw' h'=> ?_) h;have:=ih (by omega) w' h';rw [show ((5-n:Nat):Int)=((5-(n+1):Nat):Int)+1 by omega]at this;exact this
 have:=key (5-lv) (by omega) w H;rw [show 5-(5-lv)=lv by omega]at this;exact this
theorem Qi9 (H:Bad B g L w R d f):
  Calls prog 94 #[.pointer (some ⟨g,0,none⟩)] w λen w'=>en= .returned (.int .i64 (-1))/\Below w.heap.size w w':=by
 have HH:=Qa H;clear H;go_enter func94,ntmps94;go_wp2_with fail;refine (Wqp 0 (by omega) HH.out).mono ?_;rintro en w2 ⟨rfl,hb⟩;have HB3:=Qa hb;clear hb;go_wp2_with fail;go_ret;exact ⟨rfl,HB3.out⟩
def Io (v:Value):Nat:=match v with
 | .bool true=>1
 |_=>0
theorem Q7d (H:Bad B g L w R d f):
  Calls prog 159 #[.pointer (some ⟨g,0,none⟩)] w λen w'=>(∃a n c,en= .returned (.slice a n c))/\Below w.heap.size w w':=by
 have HH:=Qa H;clear H;have HB:Hid (Below w.heap.size w w):=Below.refl _ _;go_enter func159,ntmps159;go_wp2_with fail;refine (Qck rp (HH.out.below HB.out)).mono ?_;rintro en w1 ⟨rfl,hb⟩;replace HB:=Qa (Z4 HB.out hb);clear hb;go_wp2_with fail;go_loopw [3,4] (λt3 t4 wr=>(t3= .slice none 0 0/\t4= .bool true/\wr=w1)\/(t4= .bool false/\(∃a n c,t3= .slice a n c)/\Hid (Below w.heap.size w wr))) (λ_ t4 _=>Io t4)
 case atStart=>exact .inl ⟨rfl,rfl,rfl⟩
 case round=>
  rcases hrel with ⟨rfl,rfl,rfl⟩ |⟨rfl,⟨a,n,c,rfl⟩,Ku⟩
  ·go_wp2_with fail;refine (Qi9 (HH.out.below HB.out)).mono ?_;rintro en w2 ⟨rfl,hb⟩;replace HB:=Qa (Z4 HB.out hb);clear hb;go_wp2_with (at_builtin;refine Wb7 rfl (.tmp 18) (.tmp 21) rfl w2 w2 _ [] _ rfl rfl ⟨⟨rfl,.inl ⟨rfl,rfl⟩⟩,Below.refl _ _⟩ (by decide) ?_;intro v1 w3 hb3);obtain ⟨a3,c3,rfl,_⟩:=hb3.rows;have HB3:=Qa (Z4 HB.out hb3.2);clear hb3;go_wp2_with fail;refine (Nz comma (HH.out.below HB3.out)).mono ?_;rintro en w4 ⟨rfl,hb⟩;have Jf:=Qa (Z4 HB3.out hb);clear hb;go_wp2_with fail;go_roundw
   case rel=>exact .inr ⟨rfl,⟨_,_,_,rfl⟩,Jf⟩
   case measure=>exact Nat.zero_lt_one
  ·go_wp2_with fail;go_ret;exact ⟨⟨_,_,_,rfl⟩,Ku.out⟩
end
end Go.Proofs.YtdncpkkhkbijfaaGreatDoor
