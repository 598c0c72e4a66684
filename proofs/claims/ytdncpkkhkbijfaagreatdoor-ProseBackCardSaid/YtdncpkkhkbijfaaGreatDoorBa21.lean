import Derived.Test.YtdncpkkhkbijfaaGreatDoorBa20
import Derived.WalkMore
open Go.Proofs.Tryz
set_option linter.all false
set_option maxHeartbeats 0
set_option maxRecDepth 100000
namespace Go.Proofs.YtdncpkkhkbijfaaGreatDoor
section
open Go.RowKit
variable {B g P T N:Nat}{L:List Tk}{w0 w w':World}{R0 R R':Bx}{d:Nat}{o:Except Qq PS}{v:Value}{acc:List Int}{K n:Int}{S:ByteArray}
def Qsm (B g P T:Nat) (L:List Tk) (M:Nat):Prop:= ∀(w:World) (R:Bx) (d:Nat) (o:Except Qq PS),Any B g L w R d o->Ke w g P T->(∀s,o= .ok s->d<=200)->Qc o L.length M->
 Calls prog 130 #[.pointer (some ⟨P,0,none⟩)] w λen w'=> ∃u R',Does o (λs n=>Qac n .stmt d s) u/\Came B g L w R d u en w' R'/\ ∀n m,Qc o (n+1) (m+1)->Qc (toO u) (n+1) m
theorem Pre.came (H:Pre B g P T L w0 R0 d w R o v acc) {u:Out} {en:Ending} (C:Came B g L w R d u en w' R'):Came B g L w0 R0 d u en w' {R' with Z:=R0.Z}:=
 ⟨(H.fr.trans C.fr).right _,rfl,C.en,C.any.less _ (λk hk=>by rw [C.z];exact H.z0 k hk)⟩
theorem Pre.toStart (H:Pre B g P T L w0 R0 d w R o v acc):Pre B g P T L w R d w R o (.slice none 0 0) []:=Pre.start H.any H.par
theorem Q0b {M:Nat} (hB: ∀m,m<M->Ig B g P T L m) (H:Any B g L w R d o) (hP:Ke w g P T) (hd: ∀s,o= .ok s->d<=200) (hl:Qc o L.length M):
  Calls prog 130 #[.pointer (some ⟨P,0,none⟩)] w λen w'=> ∃u R',Does o (λs n=>Qac n .stmt d s) u/\Came B g L w R d u en w' R'/\ ∀n m,Qc o (n+1) (m+1)->Qc (toO u) (n+1) m:=by
 have HR:=Qa (Pre.start H hP);have Aq:=Qa hB;have Wv:=Qa hd;have HL:=Qa hl;have Xp:=Xm;have hp:=HR.out.par.c0;have hp1:=HR.out.par.c1;clear H hP hd hl hB;go_enter func130,ntmps130;go_wp2_with fail;refine (Qdl HR.out.any).mono ?_;rintro en w1 ⟨tk,tn,ta,tx,rfl,Wp,hb⟩;replace HR:=Qa (HR.out.below hb);have Wj:=Qa Wp;clear hb Wp hp hp1;have hp1:=HR.out.par.c1;go_wp2_with fail;clear hp1;go_loopw [17] (λt17 wr=> ∃i:Nat,i<=8/\t17= .int .i64 (i:Int)/\Hid (Pre B g P T L w R d wr R o (.slice none 0 0) [])/\Hid (∀s,o= .ok s-> ∀j,0<=j->j<i->s.is (Fw j)=false)) (λt17 _=>8-(intOf t17).toNat)
 case atStart=>exact ⟨0,by omega,rfl,HR,λs hs j h1 h2=>by omega⟩
 case round=>
  obtain ⟨i,h8,rfl,HX,HN⟩:=hrel;clear HR;by_cases hi:i<8
  ·have h3:i=0\/i=1\/i=2\/i=3\/i=4\/i=5\/i=6\/i=7:=(by omega);rcases h3 with rfl |rfl |rfl |rfl |rfl |rfl |rfl |rfl
   ·have r0:wr.cell? ⟨T,0,none⟩=some (.string ⟨#[118,97,114]⟩):=HX.out.par.tab.at_ rfl;have r1:wr.cell? ⟨T,1,none⟩=some (.int .i64 12):=HX.out.par.tab.at_ rfl;have r2:wr.cell? ⟨T,2,none⟩=some (.func (.func 53) #[.pointer (some ⟨P,0,none⟩)] #[]):=HX.out.par.tab.at_ rfl;obtain ⟨W,hW⟩:=Qb (wr.alloc (.cells #[.string ⟨#[118,97,114]⟩,.int .i64 12,.func (.func 53) #[.pointer (some ⟨P,0,none⟩)] #[]] 95));obtain ⟨G,hG⟩:=Qb wr.heap.size;have HG:Hid (Held W G 95 #[.string ⟨#[118,97,114]⟩,.int .i64 12,.func (.func 53) #[.pointer (some ⟨P,0,none⟩)] #[]]):=(by rw [hW,hG];exact Held.new _ _ _);have hbw:Below wr.heap.size wr W:=(by rw [hW];exact Qag);have Bj:=Qa (HX.out.below hbw);clear hbw;go_wp2_with fail;rw [<-hW,<-hG];clear hW hG r0 r1 r2;have hp:=Bj.out.par.c0;have g0:W.cell? ⟨G,0,none⟩=some (.string ⟨#[118,97,114]⟩):=HG.out.at_ rfl;go_still_tail 6,(by kernel_rfl);change wpList _ _ _ _ _ W.drew;have HD:=Qa (Bj.out.below (Zk W));replace HG:=Qa (HG.out.block (w':=W.drew) rfl);clear hp g0;go_wp2_with fail;refine (G5 (Fw 0) HD.out.any).mono ?_;rintro en w2 ⟨c,o',rfl,ha,hf,hc⟩;replace HG:=Qa (HD.out.any.held hf HG.out (by decide) (by decide) (HD.out.any.Lj HG.out (by decide)));have HY:=Qa (HD.out.step ha hf rfl);clear ha hf;rcases hc with ⟨rfl,s,hs,hb,ho⟩ |⟨rfl,ho,hb⟩
    ·have HB:=Qa hb;have HO:=Qa ho;have HS:=Qa hs;rw [ho]at HY;have Bu:Hid (d<=200):=Wv.out s hs;have HM:Hid (1<=M):=(by have h1:=(HL.out s hs).2;have h2:=Ve hb;show 1<=M;omega);have Yk:Hid (Qc (.ok s.next) L.length (M-1)):=(by have h1:=HL.out;rw [hs]at h1;exact (h1.Fh hb).mono (by omega) (by omega));have Ua:Hid (Ig B g P T L (M-1)):=Aq.out (M-1) (by have:=HM.out;omega);have g1:w2.cell? ⟨G,1,none⟩=some (.int .i64 12):=HG.out.at_ rfl;have g2:w2.cell? ⟨G,2,none⟩=some (.func (.func 53) #[.pointer (some ⟨P,0,none⟩)] #[]):=HG.out.at_ rfl;clear hb ho hs HG;go_wp2_with fail;refine (Q89 (a:=ta) HY.out.any HY.out.par (λs1 h1=>Bu.out) Yk.out.self).mono ?_;rintro en w5 ⟨u2,R5,hd2,hc2,hl2⟩;obtain rfl:=hc2.en;have Y1:=Qa (HY.out.came hc2);have HL2:Hid (∀n m,Qc (.ok s.next) n m->Qc (toO u2) (n+1) m):=λn m h=>hl2 n m h;have HD2:=Qa hd2;clear hd2 hc2 hl2 g1 g2;go_wp2_with fail;go_ret;have hs:=HS.out;subst hs;have ht:=(Wj.out s rfl).2;subst ht;exact ⟨u2,_,(Qs.let_ (Qxl HB.out) HD2.out).ev,Y1.out,λn m h=>HL2.out n m (h.next HB.out)⟩
    ·have HB:=Qa hb;rw [ho]at HY;clear ho hb HG;go_wp2_with fail;go_roundw
     case rel=>exact ⟨0+1,by decide,by go_num,HY,λs hs=>Rn (X:=λj=>s.is (Fw j)) (HN.out s hs) (HB.out s hs)⟩
     case measure=>simp [intOf]
   ·have r0:wr.cell? ⟨T,3,none⟩=some (.string ⟨#[105,102]⟩):=HX.out.par.tab.at_ rfl;have r1:wr.cell? ⟨T,4,none⟩=some (.int .i64 15):=HX.out.par.tab.at_ rfl;have r2:wr.cell? ⟨T,5,none⟩=some (.func (.func 54) #[.pointer (some ⟨P,0,none⟩)] #[]):=HX.out.par.tab.at_ rfl;obtain ⟨W,hW⟩:=Qb (wr.alloc (.cells #[.string ⟨#[105,102]⟩,.int .i64 15,.func (.func 54) #[.pointer (some ⟨P,0,none⟩)] #[]] 95));obtain ⟨G,hG⟩:=Qb wr.heap.size;have HG:Hid (Held W G 95 #[.string ⟨#[105,102]⟩,.int .i64 15,.func (.func 54) #[.pointer (some ⟨P,0,none⟩)] #[]]):=(by rw [hW,hG];exact Held.new _ _ _);have hbw:Below wr.heap.size wr W:=(by rw [hW];exact Qag);have Bj:=Qa (HX.out.below hbw);clear hbw;go_wp2_with fail;rw [<-hW,<-hG];clear hW hG r0 r1 r2;have hp:=Bj.out.par.c0;have g0:W.cell? ⟨G,0,none⟩=some (.string ⟨#[105,102]⟩):=HG.out.at_ rfl;go_still_tail 6,(by kernel_rfl);change wpList _ _ _ _ _ W.drew;have HD:=Qa (Bj.out.below (Zk W));replace HG:=Qa (HG.out.block (w':=W.drew) rfl);clear hp g0;go_wp2_with fail;refine (G5 (Fw 1) HD.out.any).mono ?_;rintro en w2 ⟨c,o',rfl,ha,hf,hc⟩;replace HG:=Qa (HD.out.any.held hf HG.out (by decide) (by decide) (HD.out.any.Lj HG.out (by decide)));have HY:=Qa (HD.out.step ha hf rfl);clear ha hf;rcases hc with ⟨rfl,s,hs,hb,ho⟩ |⟨rfl,ho,hb⟩
    ·have HB:=Qa hb;have HO:=Qa ho;have HS:=Qa hs;rw [ho]at HY;have Bu:Hid (d<=200):=Wv.out s hs;have HM:Hid (1<=M):=(by have h1:=(HL.out s hs).2;have h2:=Ve hb;show 1<=M;omega);have Yk:Hid (Qc (.ok s.next) L.length (M-1)):=(by have h1:=HL.out;rw [hs]at h1;exact (h1.Fh hb).mono (by omega) (by omega));have Ua:Hid (Ig B g P T L (M-1)):=Aq.out (M-1) (by have:=HM.out;omega);have g1:w2.cell? ⟨G,1,none⟩=some (.int .i64 15):=HG.out.at_ rfl;have g2:w2.cell? ⟨G,2,none⟩=some (.func (.func 54) #[.pointer (some ⟨P,0,none⟩)] #[]):=HG.out.at_ rfl;clear hb ho hs HG;go_wp2_with fail;refine (Wea (a:=ta) Ua.out HY.out.any HY.out.par Bu.out Yk.out).mono ?_;rintro en w5 ⟨u2,R5,hd2,hc2,hl2⟩;obtain rfl:=hc2.en;have Y1:=Qa (HY.out.came hc2);have HL2:Hid (∀n m,Qc (.ok s.next) n m->Qc (toO u2) (n+1) m):=λn m h=>hl2 n m h;have HD2:=Qa hd2;clear hd2 hc2 hl2 g1 g2;go_wp2_with fail;go_ret;have hs:=HS.out;subst hs;have ht:=(Wj.out s rfl).2;subst ht;exact ⟨u2,_,(Qs.if_ (Qy0 HB.out) HD2.out).ev,Y1.out,λn m h=>HL2.out n m (h.next HB.out)⟩
    ·have HB:=Qa hb;rw [ho]at HY;clear ho hb HG;go_wp2_with fail;go_roundw
     case rel=>exact ⟨1+1,by decide,by go_num,HY,λs hs=>Rn (X:=λj=>s.is (Fw j)) (HN.out s hs) (HB.out s hs)⟩
     case measure=>simp [intOf]
   ·have r0:wr.cell? ⟨T,6,none⟩=some (.string ⟨#[119,104,105,108,101]⟩):=HX.out.par.tab.at_ rfl;have r1:wr.cell? ⟨T,7,none⟩=some (.int .i64 16):=HX.out.par.tab.at_ rfl;have r2:wr.cell? ⟨T,8,none⟩=some (.func (.func 55) #[.pointer (some ⟨P,0,none⟩)] #[]):=HX.out.par.tab.at_ rfl;obtain ⟨W,hW⟩:=Qb (wr.alloc (.cells #[.string ⟨#[119,104,105,108,101]⟩,.int .i64 16,.func (.func 55) #[.pointer (some ⟨P,0,none⟩)] #[]] 95));obtain ⟨G,hG⟩:=Qb wr.heap.size;have HG:Hid (Held W G 95 #[.string ⟨#[119,104,105,108,101]⟩,.int .i64 16,.func (.func 55) #[.pointer (some ⟨P,0,none⟩)] #[]]):=(by rw [hW,hG];exact Held.new _ _ _);have hbw:Below wr.heap.size wr W:=(by rw [hW];exact Qag);have Bj:=Qa (HX.out.below hbw);clear hbw;go_wp2_with fail;rw [<-hW,<-hG];clear hW hG r0 r1 r2;have hp:=Bj.out.par.c0;have g0:W.cell? ⟨G,0,none⟩=some (.string ⟨#[119,104,105,108,101]⟩):=HG.out.at_ rfl;go_still_tail 6,(by kernel_rfl);change wpList _ _ _ _ _ W.drew;have HD:=Qa (Bj.out.below (Zk W));replace HG:=Qa (HG.out.block (w':=W.drew) rfl);clear hp g0;go_wp2_with fail;refine (G5 (Fw 2) HD.out.any).mono ?_;rintro en w2 ⟨c,o',rfl,ha,hf,hc⟩;replace HG:=Qa (HD.out.any.held hf HG.out (by decide) (by decide) (HD.out.any.Lj HG.out (by decide)));have HY:=Qa (HD.out.step ha hf rfl);clear ha hf;rcases hc with ⟨rfl,s,hs,hb,ho⟩ |⟨rfl,ho,hb⟩
    ·have HB:=Qa hb;have HO:=Qa ho;have HS:=Qa hs;rw [ho]at HY;have Bu:Hid (d<=200):=Wv.out s hs;have HM:Hid (1<=M):=(by have h1:=(HL.out s hs).2;have h2:=Ve hb;show 1<=M;omega);have Yk:Hid (Qc (.ok s.next) L.length (M-1)):=(by have h1:=HL.out;rw [hs]at h1;exact (h1.Fh hb).mono (by omega) (by omega));have Ua:Hid (Ig B g P T L (M-1)):=Aq.out (M-1) (by have:=HM.out;omega);have g1:w2.cell? ⟨G,1,none⟩=some (.int .i64 16):=HG.out.at_ rfl;have g2:w2.cell? ⟨G,2,none⟩=some (.func (.func 55) #[.pointer (some ⟨P,0,none⟩)] #[]):=HG.out.at_ rfl;clear hb ho hs HG;go_wp2_with fail;refine (Wrr (a:=ta) Ua.out HY.out.any HY.out.par Bu.out Yk.out).mono ?_;rintro en w5 ⟨u2,R5,hd2,hc2,hl2⟩;obtain rfl:=hc2.en;have Y1:=Qa (HY.out.came hc2);have HL2:Hid (∀n m,Qc (.ok s.next) n m->Qc (toO u2) (n+1) m):=λn m h=>hl2 n m h;have HD2:=Qa hd2;clear hd2 hc2 hl2 g1 g2;go_wp2_with fail;go_ret;have hs:=HS.out;subst hs;have ht:=(Wj.out s rfl).2;subst ht;exact ⟨u2,_,(Qs.Kl (Q4k HB.out) HD2.out).ev,Y1.out,λn m h=>HL2.out n m (h.next HB.out)⟩
    ·have HB:=Qa hb;rw [ho]at HY;clear ho hb HG;go_wp2_with fail;go_roundw
     case rel=>exact ⟨2+1,by decide,by go_num,HY,λs hs=>Rn (X:=λj=>s.is (Fw j)) (HN.out s hs) (HB.out s hs)⟩
     case measure=>simp [intOf]
   ·have r0:wr.cell? ⟨T,9,none⟩=some (.string ⟨#[102,111,114]⟩):=HX.out.par.tab.at_ rfl;have r1:wr.cell? ⟨T,10,none⟩=some (.int .i64 17):=HX.out.par.tab.at_ rfl;have r2:wr.cell? ⟨T,11,none⟩=some (.func (.func 56) #[.pointer (some ⟨P,0,none⟩)] #[]):=HX.out.par.tab.at_ rfl;obtain ⟨W,hW⟩:=Qb (wr.alloc (.cells #[.string ⟨#[102,111,114]⟩,.int .i64 17,.func (.func 56) #[.pointer (some ⟨P,0,none⟩)] #[]] 95));obtain ⟨G,hG⟩:=Qb wr.heap.size;have HG:Hid (Held W G 95 #[.string ⟨#[102,111,114]⟩,.int .i64 17,.func (.func 56) #[.pointer (some ⟨P,0,none⟩)] #[]]):=(by rw [hW,hG];exact Held.new _ _ _);have hbw:Below wr.heap.size wr W:=(by rw [hW];exact Qag);have Bj:=Qa (HX.out.below hbw);clear hbw;go_wp2_with fail;rw [<-hW,<-hG];clear hW hG r0 r1 r2;have hp:=Bj.out.par.c0;have g0:W.cell? ⟨G,0,none⟩=some (.string ⟨#[102,111,114]⟩):=HG.out.at_ rfl;go_still_tail 6,(by kernel_rfl);change wpList _ _ _ _ _ W.drew;have HD:=Qa (Bj.out.below (Zk W));replace HG:=Qa (HG.out.block (w':=W.drew) rfl);clear hp g0;go_wp2_with fail;refine (G5 (Fw 3) HD.out.any).mono ?_;rintro en w2 ⟨c,o',rfl,ha,hf,hc⟩;replace HG:=Qa (HD.out.any.held hf HG.out (by decide) (by decide) (HD.out.any.Lj HG.out (by decide)));have HY:=Qa (HD.out.step ha hf rfl);clear ha hf;rcases hc with ⟨rfl,s,hs,hb,ho⟩ |⟨rfl,ho,hb⟩
    ·have HB:=Qa hb;have HO:=Qa ho;have HS:=Qa hs;rw [ho]at HY;have Bu:Hid (d<=200):=Wv.out s hs;have HM:Hid (1<=M):=(by have h1:=(HL.out s hs).2;have h2:=Ve hb;show 1<=M;omega);have Yk:Hid (Qc (.ok s.next) L.length (M-1)):=(by have h1:=HL.out;rw [hs]at h1;exact (h1.Fh hb).mono (by omega) (by omega));have Ua:Hid (Ig B g P T L (M-1)):=Aq.out (M-1) (by have:=HM.out;omega);have g1:w2.cell? ⟨G,1,none⟩=some (.int .i64 17):=HG.out.at_ rfl;have g2:w2.cell? ⟨G,2,none⟩=some (.func (.func 56) #[.pointer (some ⟨P,0,none⟩)] #[]):=HG.out.at_ rfl;clear hb ho hs HG;go_wp2_with fail;refine (Wq2 (a:=ta) Ua.out HY.out.any HY.out.par Bu.out Yk.out).mono ?_;rintro en w5 ⟨u2,R5,hd2,hc2,hl2⟩;obtain rfl:=hc2.en;have Y1:=Qa (HY.out.came hc2);have HL2:Hid (∀n m,Qc (.ok s.next) n m->Qc (toO u2) (n+1) m):=λn m h=>hl2 n m h;have HD2:=Qa hd2;clear hd2 hc2 hl2 g1 g2;go_wp2_with fail;go_ret;have hs:=HS.out;subst hs;have ht:=(Wj.out s rfl).2;subst ht;exact ⟨u2,_,(Qs.for_ (Q47 HB.out) HD2.out).ev,Y1.out,λn m h=>HL2.out n m (h.next HB.out)⟩
    ·have HB:=Qa hb;rw [ho]at HY;clear ho hb HG;go_wp2_with fail;go_roundw
     case rel=>exact ⟨3+1,by decide,by go_num,HY,λs hs=>Rn (X:=λj=>s.is (Fw j)) (HN.out s hs) (HB.out s hs)⟩
     case measure=>simp [intOf]
   ·have r0:wr.cell? ⟨T,12,none⟩=some (.string ⟨#[98,114,101,97,107]⟩):=HX.out.par.tab.at_ rfl;have r1:wr.cell? ⟨T,13,none⟩=some (.int .i64 18):=HX.out.par.tab.at_ rfl;have r2:wr.cell? ⟨T,14,none⟩=some (.func (.func 57) #[.pointer (some ⟨P,0,none⟩)] #[]):=HX.out.par.tab.at_ rfl;obtain ⟨W,hW⟩:=Qb (wr.alloc (.cells #[.string ⟨#[98,114,101,97,107]⟩,.int .i64 18,.func (.func 57) #[.pointer (some ⟨P,0,none⟩)] #[]] 95));obtain ⟨G,hG⟩:=Qb wr.heap.size;have HG:Hid (Held W G 95 #[.string ⟨#[98,114,101,97,107]⟩,.int .i64 18,.func (.func 57) #[.pointer (some ⟨P,0,none⟩)] #[]]):=(by rw [hW,hG];exact Held.new _ _ _);have hbw:Below wr.heap.size wr W:=(by rw [hW];exact Qag);have Bj:=Qa (HX.out.below hbw);clear hbw;go_wp2_with fail;rw [<-hW,<-hG];clear hW hG r0 r1 r2;have hp:=Bj.out.par.c0;have g0:W.cell? ⟨G,0,none⟩=some (.string ⟨#[98,114,101,97,107]⟩):=HG.out.at_ rfl;go_still_tail 6,(by kernel_rfl);change wpList _ _ _ _ _ W.drew;have HD:=Qa (Bj.out.below (Zk W));replace HG:=Qa (HG.out.block (w':=W.drew) rfl);clear hp g0;go_wp2_with fail;refine (G5 (Fw 4) HD.out.any).mono ?_;rintro en w2 ⟨c,o',rfl,ha,hf,hc⟩;replace HG:=Qa (HD.out.any.held hf HG.out (by decide) (by decide) (HD.out.any.Lj HG.out (by decide)));have HY:=Qa (HD.out.step ha hf rfl);clear ha hf;rcases hc with ⟨rfl,s,hs,hb,ho⟩ |⟨rfl,ho,hb⟩
    ·have HB:=Qa hb;have HO:=Qa ho;have HS:=Qa hs;rw [ho]at HY;have Bu:Hid (d<=200):=Wv.out s hs;have HM:Hid (1<=M):=(by have h1:=(HL.out s hs).2;have h2:=Ve hb;show 1<=M;omega);have Yk:Hid (Qc (.ok s.next) L.length (M-1)):=(by have h1:=HL.out;rw [hs]at h1;exact (h1.Fh hb).mono (by omega) (by omega));have Ua:Hid (Ig B g P T L (M-1)):=Aq.out (M-1) (by have:=HM.out;omega);have g1:w2.cell? ⟨G,1,none⟩=some (.int .i64 18):=HG.out.at_ rfl;have g2:w2.cell? ⟨G,2,none⟩=some (.func (.func 57) #[.pointer (some ⟨P,0,none⟩)] #[]):=HG.out.at_ rfl;clear hb ho hs HG;go_wp2_with fail;refine (Ql5 (a:=ta) HY.out.toStart Yk.out.self (by simp)).mono ?_;rintro en w5 ⟨u2,R5,hd2,hc2,hl2⟩;obtain rfl:=hc2.en;have Y1:=Qa (HY.out.came hc2);have HL2:Hid (∀n m,Qc (.ok s.next) n m->Qc (toO u2) (n+1) m):=λn m h=>hl2 n m (h.mono (by omega) (by omega));have HD2:=Qa hd2;clear hd2 hc2 hl2 g1 g2;go_wp2_with fail;go_ret;have hs:=HS.out;subst hs;have ht:=(Wj.out s rfl).2;subst ht;exact ⟨u2,_,(Qs.Qrv (Q23 HB.out) HD2.out).ev,Y1.out,λn m h=>HL2.out n m (h.next HB.out)⟩
    ·have HB:=Qa hb;rw [ho]at HY;clear ho hb HG;go_wp2_with fail;go_roundw
     case rel=>exact ⟨4+1,by decide,by go_num,HY,λs hs=>Rn (X:=λj=>s.is (Fw j)) (HN.out s hs) (HB.out s hs)⟩
     case measure=>simp [intOf]
   ·have r0:wr.cell? ⟨T,15,none⟩=some (.string ⟨#[99,111,110,116,105,110,117,101]⟩):=HX.out.par.tab.at_ rfl;have r1:wr.cell? ⟨T,16,none⟩=some (.int .i64 19):=HX.out.par.tab.at_ rfl;have r2:wr.cell? ⟨T,17,none⟩=some (.func (.func 57) #[.pointer (some ⟨P,0,none⟩)] #[]):=HX.out.par.tab.at_ rfl;obtain ⟨W,hW⟩:=Qb (wr.alloc (.cells #[.string ⟨#[99,111,110,116,105,110,117,101]⟩,.int .i64 19,.func (.func 57) #[.pointer (some ⟨P,0,none⟩)] #[]] 95));obtain ⟨G,hG⟩:=Qb wr.heap.size;have HG:Hid (Held W G 95 #[.string ⟨#[99,111,110,116,105,110,117,101]⟩,.int .i64 19,.func (.func 57) #[.pointer (some ⟨P,0,none⟩)] #[]]):=(by rw [hW,hG];exact Held.new _ _ _);have hbw:Below wr.heap.size wr W:=(by rw [hW];exact Qag);have Bj:=Qa (HX.out.below hbw);clear hbw;go_wp2_with fail;rw [<-hW,<-hG];clear hW hG r0 r1 r2;have hp:=Bj.out.par.c0;have g0:W.cell? ⟨G,0,none⟩=some (.string ⟨#[99,111,110,116,105,110,117,101]⟩):=HG.out.at_ rfl;go_still_tail 6,(by kernel_rfl);change wpList _ _ _ _ _ W.drew;have HD:=Qa (Bj.out.below (Zk W));replace HG:=Qa (HG.out.block (w':=W.drew) rfl);clear hp g0;go_wp2_with fail;refine (G5 (Fw 5) HD.out.any).mono ?_;rintro en w2 ⟨c,o',rfl,ha,hf,hc⟩;replace HG:=Qa (HD.out.any.held hf HG.out (by decide) (by decide) (HD.out.any.Lj HG.out (by decide)));have HY:=Qa (HD.out.step ha hf rfl);clear ha hf;rcases hc with ⟨rfl,s,hs,hb,ho⟩ |⟨rfl,ho,hb⟩
    ·have HB:=Qa hb;have HO:=Qa ho;have HS:=Qa hs;rw [ho]at HY;have Bu:Hid (d<=200):=Wv.out s hs;have HM:Hid (1<=M):=(by have h1:=(HL.out s hs).2;have h2:=Ve hb;show 1<=M;omega);have Yk:Hid (Qc (.ok s.next) L.length (M-1)):=(by have h1:=HL.out;rw [hs]at h1;exact (h1.Fh hb).mono (by omega) (by omega));have Ua:Hid (Ig B g P T L (M-1)):=Aq.out (M-1) (by have:=HM.out;omega);have g1:w2.cell? ⟨G,1,none⟩=some (.int .i64 19):=HG.out.at_ rfl;have g2:w2.cell? ⟨G,2,none⟩=some (.func (.func 57) #[.pointer (some ⟨P,0,none⟩)] #[]):=HG.out.at_ rfl;clear hb ho hs HG;go_wp2_with fail;refine (Ql5 (a:=ta) HY.out.toStart Yk.out.self (by simp)).mono ?_;rintro en w5 ⟨u2,R5,hd2,hc2,hl2⟩;obtain rfl:=hc2.en;have Y1:=Qa (HY.out.came hc2);have HL2:Hid (∀n m,Qc (.ok s.next) n m->Qc (toO u2) (n+1) m):=λn m h=>hl2 n m (h.mono (by omega) (by omega));have HD2:=Qa hd2;clear hd2 hc2 hl2 g1 g2;go_wp2_with fail;go_ret;have hs:=HS.out;subst hs;have ht:=(Wj.out s rfl).2;subst ht;exact ⟨u2,_,(Qs.cont (Qwu HB.out) HD2.out).ev,Y1.out,λn m h=>HL2.out n m (h.next HB.out)⟩
    ·have HB:=Qa hb;rw [ho]at HY;clear ho hb HG;go_wp2_with fail;go_roundw
     case rel=>exact ⟨5+1,by decide,by go_num,HY,λs hs=>Rn (X:=λj=>s.is (Fw j)) (HN.out s hs) (HB.out s hs)⟩
     case measure=>simp [intOf]
   ·have r0:wr.cell? ⟨T,18,none⟩=some (.string ⟨#[114,101,116,117,114,110]⟩):=HX.out.par.tab.at_ rfl;have r1:wr.cell? ⟨T,19,none⟩=some (.int .i64 20):=HX.out.par.tab.at_ rfl;have r2:wr.cell? ⟨T,20,none⟩=some (.func (.func 58) #[.pointer (some ⟨P,0,none⟩)] #[]):=HX.out.par.tab.at_ rfl;obtain ⟨W,hW⟩:=Qb (wr.alloc (.cells #[.string ⟨#[114,101,116,117,114,110]⟩,.int .i64 20,.func (.func 58) #[.pointer (some ⟨P,0,none⟩)] #[]] 95));obtain ⟨G,hG⟩:=Qb wr.heap.size;have HG:Hid (Held W G 95 #[.string ⟨#[114,101,116,117,114,110]⟩,.int .i64 20,.func (.func 58) #[.pointer (some ⟨P,0,none⟩)] #[]]):=(by rw [hW,hG];exact Held.new _ _ _);have hbw:Below wr.heap.size wr W:=(by rw [hW];exact Qag);have Bj:=Qa (HX.out.below hbw);clear hbw;go_wp2_with fail;rw [<-hW,<-hG];clear hW hG r0 r1 r2;have hp:=Bj.out.par.c0;have g0:W.cell? ⟨G,0,none⟩=some (.string ⟨#[114,101,116,117,114,110]⟩):=HG.out.at_ rfl;go_still_tail 6,(by kernel_rfl);change wpList _ _ _ _ _ W.drew;have HD:=Qa (Bj.out.below (Zk W));replace HG:=Qa (HG.out.block (w':=W.drew) rfl);clear hp g0;go_wp2_with fail;refine (G5 (Fw 6) HD.out.any).mono ?_;rintro en w2 ⟨c,o',rfl,ha,hf,hc⟩;replace HG:=Qa (HD.out.any.held hf HG.out (by decide) (by decide) (HD.out.any.Lj HG.out (by decide)));have HY:=Qa (HD.out.step ha hf rfl);clear ha hf;rcases hc with ⟨rfl,s,hs,hb,ho⟩ |⟨rfl,ho,hb⟩
    ·have HB:=Qa hb;have HO:=Qa ho;have HS:=Qa hs;rw [ho]at HY;have Bu:Hid (d<=200):=Wv.out s hs;have HM:Hid (1<=M):=(by have h1:=(HL.out s hs).2;have h2:=Ve hb;show 1<=M;omega);have Yk:Hid (Qc (.ok s.next) L.length (M-1)):=(by have h1:=HL.out;rw [hs]at h1;exact (h1.Fh hb).mono (by omega) (by omega));have Ua:Hid (Ig B g P T L (M-1)):=Aq.out (M-1) (by have:=HM.out;omega);have g1:w2.cell? ⟨G,1,none⟩=some (.int .i64 20):=HG.out.at_ rfl;have g2:w2.cell? ⟨G,2,none⟩=some (.func (.func 58) #[.pointer (some ⟨P,0,none⟩)] #[]):=HG.out.at_ rfl;clear hb ho hs HG;go_wp2_with fail;refine (Qt6 (a:=ta) HY.out.toStart (λs1 h1=>Bu.out) Yk.out.self (by simp)).mono ?_;rintro en w5 ⟨u2,R5,hd2,hc2,hl2⟩;obtain rfl:=hc2.en;have Y1:=Qa (HY.out.came hc2);have HL2:Hid (∀n m,Qc (.ok s.next) n m->Qc (toO u2) (n+1) m):=λn m h=>hl2 n m (h.mono (by omega) (by omega));have HD2:=Qa hd2;clear hd2 hc2 hl2 g1 g2;go_wp2_with fail;go_ret;have hs:=HS.out;subst hs;have ht:=(Wj.out s rfl).2;subst ht;exact ⟨u2,_,(Qs.ret (Q01 HB.out) HD2.out).ev,Y1.out,λn m h=>HL2.out n m (h.next HB.out)⟩
    ·have HB:=Qa hb;rw [ho]at HY;clear ho hb HG;go_wp2_with fail;go_roundw
     case rel=>exact ⟨6+1,by decide,by go_num,HY,λs hs=>Rn (X:=λj=>s.is (Fw j)) (HN.out s hs) (HB.out s hs)⟩
     case measure=>simp [intOf]
   ·have r0:wr.cell? ⟨T,21,none⟩=some (.string ⟨#[112,114,105,110,116]⟩):=HX.out.par.tab.at_ rfl;have r1:wr.cell? ⟨T,22,none⟩=some (.int .i64 21):=HX.out.par.tab.at_ rfl;have r2:wr.cell? ⟨T,23,none⟩=some (.func (.func 58) #[.pointer (some ⟨P,0,none⟩)] #[]):=HX.out.par.tab.at_ rfl;obtain ⟨W,hW⟩:=Qb (wr.alloc (.cells #[.string ⟨#[112,114,105,110,116]⟩,.int .i64 21,.func (.func 58) #[.pointer (some ⟨P,0,none⟩)] #[]] 95));obtain ⟨G,hG⟩:=Qb wr.heap.size;have HG:Hid (Held W G 95 #[.string ⟨#[112,114,105,110,116]⟩,.int .i64 21,.func (.func 58) #[.pointer (some ⟨P,0,none⟩)] #[]]):=(by rw [hW,hG];exact Held.new _ _ _);have hbw:Below wr.heap.size wr W:=(by rw [hW];exact Qag);have Bj:=Qa (HX.out.below hbw);clear hbw;go_wp2_with fail;rw [<-hW,<-hG];clear hW hG r0 r1 r2;have hp:=Bj.out.par.c0;have g0:W.cell? ⟨G,0,none⟩=some (.string ⟨#[112,114,105,110,116]⟩):=HG.out.at_ rfl;go_still_tail 6,(by kernel_rfl);change wpList _ _ _ _ _ W.drew;have HD:=Qa (Bj.out.below (Zk W));replace HG:=Qa (HG.out.block (w':=W.drew) rfl);clear hp g0;go_wp2_with fail;refine (G5 (Fw 7) HD.out.any).mono ?_;rintro en w2 ⟨c,o',rfl,ha,hf,hc⟩;replace HG:=Qa (HD.out.any.held hf HG.out (by decide) (by decide) (HD.out.any.Lj HG.out (by decide)));have HY:=Qa (HD.out.step ha hf rfl);clear ha hf;rcases hc with ⟨rfl,s,hs,hb,ho⟩ |⟨rfl,ho,hb⟩
    ·have HB:=Qa hb;have HO:=Qa ho;have HS:=Qa hs;rw [ho]at HY;have Bu:Hid (d<=200):=Wv.out s hs;have HM:Hid (1<=M):=(by have h1:=(HL.out s hs).2;have h2:=Ve hb;show 1<=M;omega);have Yk:Hid (Qc (.ok s.next) L.length (M-1)):=(by have h1:=HL.out;rw [hs]at h1;exact (h1.Fh hb).mono (by omega) (by omega));have Ua:Hid (Ig B g P T L (M-1)):=Aq.out (M-1) (by have:=HM.out;omega);have g1:w2.cell? ⟨G,1,none⟩=some (.int .i64 21):=HG.out.at_ rfl;have g2:w2.cell? ⟨G,2,none⟩=some (.func (.func 58) #[.pointer (some ⟨P,0,none⟩)] #[]):=HG.out.at_ rfl;clear hb ho hs HG;go_wp2_with fail;refine (Qt6 (a:=ta) HY.out.toStart (λs1 h1=>Bu.out) Yk.out.self (by simp)).mono ?_;rintro en w5 ⟨u2,R5,hd2,hc2,hl2⟩;obtain rfl:=hc2.en;have Y1:=Qa (HY.out.came hc2);have HL2:Hid (∀n m,Qc (.ok s.next) n m->Qc (toO u2) (n+1) m):=λn m h=>hl2 n m (h.mono (by omega) (by omega));have HD2:=Qa hd2;clear hd2 hc2 hl2 g1 g2;go_wp2_with fail;go_ret;have hs:=HS.out;subst hs;have ht:=(Wj.out s rfl).2;subst ht;exact ⟨u2,_,(Qs.print (Q77 HB.out) HD2.out).ev,Y1.out,λn m h=>HL2.out n m (h.next HB.out)⟩
    ·have HB:=Qa hb;rw [ho]at HY;clear ho hb HG;go_wp2_with fail;go_roundw
     case rel=>exact ⟨7+1,by decide,by go_num,HY,λs hs=>Rn (X:=λj=>s.is (Fw j)) (HN.out s hs) (HB.out s hs)⟩
     case measure=>simp [intOf]
  ·have hi8:i=8:=(by omega);subst hi8;go_wp2_with fail;refine (Wim HX.out.any HX.out.par Wv.out HL.out.self).mono ?_;rintro en w5 ⟨u2,R5,hd2,hc2,hl2⟩;obtain rfl:=hc2.en;have Y1:=Qa (HX.out.came hc2);have HL2:=Qa hl2;have HD2:=Qa (Does.st (o:=o) (d:=d) (λs hs v hv=>Qs.named (Q5w (λj hj=>HN.out s hs j (Vh _) hj)) hv) hd2);clear hd2 hc2 hl2;go_wp2_with fail;go_ret;exact ⟨u2,_,HD2.out,Y1.out,HL2.out⟩
end
section
variable {o:Except Qq PS}{d:Nat}{v u:Out}{b:List UInt8}{s:PS}
def Lh (v:Out):Prop:= ∀l s',v= .ok (l,s')->l=[hd1 l]
theorem Qkp {e:Qq}:Lh (.error e):=λl s' h=>by cases h
theorem M8 {x:Nd} (h:some (lay x s)=some v):Lh v:=by
 injection h with h
 subst h;unfold lay;split
 ·exact Qkp
 ·intro l s' e;injection e with e
  injection e with e1 e2
  subst e1;rfl
theorem Ls {f:PS->Option Out} (h:Qm b s f=some v) (g: ∀s1,f s1=some v->Lh v):Lh v:=by
 unfold Qm at h;split at h
 ·exact g _ h
 ·injection h with h;subst h;exact Qkp
theorem Qmc {f:ByteArray->Nat->PS->Option Out} (h:Xf s f=some v) (g: ∀x y s1,f x y s1=some v->Lh v):Lh v:=by
 unfold Xf at h;split at h
 ·exact g _ _ _ h
 ·injection h with h;subst h;exact Qkp
theorem U8 {F:Option Out} {f:List Int->PS->Option Out} (h:Out.go F f=some v) (g: ∀p s1,f p s1=some v->Lh v):Lh v:=by
 rcases go_ok h with ⟨e,h1,rfl⟩ |⟨p,s1,h1,h2⟩
 ·exact Qkp
 ·exact g _ _ h2
theorem Qbb {n:Nat} {f:Int->PS->Option Out} (h:Wy n d s f=some v) (g: ∀a s1,f a s1=some v->Lh v):Lh v:=U8 h (λp s1 h=>g _ _ h)
theorem Wgx {n:Nat} (h:Qac n .stmt d s=some v):Lh v:=by
 cases n with
 |zero=>cases h
 |succ n=>
  rw [Qac]at h;split at h
  ·exact Qmc h λ_ _ _ h=>Ls h λ_ h=>Qbb h λ_ _ h=>Ls h λ_ h=>M8 h
  ·exact Qmc h λ_ _ _ h=>Ls h λ_ h=>Qbb h λ_ _ h=>Ls h λ_ h=>Qbb h λ_ _ h=>U8 h λ_ _ h=>M8 h
  ·exact Ls h λ_ h=>M8 h
  ·exact Ls h λ_ h=>M8 h
  ·exact Qbb h λ_ _ h=>Ls h λ_ h=>M8 h
  ·exact Qbb h λ_ _ h=>Ls h λ_ h=>M8 h
  ·exact Qbb h λ_ _ h=>U8 h λ_ _ h=>M8 h
  ·refine Qbb h λ_ _ h=>U8 h λ_ _ h=> ?_;split at h
   ·exact U8 h λ_ _ h=>M8 h
   ·exact M8 h
  ·refine Qmc h λ_ _ _ h=> ?_;split at h
   ·exact U8 h λ_ _ h=>Ls h λ_ h=>M8 h
   ·split at h
    ·exact U8 h λ_ _ h=>Ls h λ_ h=>Qbb h λ_ _ h=>Ls h λ_ h=>M8 h
    ·exact Ls h λ_ h=>Qbb h λ_ _ h=>Ls h λ_ h=>M8 h
end
section
open Go.RowKit
variable {B g P T N:Nat}{L:List Tk}{w0 w w':World}{R0 R R':Bx}{d:Nat}{o:Except Qq PS}{v:Value}{acc:List Int}{K n:Int}{S:ByteArray}
theorem Ev.Qyn {x u:Out} (h:Ev (λ_=>some x) u):u=x:=by obtain ⟨n,hn⟩:=h;exact (Option.some.inj (hn n (Qh _))).symm
theorem Qc.Qpc {b:List UInt8} {n m:Nat} (h:Qc o n m):Qc (Yv b o) (n-1) (m-1):=by
 cases o with
 |error f=>exact Qc.err
 |ok s=>
  cases hb:s.is b with
  |true=>rw [Oq hb];exact h.Fh hb
  |false=>rw [Ov hb];exact Qc.err
theorem Qc.open_ {d a n m:Nat} (h:Qc o n m):Qc (Gy d a o) n m:=by
 cases o with
 |error f=>exact Qc.err
 |ok s=>
  by_cases hd:200<=d
  ·rw [Ry hd];exact Qc.err
  ·rw [Un hd];exact h
structure Qro (B g P T:Nat) (L:List Tk) (M:Nat) (w0:World) (R0:Bx) (d:Nat) (o:Except Qq PS) (N ta:Nat) (wr:World) (R1:Bx) (o1:Except Qq PS) (v1:Value) (acc:List Int):Prop where
 run:Run B g P T L w0 R0 (d+1) wr R1 o1 N 23 v1 acc 0 ⟨#[]⟩ (ta:Int)
 lim:Qc o1 (L.length-1) (M-1)
 few:acc.length<=100000
 many: ∀s,o1= .ok s->acc.length+s.r.length<=L.length/\d<200
 cont: ∀u,Does o1 (λs n=>Qac n (.stmts acc ta) (d+1) s) u->Does o (λs n=>Qac n .block d s) u
theorem Does.Qhe {s:PS} {acc:List Int} {ta d:Nat} {u:Out} (hb:s.is rc=true) (h:Does (.ok s.next) (λs _=>some (lay (En 23 acc 0 ⟨#[]⟩ (ta:Int)) s)) u):Does (.ok s) (λs n=>Qac n (.stmts acc ta) d s) u:=by rw [Ev.Qyn h];exact (Qs.Qhe hb).ev
theorem Does.Qpo {acc:List Int} {ta d:Nat} {f:Qq} (hb: ∀s,o= .ok s->s.is rc=false) (h:Does o (λs n=>Qac n .stmt d s) (.error f)):Does o (λs n=>Qac n (.stmts acc ta) d s) (.error f):=by
 cases o with
 |error f'=>exact h
 |ok s=>exact (Qs.Qpo (hb s rfl) h.to_preads).ev
theorem Does.Qlm {acc:List Int} {ta d:Nat} {l:List Int} {s1:PS} {u:Out} (hb: ∀s,o= .ok s->s.is rc=false) (h:Does o (λs n=>Qac n .stmt d s) (.ok (l,s1))) (hl:l=[hd1 l]) (r:Does (.ok s1) (λs n=>Qac n (.stmts (acc++[hd1 l]) ta) d s) u):Does o (λs n=>Qac n (.stmts acc ta) d s) u:=by
 cases o with
 |error f'=>exact absurd h (by intro h;cases h)
 |ok s=>rw [hl]at h;exact (Qs.Qlm (hb s rfl) h.to_preads r.to_preads).ev
theorem Does.Qst {d ta:Nat} (ht: ∀s,o= .ok s->ta=s.tok.place) {u:Out} (h:Does (Gy d ta (Yv lc o)) (λs n=>Qac n (.stmts [] ta) (d+1) s) u):Does o (λs n=>Qac n .block d s) u:=by
 cases o with
 |error f=>exact h
 |ok s=>
  have ht:=ht s rfl;subst ht;refine (Qs.block ?_).ev;refine Does.need (o:=.ok s) (b:=lc) (G:=λs1 n=>if 200<=d then some (.error (4,s.tok.place))else Qac n (.stmts [] s.tok.place) (d+1) s1) ?_;cases hn:Yv lc (.ok s)with
  |error f=>rw [hn]at h;exact h
  |ok s1=>
   rw [hn]at h;by_cases hd:200<=d
   ·rw [Ry hd]at h;rw [show u=_ from h];exact Ev.Pb hd Ev.const
   ·rw [Un hd]at h;exact Ev.Gi hd h
theorem Qs6 {s:PS} (H:Any B g L w R d o) (hs:o= .ok s):1<=s.r.length:=by subst hs;exact Good.some H
theorem Q9n {l:List Int} {s1:PS} (h:Does o (λs n=>Qac n .stmt d s) (.ok (l,s1))):l=[hd1 l]:=by
 cases o with
 |error f=>cases h
 |ok s=>obtain ⟨n,hn⟩:=h;exact Wgx (hn n (Qh _)) l s1 rfl
theorem Q5a {M:Nat} (hS:Qsm B g P T L (M-1)) (H:Any B g L w R d o) (hP:Ke w g P T) (hd:d<=200) (hl:Qc o L.length M):
  Calls prog 95 #[.pointer (some ⟨P,0,none⟩)] w λen w'=> ∃u R',Does o (λs n=>Qac n .block d s) u/\Came B g L w R d u en w' R':=by
 have HR:=Qa (Pre.start H hP);obtain ⟨w0,hw0⟩:=Qb w;obtain ⟨R0,hR0⟩:=Qb R;have HW0:=Qa hw0;have Jg:=Qa hR0;have HST:=Qa hS;have HD2:=Qa hd;have HL:=Qa hl;have Quj:=Qa H.many;have Xp:=Xm;have hp:=HR.out.par.c0;clear H hP hd hl hS;go_enter func95,ntmps95;rw [Qz 2];go_wp2_with fail;refine wp_scope_straight ?_;go_wp2_with fail;refine (Qdl HR.out.any).mono ?_;rintro en w1 ⟨tk,tn,ta,tx,rfl,Wp,hb⟩;replace HR:=Qa (HR.out.below hb);have Wj:Hid (∀s,o= .ok s->ta=s.tok.place):=λs hs=>(Wp s hs).2;clear hb Wp hp;obtain ⟨W,hW⟩:=Qb (w1.alloc (.cells #[.int .i64 23,.slice none 0 0,.int .i64 0,.string ⟨#[]⟩,.int .i64 (ta:Int)] 37));obtain ⟨N,hN⟩:=Qb w1.heap.size;have HQ:Hid (Run B g P T L w0 R0 d W R o N 23 (.slice none 0 0) [] 0 ⟨#[]⟩ (ta:Int)):=by rw [hW,hN,hw0,hR0];exact HR.out.node 23 0 ⟨#[]⟩ ta
 clear hw0 hR0 HR;go_wp2_with fail;rw [<-hW,<-hN];clear hW hN;have hp:=HQ.out.par.c0;refine Qn ?_;go_wp2_with fail;refine (Qb0 lc HQ.out.any).mono ?_;rintro en w2 ⟨⟨x,rfl⟩,ha,hf⟩;replace HQ:=Qa (HQ.out.step ha hf rfl);clear ha hf hp;have hp:=HQ.out.par.c0;have b4:=HQ.out.n4;go_wp2_with fail;go_still_tail 6,(by kernel_rfl);change wpList _ _ _ _ _ w2.drew;replace HQ:=Qa (HQ.out.below (Zk w2));clear hp b4;go_wp2_with fail;refine (Wh8 ta HQ.out.any (by have:=HD2.out;omega)).mono ?_;rintro en w3 ⟨⟨x3,rfl⟩,ha,hf⟩;replace HQ:=Qa (HQ.out.step ha hf rfl);clear ha hf;have HB0:Hid (Qro B g P T L M w0 R0 d o N ta w3 R (Gy d ta (Yv lc o)) (.slice none 0 0) []):=by
  refine ⟨HQ.out,Qc.open_ (Qc.Qpc HL.out),by simp,λs hs=> ?_,λu h=>Does.Qst Wj.out h⟩;have h1:=(Qc.open_ (d:=d) (a:=ta) (Qc.Ao (b:=lc) HL.out)) s hs;refine ⟨by simp;omega,?_⟩;rcases V7 d 200 with h2 |h2
  ·exact h2
  ·cases hn:Yv lc o with
   |error f=>rw [hn]at hs;cases hs
   |ok s1=>rw [hn,Ry h2]at hs;cases hs
 clear HQ;go_wp2_with fail;go_step3;go_wp2_with fail;go_loopw [4] (λt4 wr=> ∃(o1:Except Qq PS) (R1:Bx) (v1:Value) (acc:List Int),Hid (Qro B g P T L M w0 R0 d o N ta wr R1 o1 v1 acc)) (λ_ wr=>lam g L.length wr)
 case atStart=>exact ⟨_,R,_,[],HB0⟩
 case round=>
  obtain ⟨o1,R1,v1,acc,HX⟩:=hrel;clear HB0;have hp:=HX.out.run.par.c0;go_wp2_with fail;refine (G5 rc HX.out.run.any).mono ?_;rintro en w3 ⟨c,o',rfl,ha,hf,hc⟩;have HV:=Qa (HX.out.run.step ha hf rfl);have Tj:=Qa HX.out.few;clear ha hf hp;rcases hc with ⟨rfl,s,hs,hb,ho⟩ |⟨rfl,ho,hb⟩
  ·rw [ho]at HV;have HS:=Qa hs;have HB:=Qa hb;clear ho hs hb;have HLP:Hid (Qc (.ok s.next) L.length L.length):=(by have h1:=HX.out.lim;rw [HS.out]at h1;exact (h1.Fh HB.out).self.mono (by omega) (by omega));have hp:=HV.out.par.c0;go_wp2_with fail;refine (Q2g HV.out.any (by have:=HD2.out;omega)).mono ?_;rintro en w4 ⟨⟨x,rfl⟩,ha,hf⟩;replace HV:=Qa (HV.out.step ha hf rfl);clear ha hf hp;have hp:=HV.out.par.c0;have b0:=HV.out.n0;have b1:=HV.out.n1;have b2:=HV.out.n2;have b3:=HV.out.n3;have b4:=HV.out.n4;go_wp2_with fail;go_still_tail 5,(by kernel_rfl);change wpList _ _ _ _ _ w4.drew;have HZ:=Qa (HV.out.below (Zk w4));go_wp2_with fail;refine (Ob _ _ _ _ _ _ HZ.out.any HZ.out.now HLP.out Tj.out).mono ?_;rintro en wz ⟨uz,Rz,hdo,hc,Wd⟩;obtain rfl:=hc.en;have Eb:=Qa (HZ.out.came hc);have Gp:=Qa hdo;clear hdo hc Wd;go_wp2_with fail;rw [Exit.noGoto_ret];go_ret;have hw0:=HW0.out;have hR0:=Jg.out;subst hw0 hR0;have hs:=HS.out;subst hs;exact ⟨uz,_,HX.out.cont uz (Does.Qhe HB.out Gp.out),Eb.out⟩
  ·rw [ho]at HV;have HB:=Qa hb;clear ho hb;go_wp2_with fail;refine (HST.out _ _ _ _ HV.out.any HV.out.par (λs hs=>by have:=(HX.out.many s hs).2;omega) (HX.out.lim.mono (by omega) (Qh _))).mono ?_;rintro en w5 ⟨u,R5,hdo,hc,Wd⟩;obtain rfl:=hc.en;replace HV:=Qa (HV.out.step hc.any hc.fr hc.z);have Wu:=Qa hdo;have Xo:=Qa Wd;obtain ⟨k,hk⟩:=Qb (Qt u);rw [<-hk];have HK:=Qa hk;clear hdo hc Wd hk;by_cases hk1:k= -1
   ·have hkb:(k== -1)=true:=(by simp [hk1]);obtain ⟨f1,hf1⟩: ∃f1,u= .error f1:=by
     match u,Wu,HK with
     | .error f1,_,_=>exact ⟨f1,rfl⟩
     | .ok (l,s1),Wu,HK=>
      have h1:=Wu.out.Wk5 l s1 rfl;have h2:k=hd1 l:=HK.out;omega
    subst hf1;clear hk1;have hp:=HV.out.par.c0;go_wp2_with fail;refine (Q2g HV.out.any (by have:=HD2.out;omega)).mono ?_;rintro en w4 ⟨⟨x,rfl⟩,ha,hf⟩;replace HV:=Qa (HV.out.step ha hf rfl);clear ha hf hp;have hp:=HV.out.par.c0;have b0:=HV.out.n0;have b1:=HV.out.n1;have b2:=HV.out.n2;have b3:=HV.out.n3;have b4:=HV.out.n4;go_wp2_with fail;go_still_tail 5,(by kernel_rfl);change wpList _ _ _ _ _ w4.drew;have HZ:=Qa (HV.out.below (Zk w4));go_wp2_with fail;refine (Ob _ _ _ _ _ _ HZ.out.any HZ.out.now Qc.err Tj.out).mono ?_;rintro en wz ⟨uz,Rz,hdo,hc,Wd⟩;obtain rfl:=hc.en;have Eb:=Qa (HZ.out.came hc);have Gp:=Qa hdo;clear hdo hc Wd;go_wp2_with fail;rw [Exit.noGoto_ret];go_ret;have hw0:=HW0.out;have hR0:=Jg.out;subst hw0 hR0;have hu:uz= .error f1:=Gp.out;rw [hu]at Eb ⊢;exact ⟨.error f1,_,HX.out.cont _ (Does.Qpo HB.out Wu.out),Eb.out⟩
   ·have hkb:(k== -1)=false:=(by simp [hk1]);obtain ⟨l,s1,hu⟩: ∃l s1,u= .ok (l,s1):=by
     match u,Wu,HK with
     | .error f1,_,HK=>exact absurd HK.out hk1
     | .ok (l,s1),Wu,HK=>exact ⟨l,s1,rfl⟩
    subst hu;obtain ⟨s,hs⟩: ∃s,o1= .ok s:=by
     cases o1 with
     |error f=>exact absurd Wu.out (by intro h;cases h)
     |ok s=>exact ⟨s,rfl⟩
    have HS:=Qa hs;clear hs;have b1:=HV.out.n1;have HRS:=Qa (Qs6 (H:=HX.out.run.any) HS.out);have hal:acc.length<=99999:=(by have h1:=HX.out.many s HS.out;have h2:=HRS.out;have h3:=Quj.out;omega);have G7:=Qa hal;clear hal hk1;go_wp2_with (at_builtin;refine Hf rfl (.tmp 34) (.tmp 36) rfl w0.heap.size w5 v1 acc k rfl rfl HV.out.now HV.out.fr.size (by have:=G7.out;omega) ?_;intro v3 w6 h3 hg3 hw3;obtain ⟨va,vc,hv3⟩:=Zq h3;obtain ⟨R3,hr3,hc3,hf3⟩:=HV.out.push h3 hg3 hw3;have HR3:=Qa hr3;clear hr3 h3 hg3 hw3;rw [Qf,Yw]at hv3;subst hv3);have Yi:Hid (Qro B g P T L M w0 R0 d o N ta (w6.setCell ⟨N,1,none⟩ (.slice va (acc.length+1) vc)) R3 (.ok s1) (.slice va (acc.length+1) vc) (acc++[k])):=by
     have hlt:=Xo.out (L.length-1) (s.r.length-1) (by intro s' e;rw [HS.out]at e;injection e with e;subst e;have h1:=(HX.out.lim s HS.out).1;have h2:=HRS.out;exact ⟨by omega,by omega⟩) s1 rfl;have hlm:=HX.out.many s HS.out;have hp1:=HRS.out;have hlx:=Xo.out (L.length-2) (M-2) (by intro s' e;rw [HS.out]at e;injection e with e;subst e;have h1:=HX.out.lim s HS.out;exact ⟨by omega,by omega⟩);refine ⟨HR3.out,λs' e=> ?_,by rw [Qf,Yw];have:=G7.out;omega,λs' e=> ?_,λu h=> ?_⟩
     ·injection e with e
      subst e;have h1:=hlx s1 rfl;have h2:=HX.out.lim s HS.out;exact ⟨by omega,by omega⟩
     ·injection e with e
      subst e;rw [Qf,Yw];exact ⟨by omega,hlm.2⟩
     ·exact HX.out.cont u (Does.Qlm HB.out Wu.out (Q9n Wu.out) (by rw [HK.out]at h;exact h))
    have HMS:Hid (lam g L.length (w6.setCell ⟨N,1,none⟩ (.slice va (acc.length+1) vc))<lam g L.length wr):=by have h1:Good B g L _ R3 (d+1) s1:=HR3.out.any;have h2:=HX.out.run.any;rw [HS.out]at h2;have h2:Good B g L wr R1 (d+1) s:=h2;have hlt:=Xo.out (L.length-1) (s.r.length-1) (by intro s' e;rw [HS.out]at e;injection e with e;subst e;have h1:=(HX.out.lim s HS.out).1;have h2:=HRS.out;exact ⟨by omega,by omega⟩) s1 rfl;have hp1:=HRS.out;show lam _ _ _<lam _ _ _;rw [h1.lam,h2.lam];omega
    go_wp2_with fail;go_roundw
    case rel=>exact ⟨_,R3,_,_,Yi⟩
    case measure=>exact HMS.out
theorem Q4u (B g P T:Nat) (L:List Tk): ∀M,(∀m,m<=M->Qsm B g P T L m/\Ig B g P T L m)
 | 0=>by
  have h1:Qsm B g P T L 0:=λw R d o H hP hd hl=>Q0b (λm hm=>absurd hm (by omega)) H hP hd hl;intro m hm;obtain rfl:m=0:=by omega
  exact ⟨h1,λw R d o H hP hd hl=>Q5a h1 H hP hd hl⟩
 |M+1=>by
  have ih:=Q4u B g P T L M;intro m hm;rcases V7 m (M+1)with h |h
  ·exact ih m (by omega)
  ·obtain rfl:m=M+1:=(by omega);exact ⟨λw R d o H hP hd hl=>Q0b (λk hk=>(ih k (by omega)).2) H hP hd hl,λw R d o H hP hd hl=>Q5a (ih M (Qh _)).1 H hP hd hl⟩
theorem Wh3 (H:Any B g L w R d o) (hP:Ke w g P T) (hd:d<=200) (hl:Qc o L.length L.length):
  Calls prog 95 #[.pointer (some ⟨P,0,none⟩)] w λen w'=> ∃u R',Does o (λs n=>Qac n .block d s) u/\Came B g L w R d u en w' R'/\ ∀n m,Qc o n m->Qc (toO u) n m:=Ig.use (Q4u B g P T L L.length L.length (Qh _)).2 H hP hd hl
end
end Go.Proofs.YtdncpkkhkbijfaaGreatDoor
