import Derived.Test.YtdncpkkhkbijfaaGreatDoorBa18
import Derived.Deep.DeepCutAuto
open Go.Proofs.Tryz
set_option linter.all false
set_option maxHeartbeats 0
set_option maxRecDepth 100000
namespace Go.Proofs.YtdncpkkhkbijfaaGreatDoor
section
open Go.RowKit
def Qml (P:Nat):Array Value:=
 #[.string ⟨#[118,97,114]⟩,.int .i64 12,.func (.func 53) #[.pointer (some ⟨P,0,none⟩)] #[],
  .string ⟨#[105,102]⟩,.int .i64 15,.func (.func 54) #[.pointer (some ⟨P,0,none⟩)] #[],
  .string ⟨#[119,104,105,108,101]⟩,.int .i64 16,.func (.func 55) #[.pointer (some ⟨P,0,none⟩)] #[],
  .string ⟨#[102,111,114]⟩,.int .i64 17,.func (.func 56) #[.pointer (some ⟨P,0,none⟩)] #[],
  .string ⟨#[98,114,101,97,107]⟩,.int .i64 18,.func (.func 57) #[.pointer (some ⟨P,0,none⟩)] #[],
  .string ⟨#[99,111,110,116,105,110,117,101]⟩,.int .i64 19,.func (.func 57) #[.pointer (some ⟨P,0,none⟩)] #[],
  .string ⟨#[114,101,116,117,114,110]⟩,.int .i64 20,.func (.func 58) #[.pointer (some ⟨P,0,none⟩)] #[],
  .string ⟨#[112,114,105,110,116]⟩,.int .i64 21,.func (.func 58) #[.pointer (some ⟨P,0,none⟩)] #[]]
def Qow:Array Value:= #[.string ⟨#[]⟩,.string ⟨#[105,110,116]⟩,.string ⟨#[98,111,111,108]⟩,.string ⟨#[97,114,114]⟩]
def Qcj (w:World):Prop:= ∃t fr,w.heap[5]? =some (.cells Qow t fr)
theorem Qog:5<Vw:=by decide
structure Ke (w:World) (g P T:Nat):Prop where
 box:Held w P 62 #[.pointer (some ⟨g,0,none⟩),.slice (some ⟨T,0,none⟩) 8 8]
 tab:Held w T 95 (Qml P)
 kw:Qcj w
variable {B g P T N:Nat}{L:List Tk}{w0 w w':World}{R0 R R':Bx}{d d':Nat}{o o':Except Qq PS}{v:Value}{acc:List Int}{K n a:Int}{S:ByteArray}
theorem Ke.keep (H:Any B g L w R d o) (F:Fr g w w' R R') (h:Ke w g P T):Ke w' g P T:=by refine ⟨H.held F h.box (by decide) (by decide) (H.Lj h.box (by decide)),H.held F h.tab (by decide) (by decide) (H.Lj h.tab (by decide)),?_⟩;obtain ⟨t,fr,hk⟩:=h.kw;exact ⟨t,fr,(H.low F Qog).trans hk⟩
theorem Ke.c0 (h:Ke w g P T):w.cell? ⟨P,0,none⟩=some (.pointer (some ⟨g,0,none⟩)):=h.box.at_ rfl
theorem Ke.c1 (h:Ke w g P T):w.cell? ⟨P,1,none⟩=some (.slice (some ⟨T,0,none⟩) 8 8):=h.box.at_ rfl
structure Pre (B g P T:Nat) (L:List Tk) (w0:World) (R0:Bx) (d:Nat) (w:World) (R:Bx) (o:Except Qq PS) (v:Value) (acc:List Int):Prop where
 any:Any B g L w R d o
 fr:Fr g w0 w R0 R
 z0: ∀k,R0.Z k->R.Z k
 zv: ∀k,v.ownBlock=some k->R.Z k
 now:Now w0.heap.size w v acc
 par:Ke w g P T
 base:Vw<=w0.heap.size
structure Run (B g P T:Nat) (L:List Tk) (w0:World) (R0:Bx) (d:Nat) (w:World) (R:Bx) (o:Except Qq PS) (N:Nat) (K:Int) (v:Value) (acc:List Int) (n:Int) (S:ByteArray) (a:Int):Prop extends Pre B g P T L w0 R0 d w R o v acc where
 box:Held w N 37 #[.int .i64 K,v,.int .i64 n,.string S,.int .i64 a]
 off:R.vn.ownBlock≠some N
 new:w0.heap.size<=N
theorem Any.Qq1 (h:Now B w v acc) {B1:Nat} (H:Any B1 g L w R d o) (hz: ∀k,v.ownBlock=some k->R.Z k) (F:Fr g w w' R R'):Now B w' v acc:=by
 obtain ⟨p,l,hh,e,q,H⟩:=H.core;refine h.Qt2 (λk hk=> ?_);have hlt:=(World.ownsRow.lt h k hk).2;refine F.block k hlt ?_ ?_ ((H.zone k (hz k hk)).2.1)
 ·intro e;subst e;exact Yr h H.box (by decide) hk
 ·intro e;rcases Nr h H.own (by decide)with h1 |h1
  ·rw [h1]at hk;cases hk
  ·exact h1 (hk.trans e.symm)
theorem Pre.step (H:Pre B g P T L w0 R0 d w R o v acc) (hA:Any B g L w' R' d' o') (F:Fr g w w' R R') (hz:R'.Z=R.Z):Pre B g P T L w0 R0 d' w' R' o' v acc:=
 ⟨hA,H.fr.trans F,λk hk=>by rw [hz];exact H.z0 k hk,λk hk=>by rw [hz];exact H.zv k hk,Any.Qq1 H.now H.any H.zv F,H.par.keep H.any F,H.base⟩
theorem Run.step (H:Run B g P T L w0 R0 d w R o N K v acc n S a) (hA:Any B g L w' R' d' o') (F:Fr g w w' R R') (hz:R'.Z=R.Z):Run B g P T L w0 R0 d' w' R' o' N K v acc n S a:=by
 refine ⟨H.toPre.step hA F hz,H.any.held F H.box (by decide) (by decide) H.off,λe=> ?_,H.new⟩;rcases F.vn N e with h |h
 ·exact H.off h
 ·have:=H.box.lt;omega
theorem Pre.below (H:Pre B g P T L w0 R0 d w R o v acc) (hb:Below w.heap.size w w'):Pre B g P T L w0 R0 d w' R o v acc:=H.step (H.any.below hb) (Fr.of_below R hb) rfl
theorem Run.below (H:Run B g P T L w0 R0 d w R o N K v acc n S a) (hb:Below w.heap.size w w'):Run B g P T L w0 R0 d w' R o N K v acc n S a:=H.step (H.any.below hb) (Fr.of_below R hb) rfl
theorem Zk (w:World):Below w.heap.size w w.drew:=(Wq w 1 _)
theorem Pre.start (H:Any B g L w R d o) (hP:Ke w g P T):Pre B g P T L w R d w R o (.slice none 0 0) []:=
 ⟨H,Fr.of_below R (Below.refl _ _),λk hk=>hk,λk hk=>by simp [Value.ownBlock]at hk,⟨rfl,.inl ⟨rfl,rfl⟩⟩,hP,H.tabs.size⟩
theorem Any.Q1s (H:Any B g L w R d o):R.vn.ownBlock≠some w.heap.size:=by obtain ⟨p,l,hh,e,q,H⟩:=H.core;exact λe=>by have:=(H.own.lt _ e).2;omega
theorem Pre.node (H:Pre B g P T L w0 R0 d w R o v acc) (K n:Int) (S:ByteArray) (a:Int):Run B g P T L w0 R0 d (w.alloc (.cells #[.int .i64 K,v,.int .i64 n,.string S,.int .i64 a] 37)) R o w.heap.size K v acc n S a:=
 ⟨H.below Qag,Held.new _ _ _,H.any.Q1s,H.fr.size⟩
theorem Pre.Qcg (H:Pre B g P T L w0 R0 d w R o v acc) {cs:Array Value} (Lb:Held w N 37 cs) (off:R.vn.ownBlock≠some N) (new:w0.heap.size<=N) (i:Nat) (u:Value):Pre B g P T L w0 R0 d (w.setCell ⟨N,i,none⟩ u) R o v acc:=by
 have hN:Vw<=N:=F7 H.base new;have gr:=Gv w N i u;refine ⟨H.any.other Lb off hN gr,H.fr.other new gr,H.z0,H.zv,World.ownsRow.kept H.now gr (.inr (Yr H.now Lb (by decide))),?_,H.base⟩;have K1: ∀k,k≠N->(w.setCell ⟨N,i,none⟩ u).heap[k]? =w.heap[k]?:=λk hk=>Below.heap_setCell w ⟨N,i,none⟩ u k hk;have hne: ∀{G t cs},Held w G t cs->t≠37->G≠N:=by
  intro G t cs hG ht e;subst e;have h5:w.heap[G]? =_:=hG;have h6:w.heap[G]? =_:=Lb;rw [h5]at h6;injection h6 with h6
  injection h6 with _ h7
  exact ht h7
 refine ⟨H.par.box.block (K1 P (hne H.par.box (by decide))),H.par.tab.block (K1 T (hne H.par.tab (by decide))),?_⟩;obtain ⟨t,fr,hk⟩:=H.par.kw;exact ⟨t,fr,(K1 _ (by have:=Qog;omega)).trans hk⟩
theorem Run.Qmi (H:Run B g P T L w0 R0 d w R o N K v acc n S a) (n':Int):Run B g P T L w0 R0 d (w.setCell ⟨N,2,none⟩ (.int .i64 n')) R o N K v acc n' S a:=
 ⟨H.toPre.Qcg H.box H.off H.new 2 _,H.box.set 2 _,H.off,H.new⟩
theorem Pre.Qx3 {u:Value} (H:Pre B g P T L w0 R0 d w R o v acc) (Lb:Held w N 37 #[.int .i64 K,u,.int .i64 n,.string S,.int .i64 a]) (off:R.vn.ownBlock≠some N) (new:w0.heap.size<=N):Run B g P T L w0 R0 d (w.setCell ⟨N,1,none⟩ v) R o N K v acc n S a:=
 ⟨H.Qcg Lb off new 1 _,Lb.set 1 _,off,new⟩
theorem Run.Qy9 (H:Run B g P T L w0 R0 d w R o N K v acc n S a) (K' n':Int) (S':ByteArray) (a':Int):Run B g P T L w0 R0 d (((((w.setCell ⟨N,0,none⟩ (.int .i64 K')).setCell ⟨N,1,none⟩ (.slice none 0 0)).setCell ⟨N,2,none⟩ (.int .i64 n')).setCell ⟨N,3,none⟩ (.string S')).setCell ⟨N,4,none⟩ (.int .i64 a')) R o N K' (.slice none 0 0) [] n' S' a':=by have h0:Pre B g P T L w0 R0 d w R o (.slice none 0 0) []:=⟨H.any,H.fr,H.z0,λk hk=>by simp [Value.ownBlock]at hk,⟨rfl,.inl ⟨rfl,rfl⟩⟩,H.par,H.base⟩;have b0:=H.box;have h1:=h0.Qcg b0 H.off H.new 0 (.int .i64 K');have b1:=b0.set 0 (.int .i64 K');have h2:=h1.Qcg b1 H.off H.new 1 (.slice none 0 0);have b2:=b1.set 1 (.slice none 0 0);have h3:=h2.Qcg b2 H.off H.new 2 (.int .i64 n');have b3:=b2.set 2 (.int .i64 n');have h4:=h3.Qcg b3 H.off H.new 3 (.string S');have b4:=b3.set 3 (.string S');have h5:=h4.Qcg b4 H.off H.new 4 (.int .i64 a');have b5:=b4.set 4 (.int .i64 a');exact ⟨h5,b5,H.off,H.new⟩
theorem Pre.push (H:Pre B g P T L w0 R0 d w R o v acc) {w3:World} {v3:Value} {k:Int} {cs:Array Value} (h3:Now w0.heap.size w3 v3 (acc++[k])) (hg:(w.alloc (.cells cs 3)).grownBy w3 v.ownBlock) (hw: ∀j,v3.ownBlock=some j->v.ownBlock=some j\/j=(w.alloc (.cells cs 3)).heap.size):
  ∃R3,Pre B g P T L w0 R0 d w3 R3 o v3 (acc++[k])/\R3.vn=R.vn:=by
 have hB:Below w.heap.size w (w.alloc (.cells cs 3)):=Qag;have hv:=Dr H.now hB;have K1: ∀G t cs',Held w G t cs'->t≠3->w3.heap[G]? =w.heap[G]?:=by intro G t cs' hG ht;rw [hg.block G (by have:=hG.lt;have:=hB.size;omega) (λe=>Yr H.now hG (λe=>ht e.symm) e.symm),hB.block G hG.lt]
 refine ⟨{R with Z:=λk=>R.Z k\/v3.ownBlock=some k},⟨H.any.wider hB hv H.base H.zv hg _ (λk hk=> ?_),Qmb H.fr hB hv hg _,λk hk=>.inl (H.z0 k hk),λk hk=>.inr hk,h3,⟨H.par.box.block (K1 _ _ _ H.par.box (by decide)),H.par.tab.block (K1 _ _ _ H.par.tab (by decide)),?_⟩,H.base⟩,rfl⟩
 ·rcases hk with hk |hk
  ·exact .inl hk
  ·rcases hw k hk with h1 |h1
   ·exact .inl (H.zv k h1)
   ·exact .inr ⟨by rw [h1];simp,(World.ownsRow.lt h3 k hk).2⟩
 ·obtain ⟨t,fr,hk⟩:=H.par.kw;have hlt:=(Array.getElem?_eq_some_iff.1 hk).1;have hl:=Qog;have hb:=H.base;exact ⟨t,fr,(hg.block _ (by have:=hB.size;omega) (λe=>by have:=(World.ownsRow.lt H.now _ e.symm).1;omega)).trans ((hB.block _ hlt).trans hk)⟩
theorem Run.push (H:Run B g P T L w0 R0 d w R o N K v acc n S a) {w3:World} {v3:Value} {k:Int} {cs:Array Value} (h3:Now w0.heap.size w3 v3 (acc++[k])) (hg:(w.alloc (.cells cs 3)).grownBy w3 v.ownBlock) (hw: ∀j,v3.ownBlock=some j->v.ownBlock=some j\/j=(w.alloc (.cells cs 3)).heap.size):
  ∃R3,Run B g P T L w0 R0 d (w3.setCell ⟨N,1,none⟩ v3) R3 o N K v3 (acc++[k]) n S a/\w3.cell? ⟨N,1,none⟩=some v/\w3.frozen? ⟨N,1,none⟩=false:=by
 obtain ⟨R3,h1,h2⟩:=H.toPre.push h3 hg hw;have hB:Below w.heap.size w (w.alloc (.cells cs 3)):=Qag;have Lb:Held w3 N 37 _:=H.box.block (by rw [hg.block N (by have:=H.box.lt;have:=hB.size;omega) (λe=>Yr H.now H.box (by decide) e.symm),hB.block N H.box.lt]);exact ⟨R3,h1.Qx3 Lb (by rw [h2];exact H.off) H.new,Lb.at_ rfl,Lb.frozen 1⟩
end
section
open Go.RowKit
variable {B g P T N:Nat}{L:List Tk}{w0 w w':World}{R0 R R':Bx}{d:Nat}{o:Except Qq PS}{v:Value}{acc:List Int}{K n:Int}{S:ByteArray}
theorem Mf {ops:Array Oper} {o:Oper} {a:Act} {K:Act->World->Prop} {Q:Exit->Act->World->Prop} {E:Prop} (hgd:o.guard=none) (s x:Operand)
  (ho:o.op= .call {callee:=.builtin .append,args:= #[s,x],argTypes:= #[35,35]})
  (B:Nat) (w:World) (v:Value) (xs:List Int) (z:Int) (hs:a.eval s=v) (hx:a.eval x= .slice (some ⟨w.heap.size,0,none⟩) 1 1) (hb:Now B w v xs) (hB:B<=w.heap.size) (hlen:xs.length<=10000000)
  (h: ∀v' w',Now B w' v' (xs++[z])->(w.alloc (.cells #[.int .i64 z] 3)).grownBy w' v.ownBlock->(∀k,v'.ownBlock=some k->v.ownBlock=some k\/k=(w.alloc (.cells #[.int .i64 z] 3)).heap.size)->K (a.put o.dst v') w'):
  if Region.wanted o (yielded ops a.tmps)=true then Oper.wp prog o a (w.alloc (.cells #[.int .i64 z] 3)) K Q else E:=by
 obtain ⟨i0,hi,hz0,hz1,hz2⟩:=info_parts Qlf;refine step_append_lies _ hgd s x 35 ho B 3 i0 (.int .i64 0) 1 8 underlying35 hi hz0 hz1 hz2 rfl (by decide) v xs.length (xs.map (Value.int .i64)) hs (World.ownsRow.alloc hb _) ⟨w.heap.size,0,none⟩ 1 1 [.int .i64 z] hx rfl ?_ ?_ (by decide) (by unfold maxLen;omega) (by omega) (by simp;omega) _ rfl ?_
 ·intro j u hj
  match j,hj with
  | 0,hj=>simp at hj;subst hj;simp [Addr.add]
 ·intro u hu;simp at hu;subst hu;rfl
 ·intro g cap w' hown hgrow hw hlt;refine h (.slice (some ⟨g,0,none⟩) (xs.length+1) cap) w' (by unfold Now;rw [Qf,Zp];exact hown) hgrow (λk hk=> ?_);simp [Value.ownBlock]at hk;subst hk;exact hw
theorem Qc.Ao {b:List UInt8} {n m:Nat} (h:Qc o n m):Qc (Yv b o) n m:=by
 cases o with
 |error f=>exact Qc.err
 |ok s=>
  cases hb:s.is b with
  |true=>
   have h1:=h s rfl;have h2:=Ve hb;exact ((Qc.need (b:=b) (n:=n-1) (m:=m-1) (h.mono (by omega) (by omega))).mono (by omega) (by omega))
  |false=>rw [Ov hb];exact Qc.err
theorem Qc.Sk {n m:Nat} (h:Qc o n m):Qc (Vg o) n m:=by
 cases o with
 |error f=>exact Qc.err
 |ok s=>
  by_cases hb:s.tok.kind=1
  ·have h1:=h s rfl;have h2:=Cr (s:=s) (by omega);exact ((Qc.name (n:=n-1) (m:=m-1) (h.mono (by omega) (by omega))).mono (by omega) (by omega))
  ·rw [Qcr hb];exact Qc.err
theorem Run.came {a:Int} (H:Run B g P T L w0 R0 d w R o N K v acc n S a) {u:Out} {en:Ending} (C:Came B g L w R d u en w' R'):Came B g L w0 R0 d u en w' {R' with Z:=R0.Z}:=
 ⟨(H.fr.trans C.fr).right _,rfl,C.en,C.any.less _ (λk hk=>by rw [C.z];exact H.z0 k hk)⟩
def Tx (B g P T:Nat) (L:List Tk) (w0:World) (R0:Bx) (d:Nat) (o:Except Qq PS) (F:PS->Nat->Option Out) (N:Nat) (K:Int) (acc:List Int) (n:Int) (S:ByteArray) (a:Int) (wx:World):Prop:=
 ∃u R3 v3,Does o F u/\(∀n m,Qc o n m->Qc (toO u) n m)/\Run B g P T L w0 R0 d wx R3 (toO u) N K v3 (acc++[Qt u]) n S a
theorem Run.n0 {a:Int} (H:Run B g P T L w0 R0 d w R o N K v acc n S a):w.cell? ⟨N,0,none⟩=some (.int .i64 K):=H.box.at_ rfl
theorem Run.n1 {a:Int} (H:Run B g P T L w0 R0 d w R o N K v acc n S a):w.cell? ⟨N,1,none⟩=some v:=H.box.at_ rfl
theorem Run.n2 {a:Int} (H:Run B g P T L w0 R0 d w R o N K v acc n S a):w.cell? ⟨N,2,none⟩=some (.int .i64 n):=H.box.at_ rfl
theorem Run.n3 {a:Int} (H:Run B g P T L w0 R0 d w R o N K v acc n S a):w.cell? ⟨N,3,none⟩=some (.string S):=H.box.at_ rfl
theorem Run.n4 {a:Int} (H:Run B g P T L w0 R0 d w R o N K v acc n S a):w.cell? ⟨N,4,none⟩=some (.int .i64 a):=H.box.at_ rfl
theorem Ql5 {a:Nat} (H:Pre B g P T L w0 R0 d w R o v acc) (hl:Qc o L.length L.length) (hn:acc.length<=100000):
  Calls prog 57 #[.pointer (some ⟨P,0,none⟩),.agg #[.int .i64 K,v,.int .i64 n,.string S,.int .i64 (a:Int)]] w λen w'=> ∃u R',Does o (λs _=>Qm semi s λs1=>some (lay (En K acc n S (a:Int)) s1)) u/\Came B g L w0 R0 d u en w' R'/\ ∀n m,Qc o (n+1) (m+1)->Qc (toO u) (n+1) m:=by
 obtain ⟨W,hW⟩:=Qb (w.alloc (.cells #[.int .i64 K,v,.int .i64 n,.string S,.int .i64 (a:Int)] 37));obtain ⟨N,hN⟩:=Qb w.heap.size;have HR:Hid (Run B g P T L w0 R0 d W R o N K v acc n S (a:Int)):=by rw [hW,hN];exact H.node K n S a
 have HL:=Qa hl;have HN:=Qa hn;have hp:=HR.out.par.c0;clear H hl hn;go_enter func57,ntmps57;rw [Qz 1];go_wp2_with fail;rw [<-hW,<-hN];clear hW hN;refine Qn ?_;go_wp2_with fail;refine (Qb0 semi HR.out.any).mono ?_;rintro en w1 ⟨⟨x,rfl⟩,ha,hf⟩;replace HR:=Qa (HR.out.step ha hf rfl);clear ha hf hp;have hp:=HR.out.par.c0;have b0:=HR.out.n0;have b1:=HR.out.n1;have b2:=HR.out.n2;have b3:=HR.out.n3;have b4:=HR.out.n4;go_wp2_with fail;go_still_tail 5,(by kernel_rfl);change wpList _ _ _ _ _ w1.drew;replace HR:=Qa (HR.out.below (Zk w1));go_wp2_with fail;refine (Ob K v acc n S a HR.out.any HR.out.now (Qc.Ao HL.out) HN.out).mono ?_;rintro en w2 ⟨u,R',hdo,hc,Wd⟩;obtain rfl:=hc.en;have HC:=Qa (HR.out.came hc);have HD:=Qa (Does.need (b:=semi) (G:=λs _=>some (lay (En K acc n S (a:Int)) s)) hdo);have Xo:=Qa Wd;clear hdo hc Wd;go_wp2_with fail;go_ret;exact ⟨u,_,HD.out,HC.out,λn m h=>Xo.out n m h.need⟩
theorem Qt6 {a:Nat} (H:Pre B g P T L w0 R0 d w R o v acc) (hd: ∀s,o= .ok s->d<=200) (hl:Qc o L.length L.length) (hn:acc.length<=1000):
  Calls prog 58 #[.pointer (some ⟨P,0,none⟩),.agg #[.int .i64 K,v,.int .i64 n,.string S,.int .i64 (a:Int)]] w λen w'=> ∃u R',Does o (λs m=>Wy m d s λk s1=>Qm semi s1 λs2=>some (lay (En K (acc++[k]) n S (a:Int)) s2)) u/\Came B g L w0 R0 d u en w' R'/\ ∀n m,Qc o (n+1) (m+1)->Qc (toO u) (n+1) m:=by
 obtain ⟨W,hW⟩:=Qb (w.alloc (.cells #[.int .i64 K,v,.int .i64 n,.string S,.int .i64 (a:Int)] 37));obtain ⟨N,hN⟩:=Qb w.heap.size;have HR:Hid (Run B g P T L w0 R0 d W R o N K v acc n S (a:Int)):=by rw [hW,hN];exact H.node K n S a
 have HL:=Qa hl;have HN:=Qa hn;have Wv:=Qa hd;clear H hl hn hd;go_enter func58,ntmps58;go_wp2_with fail;rw [<-hW,<-hN];clear hW hN;have Q0:=Qa (HR.out.below (Zk W));have b1:=HR.out.n1;have hp:=HR.out.par.c0;go_cut [] (λwx=>Hid (Tx B g P T L w0 R0 d o (λs n=>Qg n (.chain 0) d s) N K acc n S (a:Int) wx))
 case first=>
  go_region_law (first
   |(go_simp;go_at_call 94;refine (Qic Q0.out.any Wv.out).mono ?_;rintro en w2 ⟨u,R2,hdo,hc,Wd⟩;obtain rfl:=hc.en;have HR2:=Qa (Q0.out.step hc.any hc.fr hc.z);have Wu:=Qa hdo;have Xo:=Qa Wd;obtain ⟨k,hk⟩:=Qb (Qt u);rw [<-hk];have HK:=Qa hk;clear hdo hc Wd hk;have c1:=HR2.out.n1;have c2:=(HR2.out.below ((Below.refl _ _).alloc (Qh _) (.cells #[.int .i64 k] 3))).n1)
   |(refine Mf rfl (.tmp 6) (.tmp 12) rfl w0.heap.size w2 v acc k (by rfl) (by rfl) HR2.out.now HR2.out.fr.size (by have:=HN.out;omega) ?_;intro v3 w3 h3 hg3 hw3;obtain ⟨va,vc,hv3⟩:=Zq h3;obtain ⟨R3,hr3,hc3,hf3⟩:=HR2.out.push h3 hg3 hw3;have HR3:=Qa hr3;clear hr3 h3 hg3 hw3;rw [Qf,Yw]at hv3;subst hv3))
  all_goals
   go_wp2_with fail;go_meet;exact ⟨u,R3,_,Wu.out,Xo.out,by rw [<-HK.out];exact HR3.out⟩
 case rest=>
  obtain ⟨u1,R1,v1,hdo,Wd,hr⟩:=hcut.out;obtain ⟨W1,hwc⟩:=Qb wc;rw [<-hwc]at hr ⊢;have HX:=Qa hr;have HD1:=Qa hdo;have Ym:=Qa Wd;clear hcut hdo Wd hr hwc hp b1 Q0;have b0:=HX.out.n0;have b1:=HX.out.n1;have b2:=HX.out.n2;have b3:=HX.out.n3;have b4:=HX.out.n4;go_wp2_with fail;refine (Ql5 HX.out.toPre (Ym.out _ _ HL.out) (by rw [Qf];have:=HN.out;simp;omega)).mono ?_;rintro en w5 ⟨u2,R5,hd2,hc2,hl2⟩;obtain rfl:=hc2.en;have HD2:=Qa hd2;have Y1:=Qa hc2;have HL2:=Qa hl2;clear hd2 hc2 hl2;go_wp2_with fail;go_ret;exact ⟨u2,R5,Does.ex (G:=λk s1 m=>Qm semi s1 λs2=>some (lay (En K (acc++[k]) n S (a:Int)) s2)) HD1.out HD2.out,Y1.out,λn m h=>HL2.out n m (Ym.out _ _ h)⟩
theorem Qqx {a:Nat} (H:Pre B g P T L w0 R0 d w R o v acc) (hd: ∀s,o= .ok s->d<=200) (hl:Qc o L.length L.length) (hn:acc.length<=1000):
  Calls prog 92 #[.pointer (some ⟨P,0,none⟩),.agg #[.int .i64 K,v,.int .i64 n,.string S,.int .i64 (a:Int)]] w λen w'=> ∃u R',Does o (λs m=>Qm eqs s λs0=>Wy m d s0 λk s1=>Qm semi s1 λs2=>some (lay (En K (acc++[k]) n S (a:Int)) s2)) u/\Came B g L w0 R0 d u en w' R'/\ ∀n m,Qc o (n+1) (m+1)->Qc (toO u) (n+1) m:=by
 obtain ⟨W,hW⟩:=Qb (w.alloc (.cells #[.int .i64 K,v,.int .i64 n,.string S,.int .i64 (a:Int)] 37));obtain ⟨N,hN⟩:=Qb w.heap.size;have HR:Hid (Run B g P T L w0 R0 d W R o N K v acc n S (a:Int)):=by rw [hW,hN];exact H.node K n S a
 have hp:=HR.out.par.c0;have HL:=Qa hl;have HN:=Qa hn;have Wv:=Qa hd;clear H hl hn hd;go_enter func92,ntmps92;rw [Qz 1,Qz 2];go_wp2_with fail;rw [<-hW,<-hN];clear hW hN;refine Qn ?_;go_wp2_with fail;refine (Qb0 eqs HR.out.any).mono ?_;rintro en w1 ⟨⟨x,rfl⟩,ha,hf⟩;replace HR:=Qa (HR.out.step ha hf rfl);clear ha hf hp;have b0:=HR.out.n0;have b1:=HR.out.n1;have b2:=HR.out.n2;have b3:=HR.out.n3;have b4:=HR.out.n4;go_wp2_with fail;refine Qn ?_;go_wp2_with fail;refine (Qt6 HR.out.toPre (λs hs=>by cases o with |error f=>cases hs |ok s=>exact Wv.out s rfl) (Qc.Ao HL.out) HN.out).mono ?_;rintro en w5 ⟨u2,R5,hd2,hc2,hl2⟩;obtain rfl:=hc2.en;have HD2:=Qa (Does.need (b:=eqs) (G:=λs0 m=>Wy m d s0 λk s1=>Qm semi s1 λs2=>some (lay (En K (acc++[k]) n S (a:Int)) s2)) hd2);have Y1:=Qa hc2;have HL2:=Qa hl2;clear hd2 hc2 hl2;go_wp2_with fail;go_ret;exact ⟨u2,R5,HD2.out,Y1.out,λn m h=>HL2.out n m (Qc.Ao h)⟩
theorem Qjj (H:Any B g L w R d o) (hP:Ke w g P T) (K:Int):
  Calls prog 93 #[.pointer (some ⟨P,0,none⟩),.int .i64 K] w λen w'=> ∃a:Nat,en= .returned (.agg #[.int .i64 K,.slice none 0 0,.int .i64 0,.string (Cj o),.int .i64 (a:Int)])/\(∀s,o= .ok s->a=s.tok.place)/\Any B g L w' R d (Vg o)/\Fr g w w' R R:=by
 obtain ⟨W,hW⟩:=Qb (w.alloc (.cells #[.int .i64 0,.slice none 0 0,.int .i64 0,.string ⟨#[]⟩,.int .i64 0] 37));obtain ⟨N,hN⟩:=Qb w.heap.size;have HR:Hid (Run B g P T L w R d W R o N 0 (.slice none 0 0) [] 0 ⟨#[]⟩ 0):=by rw [hW,hN];exact (Pre.start H hP).node 0 0 ⟨#[]⟩ 0
 have Xp:=Xm;have hp:=HR.out.par.c0;clear H hP;go_enter func93,ntmps93;rw [Qz 1,Qz 2];go_wp2_with fail;rw [<-hW,<-hN];clear hW hN;refine Qn ?_;go_wp2_with fail;refine (Qdl HR.out.any).mono ?_;rintro en w1 ⟨tk,tn,ta,tx,rfl,Wp,hb⟩;have Wj:=Qa Wp;replace HR:=Qa (HR.out.below hb);clear hb Wp hp;have hp:=HR.out.par.c0;go_wp2_with fail;refine Qn ?_;go_wp2_with fail;refine (Wc8 HR.out.any).mono ?_;rintro en w2 ⟨rfl,ha,hf⟩;replace HR:=Qa (HR.out.step ha hf rfl);obtain ⟨X,hX⟩:=Qb (Cj o);rw [<-hX];have HX:=Qa hX;clear ha hf hp hX;have b0:=HR.out.n0;have b1:=HR.out.n1;have b2:=HR.out.n2;have b3:=HR.out.n3;have b4:=HR.out.n4;have g0:=HR.out.box.frozen 0;have g1:=HR.out.box.frozen 1;have g2:=HR.out.box.frozen 2;have g3:=HR.out.box.frozen 3;have g4:=HR.out.box.frozen 4;go_wp2_with fail;have HS:=Qa (HR.out.Qy9 K 0 X (ta:Int));obtain ⟨W5,hW5⟩:=Qb (((((w2.setCell ⟨N,0,none⟩ (.int .i64 K)).setCell ⟨N,1,none⟩ (.slice none 0 0)).setCell ⟨N,2,none⟩ (.int .i64 0)).setCell ⟨N,3,none⟩ (.string X)).setCell ⟨N,4,none⟩ (.int .i64 (ta:Int)));rw [<-hW5]at HS ⊢;clear hW5 b0 b1 b2 b3 b4 g0 g1 g2 g3 g4;have b0:=HS.out.n0;have b1:=HS.out.n1;have b2:=HS.out.n2;have b3:=HS.out.n3;have b4:=HS.out.n4;exact bodyPost_ret (v:=.agg #[.int .i64 K,.slice none 0 0,.int .i64 0,.string X,.int .i64 (ta:Int)]) (by simp [results,results93,go_sem,b0,b1,b2,b3,b4]) rfl ⟨ta,by rw [HX.out],λs hs=>(Wj.out s hs).2,HS.out.any,HS.out.fr⟩
end
section
open Go.RowKit
variable {B g P T N:Nat}{L:List Tk}{w0 w w':World}{R0 R R':Bx}{d:Nat}{o:Except Qq PS}{v:Value}{acc:List Int}{K n:Int}{S:ByteArray}
theorem Qsv (H:Any B g L w R d o) (hP:Ke w g P T):
  Calls prog 101 #[.pointer (some ⟨P,0,none⟩)] w λen w'=>en= .returned (.int .i64 (Lv o:Int))/\Any B g L w' R d (F3 o)/\Fr g w w' R R:=by
 have HR:=Qa (Pre.start H hP);have Xp:=Xm;clear H hP;go_enter func101,ntmps101;go_wp2_with fail;go_loopw [3] (λt3 wr=> ∃i:Nat,1<=i/\i<=4/\t3= .int .i64 (i:Int)/\Hid (Pre B g P T L w R d wr R o (.slice none 0 0) [])/\Hid (∀s,o= .ok s-> ∀j,1<=j->j<i->s.is (Te j)=false)) (λt3 _=>4-(intOf t3).toNat)
 case atStart=>exact ⟨1,by omega,by omega,rfl,HR,λs hs j h1 h2=>by omega⟩
 case round=>
  obtain ⟨i,h1,h4,rfl,HX,HN⟩:=hrel;clear HR;by_cases hi:i<4
  ·have hp:=HX.out.par.c0;obtain ⟨kt,kf,hk⟩:=HX.out.par.kw;have k1:wr.cell? ⟨5,1,none⟩=some (.string ⟨#[105,110,116]⟩):=(by simp [World.cell?,hk,Qow]);have k2:wr.cell? ⟨5,2,none⟩=some (.string ⟨#[98,111,111,108]⟩):=(by simp [World.cell?,hk,Qow]);have k3:wr.cell? ⟨5,3,none⟩=some (.string ⟨#[97,114,114]⟩):=(by simp [World.cell?,hk,Qow]);clear hk;have HD:=Qa (HX.out.below (Zk wr));have h3:i=1\/i=2\/i=3:=(by omega);rcases h3 with rfl |rfl |rfl
   ·go_wp2_with fail;go_still_tail 7,(by kernel_rfl);change wpList _ _ _ _ _ wr.drew;go_wp2_with fail;refine (G5 (Te 1) HD.out.any).mono ?_;rintro en w2 ⟨c,o',rfl,ha,hf,hc⟩;rcases hc with ⟨rfl,s,hs,hb,ho⟩ |⟨rfl,ho,hb⟩
    ·have HY:=Qa (HD.out.step ha hf rfl);have HK:Hid (Yt s.tok=1):=Qfd (by decide) (by decide) hb;have HO:=Qa ho;have HS:=Qa hs;clear ha hf hb ho hs;go_wp2_with fail;go_ret;have hk:=HK.out;have hs:=HS.out;subst hs;refine ⟨by show _=Ending.returned (.int .i64 ((Yt s.tok:Nat):Int));rw [hk];rfl,?_,HY.out.fr⟩;rw [U4 (by omega),<-HO.out];exact HY.out.any
    ·have HY:=Qa (HD.out.step ha hf rfl);rw [ho]at HY;have HB:=Qa hb;clear ha hf hb ho;go_wp2_with fail;go_roundw
     case rel=>exact ⟨1+1,by decide,by decide,by go_num,HY,λs hs=>Rn (X:=λj=>s.is (Te j)) (HN.out s hs) (HB.out s hs)⟩
     case measure=>simp [intOf]
   ·go_wp2_with fail;go_still_tail 7,(by kernel_rfl);change wpList _ _ _ _ _ wr.drew;go_wp2_with fail;refine (G5 (Te 2) HD.out.any).mono ?_;rintro en w2 ⟨c,o',rfl,ha,hf,hc⟩;rcases hc with ⟨rfl,s,hs,hb,ho⟩ |⟨rfl,ho,hb⟩
    ·have HY:=Qa (HD.out.step ha hf rfl);have HK:Hid (Yt s.tok=2):=Qfd (by decide) (by decide) hb;have HO:=Qa ho;have HS:=Qa hs;clear ha hf hb ho hs;go_wp2_with fail;go_ret;have hk:=HK.out;have hs:=HS.out;subst hs;refine ⟨by show _=Ending.returned (.int .i64 ((Yt s.tok:Nat):Int));rw [hk];rfl,?_,HY.out.fr⟩;rw [U4 (by omega),<-HO.out];exact HY.out.any
    ·have HY:=Qa (HD.out.step ha hf rfl);rw [ho]at HY;have HB:=Qa hb;clear ha hf hb ho;go_wp2_with fail;go_roundw
     case rel=>exact ⟨2+1,by decide,by decide,by go_num,HY,λs hs=>Rn (X:=λj=>s.is (Te j)) (HN.out s hs) (HB.out s hs)⟩
     case measure=>simp [intOf]
   ·go_wp2_with fail;go_still_tail 7,(by kernel_rfl);change wpList _ _ _ _ _ wr.drew;go_wp2_with fail;refine (G5 (Te 3) HD.out.any).mono ?_;rintro en w2 ⟨c,o',rfl,ha,hf,hc⟩;rcases hc with ⟨rfl,s,hs,hb,ho⟩ |⟨rfl,ho,hb⟩
    ·have HY:=Qa (HD.out.step ha hf rfl);have HK:Hid (Yt s.tok=3):=Qfd (by decide) (by decide) hb;have HO:=Qa ho;have HS:=Qa hs;clear ha hf hb ho hs;go_wp2_with fail;go_ret;have hk:=HK.out;have hs:=HS.out;subst hs;refine ⟨by show _=Ending.returned (.int .i64 ((Yt s.tok:Nat):Int));rw [hk];rfl,?_,HY.out.fr⟩;rw [U4 (by omega),<-HO.out];exact HY.out.any
    ·have HY:=Qa (HD.out.step ha hf rfl);rw [ho]at HY;have HB:=Qa hb;clear ha hf hb ho;go_wp2_with fail;go_roundw
     case rel=>exact ⟨3+1,by decide,by decide,by go_num,HY,λs hs=>Rn (X:=λj=>s.is (Te j)) (HN.out s hs) (HB.out s hs)⟩
     case measure=>simp [intOf]
  ·have hi4:i=4:=(by omega);subst hi4;have hp:=HX.out.par.c0;have HD:=Qa (HX.out.below (Zk wr));have hp2:=HD.out.par.c0;have HZ:Hid (Lv o=0/\F3 o=Lu 8 (match o with | .ok s=>s.tok.place | .error f=>0) o):=by
    cases o with
    |error f=>exact ⟨rfl,rfl⟩
    |ok s=>have:=Q2z (HN.out s rfl);exact ⟨this,Qd5 this⟩
   go_wp2_with fail;go_region_with (first
    |(go_at_call 61;refine (Qdl HD.out.any).mono ?_;rintro en w2 ⟨tk,tn,ta,tx,rfl,Wp,hb⟩;have Wj:=Qa Wp;have HY:=Qa (HD.out.below hb);have hp3:=HY.out.par.c0;clear hb Wp)
    |(go_at_call 60;refine (Qjg 8 ta (by decide) HY.out.any).mono ?_;rintro en w3 ⟨⟨v,rfl⟩,ha,hf⟩;have HF:=Qa (HY.out.step ha hf rfl);clear ha hf))
   all_goals
    go_wp2_with fail;go_ret;refine ⟨by rw [HZ.out.1];rfl,?_,HF.out.fr⟩;rw [HZ.out.2];have:=HF.out.any;cases o with
    |error f=>exact this
    |ok s=>have h2:=(Wj.out s rfl).2;subst h2;exact this
end
section
open Go.RowKit
variable {B g P T N:Nat}{L:List Tk}{w0 w w':World}{R0 R R':Bx}{d:Nat}{o:Except Qq PS}{v:Value}{acc:List Int}{K n:Int}{S:ByteArray}
def Ig (B g P T:Nat) (L:List Tk) (M:Nat):Prop:= ∀(w:World) (R:Bx) (d:Nat) (o:Except Qq PS),Any B g L w R d o->Ke w g P T->d<=200->Qc o L.length M->
 Calls prog 95 #[.pointer (some ⟨P,0,none⟩)] w λen w'=> ∃u R',Does o (λs n=>Qac n .block d s) u/\Came B g L w R d u en w' R'
theorem Ig.use {M:Nat} (h:Ig B g P T L M) (H:Any B g L w R d o) (hP:Ke w g P T) (hd:d<=200) (hl:Qc o L.length M):
  Calls prog 95 #[.pointer (some ⟨P,0,none⟩)] w λen w'=> ∃u R',Does o (λs n=>Qac n .block d s) u/\Came B g L w R d u en w' R'/\ ∀n m,Qc o n m->Qc (toO u) n m:=
 (h w R d o H hP hd hl).mono λen w' ⟨u,R',h1,h2⟩=>⟨u,R',h1,h2,h1.left (λacc e=>by cases e)⟩
theorem Q89 {a:Nat} (H:Any B g L w R d o) (hP:Ke w g P T) (hd: ∀s,o= .ok s->d<=200) (hl:Qc o L.length L.length):
  Calls prog 53 #[.pointer (some ⟨P,0,none⟩),.agg #[.int .i64 K,.slice none 0 0,.int .i64 0,.string ⟨#[]⟩,.int .i64 (a:Int)]] w λen w'=> ∃u R',Does o (λs m=>Xf s λnm at_ s0=>Qm eqs s0 λs1=>Wy m d s1 λk s2=>Qm semi s2 λs3=>some (lay (En K [k] 0 nm (at_:Int)) s3)) u/\Came B g L w R d u en w' R'/\ ∀n m,Qc o n m->Qc (toO u) (n+1) m:=by
 obtain ⟨W,hW⟩:=Qb (w.alloc (.cells #[.int .i64 K,.slice none 0 0,.int .i64 0,.string ⟨#[]⟩,.int .i64 (a:Int)] 37));obtain ⟨N,hN⟩:=Qb w.heap.size;obtain ⟨w0,hw0⟩:=Qb w;obtain ⟨R0,hR0⟩:=Qb R;have HR:Hid (Run B g P T L w0 R0 d W R o N K (.slice none 0 0) [] 0 ⟨#[]⟩ (a:Int)):=by rw [hW,hN,hw0,hR0];exact (Pre.start H hP).node K 0 ⟨#[]⟩ a
 have HW0:=Qa hw0;have Jg:=Qa hR0;clear hw0 hR0;have b0:=HR.out.n0;have Wv:=Qa hd;have HL:=Qa hl;clear H hP hd hl;go_enter func53,ntmps53;rw [Qz 1];go_wp2_with fail;rw [<-hW,<-hN];clear hW hN;refine Qn ?_;go_wp2_with fail;refine (Qjj HR.out.any HR.out.par K).mono ?_;rintro en w1 ⟨ta,rfl,Wp,ha,hf⟩;replace HR:=Qa (HR.out.step ha hf rfl);have Wj:=Qa Wp;obtain ⟨X,hX⟩:=Qb (Cj o);rw [<-hX];have HX:=Qa hX;clear ha hf Wp hX b0;go_wp2_with fail;refine (Qqx HR.out.toPre (λs hs=>by cases o with |error f=>cases hs |ok s=>exact Wv.out s rfl) (Qc.Sk HL.out) (by simp)).mono ?_;rintro en w5 ⟨u2,R5,hd2,hc2,hl2⟩;obtain rfl:=hc2.en;have HD2:=Qa hd2;have Y1:=Qa hc2;have HL2:=Qa hl2;clear hd2 hc2 hl2;go_wp2_with fail;go_ret;have hw0:=HW0.out;have hR0:=Jg.out;subst hw0 hR0;exact ⟨u2,R5,Does.name (G:=λnm at_ s0 m=>Qm eqs s0 λs1=>Wy m d s1 λk s2=>Qm semi s2 λs3=>some (lay (En K [k] 0 nm (at_:Int)) s3)) Wj.out (by rw [<-HX.out];exact HD2.out),Y1.out,λn m h=>HL2.out n m (Qc.Sk (h.mono (by omega) (by omega)))⟩
theorem Wrr {a M:Nat} (hB:Ig B g P T L M) (H:Any B g L w R d o) (hP:Ke w g P T) (hd:d<=200) (hl:Qc o L.length M):
  Calls prog 55 #[.pointer (some ⟨P,0,none⟩),.agg #[.int .i64 K,.slice none 0 0,.int .i64 0,.string ⟨#[]⟩,.int .i64 (a:Int)]] w λen w'=> ∃u R',Does o (λs m=>Wy m d s λk s1=>Out.go (Qac m .block d s1) λb s2=>some (lay (En K [k,hd1 b] 0 ⟨#[]⟩ (a:Int)) s2)) u/\Came B g L w R d u en w' R'/\ ∀n m,Qc o n m->Qc (toO u) (n+1) m:=by
 obtain ⟨W,hW⟩:=Qb (w.alloc (.cells #[.int .i64 K,.slice none 0 0,.int .i64 0,.string ⟨#[]⟩,.int .i64 (a:Int)] 37));obtain ⟨N,hN⟩:=Qb w.heap.size;obtain ⟨w0,hw0⟩:=Qb w;obtain ⟨R0,hR0⟩:=Qb R;have HR:Hid (Run B g P T L w0 R0 d W R o N K (.slice none 0 0) [] 0 ⟨#[]⟩ (a:Int)):=by rw [hW,hN,hw0,hR0];exact (Pre.start H hP).node K 0 ⟨#[]⟩ a
 have HW0:=Qa hw0;have Jg:=Qa hR0;clear hw0 hR0;have Wv:=Qa hd;have HL:=Qa hl;have Aq:=Qa hB;clear H hP hd hl hB;have G8:Hid (Qc o L.length L.length):=HL.out.self;go_enter func55,ntmps55;go_wp2_with fail;rw [<-hW,<-hN];clear hW hN;have Q0:=Qa (HR.out.below (Zk W));have b1:=HR.out.n1;have hp:=HR.out.par.c0;go_cut [] (λwx=>Hid (Tx B g P T L w0 R0 d o (λs n=>Qg n (.chain 0) d s) N K [] 0 ⟨#[]⟩ (a:Int) wx))
 case first=>
  go_region_law (first
   |(go_simp;go_at_call 94;refine ((Qic Q0.out.any (λs hs=>Wv.out))).mono ?_;rintro en w2 ⟨u,R2,hdo,hc,Wd⟩;obtain rfl:=hc.en;have HR2:=Qa (Q0.out.step hc.any hc.fr hc.z);have Wu:=Qa hdo;have Xo:=Qa Wd;obtain ⟨k,hk⟩:=Qb (Qt u);rw [<-hk];have HK:=Qa hk;clear hdo hc Wd hk;have c1:=HR2.out.n1;have c2:=(HR2.out.below ((Below.refl _ _).alloc (Qh _) (.cells #[.int .i64 k] 3))).n1)
   |(refine Mf rfl (.tmp 6) (.tmp 12) rfl w0.heap.size w2 (.slice none 0 0) [] k (by rfl) (by rfl) HR2.out.now HR2.out.fr.size (by simp) ?_;intro v3 w3 h3 hg3 hw3;obtain ⟨va,vc,hv3⟩:=Zq h3;obtain ⟨R3,hr3,hc3,hf3⟩:=HR2.out.push h3 hg3 hw3;have HR3:=Qa hr3;clear hr3 h3 hg3 hw3;rw [Qf,Yw]at hv3;subst hv3))
  all_goals
   go_wp2_with fail;go_meet;exact ⟨u,R3,_,Wu.out,Xo.out,by rw [<-HK.out];exact HR3.out⟩
 case rest=>
  obtain ⟨u1,R1,v1,hdo,Wd,hr⟩:=hcut.out;obtain ⟨W1,hwc⟩:=Qb wc;rw [<-hwc]at hr ⊢;have HX:=Qa hr;have HD1:=Qa hdo;have Ym:=Qa Wd;clear hcut hdo Wd hr hwc hp b1 Q0;go_wp2_with fail;have Q0:=Qa (HX.out.below (Zk W1));have b1:=HX.out.n1;have hp:=HX.out.par.c0;go_cut [] (λwx=>Hid (Tx B g P T L w0 R0 d (toO u1) (λs n=>Qac n .block d s) N K ([]++[Qt u1]) 0 ⟨#[]⟩ (a:Int) wx))
  case first=>
   go_region_law (first
    |(go_simp;go_at_call 95;refine ((Aq.out.use Q0.out.any Q0.out.par Wv.out (Ym.out _ _ HL.out))).mono ?_;rintro en w2 ⟨u,R2,hdo,hc,Wd⟩;obtain rfl:=hc.en;have HR2:=Qa (Q0.out.step hc.any hc.fr hc.z);have Wu:=Qa hdo;have Xo:=Qa Wd;obtain ⟨k,hk⟩:=Qb (Qt u);rw [<-hk];have HK:=Qa hk;clear hdo hc Wd hk;have c1:=HR2.out.n1;have c2:=(HR2.out.below ((Below.refl _ _).alloc (Qh _) (.cells #[.int .i64 k] 3))).n1)
    |(refine Mf rfl (.tmp 16) (.tmp 19) rfl w0.heap.size w2 v1 ([]++[Qt u1]) k (by rfl) (by rfl) HR2.out.now HR2.out.fr.size (by simp) ?_;intro v3 w3 h3 hg3 hw3;obtain ⟨va,vc,hv3⟩:=Zq h3;obtain ⟨R3,hr3,hc3,hf3⟩:=HR2.out.push h3 hg3 hw3;have HR3:=Qa hr3;clear hr3 h3 hg3 hw3;rw [Qf,Yw]at hv3;subst hv3))
   all_goals
    go_wp2_with fail;go_meet;exact ⟨u,R3,_,Wu.out,Xo.out,by rw [<-HK.out];exact HR3.out⟩
  case rest=>
   obtain ⟨u2,R2,v2,hdo,Wd,hr⟩:=hcut.out;obtain ⟨W2,hwc⟩:=Qb wc;rw [<-hwc]at hr ⊢;have HY:=Qa hr;have HD2:=Qa hdo;have Vm:=Qa Wd;clear hcut hdo Wd hr hwc hp b1 Q0;have hp:=HY.out.par.c0;have b0:=HY.out.n0;have b1:=HY.out.n1;have b2:=HY.out.n2;have b3:=HY.out.n3;have b4:=HY.out.n4;go_wp2_with fail;go_still_tail 5,(by kernel_rfl);change wpList _ _ _ _ _ W2.drew;have HZ:=Qa (HY.out.below (Zk W2));go_wp2_with fail;refine (Ob _ _ _ _ _ _ HZ.out.any HZ.out.now (Vm.out _ _ (Ym.out _ _ G8.out)) (by simp)).mono ?_;rintro en wz ⟨uz,Rz,hdo,hc,Wd⟩;obtain rfl:=hc.en;have Eb:=Qa (HZ.out.came hc);have Gp:=Qa hdo;have U6:=Qa Wd;clear hdo hc Wd;go_wp2_with fail;go_ret;have hw0:=HW0.out;have hR0:=Jg.out;subst hw0 hR0;exact ⟨uz,_,Does.ex (G:=λk s1 m=>Out.go (Qac m .block d s1) λb s2=>some (lay (En K [k,hd1 b] 0 ⟨#[]⟩ (a:Int)) s2)) HD1.out (Does.go (G:=λb s2 m=>some (lay (En K [Qt u1,b] 0 ⟨#[]⟩ (a:Int)) s2)) HD2.out Gp.out),Eb.out,λn m h=>U6.out n m (Vm.out _ _ (Ym.out _ _ h))⟩
end
section
open Go.RowKit
variable {B g P T N:Nat}{L:List Tk}{w0 w w':World}{R0 R R':Bx}{d:Nat}{o:Except Qq PS}{v:Value}{acc:List Int}{K n:Int}{S:ByteArray}
theorem Wea {a M:Nat} (hB:Ig B g P T L M) (H:Any B g L w R d o) (hP:Ke w g P T) (hd:d<=200) (hl:Qc o L.length M):
  Calls prog 54 #[.pointer (some ⟨P,0,none⟩),.agg #[.int .i64 K,.slice none 0 0,.int .i64 0,.string ⟨#[]⟩,.int .i64 (a:Int)]] w λen w'=> ∃u R',Does o (λs m=>Wy m d s λk s1=>Out.go (Qac m .block d s1) λb s2=>if s2.is X7 then Out.go (Qac m .block d s2.next) λc s3=>some (lay (En K [k,hd1 b,hd1 c] 0 ⟨#[]⟩ (a:Int)) s3)else some (lay (En K [k,hd1 b] 0 ⟨#[]⟩ (a:Int)) s2)) u/\Came B g L w R d u en w' R'/\ ∀n m,Qc o n m->Qc (toO u) (n+1) m:=by
 obtain ⟨W,hW⟩:=Qb (w.alloc (.cells #[.int .i64 K,.slice none 0 0,.int .i64 0,.string ⟨#[]⟩,.int .i64 (a:Int)] 37));obtain ⟨N,hN⟩:=Qb w.heap.size;obtain ⟨w0,hw0⟩:=Qb w;obtain ⟨R0,hR0⟩:=Qb R;have HR:Hid (Run B g P T L w0 R0 d W R o N K (.slice none 0 0) [] 0 ⟨#[]⟩ (a:Int)):=by rw [hW,hN,hw0,hR0];exact (Pre.start H hP).node K 0 ⟨#[]⟩ a
 have HW0:=Qa hw0;have Jg:=Qa hR0;clear hw0 hR0;have Wv:=Qa hd;have HL:=Qa hl;have Aq:=Qa hB;clear H hP hd hl hB;have G8:Hid (Qc o L.length L.length):=HL.out.self;go_enter func54,ntmps54;go_wp2_with fail;rw [<-hW,<-hN];clear hW hN;have Q0:=Qa (HR.out.below (Zk W));have b1:=HR.out.n1;have hp:=HR.out.par.c0;go_cut [] (λwx=>Hid (Tx B g P T L w0 R0 d o (λs n=>Qg n (.chain 0) d s) N K [] 0 ⟨#[]⟩ (a:Int) wx))
 case first=>
  go_region_law (first
   |(go_simp;go_at_call 94;refine ((Qic Q0.out.any (λs hs=>Wv.out))).mono ?_;rintro en w2 ⟨u,R2,hdo,hc,Wd⟩;obtain rfl:=hc.en;have HR2:=Qa (Q0.out.step hc.any hc.fr hc.z);have Wu:=Qa hdo;have Xo:=Qa Wd;obtain ⟨k,hk⟩:=Qb (Qt u);rw [<-hk];have HK:=Qa hk;clear hdo hc Wd hk;have c1:=HR2.out.n1;have c2:=(HR2.out.below ((Below.refl _ _).alloc (Qh _) (.cells #[.int .i64 k] 3))).n1)
   |(refine Mf rfl (.tmp 6) (.tmp 12) rfl w0.heap.size w2 (.slice none 0 0) [] k (by rfl) (by rfl) HR2.out.now HR2.out.fr.size (by simp) ?_;intro v3 w3 h3 hg3 hw3;obtain ⟨va,vc,hv3⟩:=Zq h3;obtain ⟨R3,hr3,hc3,hf3⟩:=HR2.out.push h3 hg3 hw3;have HR3:=Qa hr3;clear hr3 h3 hg3 hw3;rw [Qf,Yw]at hv3;subst hv3))
  all_goals
   go_wp2_with fail;go_meet;exact ⟨u,R3,_,Wu.out,Xo.out,by rw [<-HK.out];exact HR3.out⟩
 case rest=>
  obtain ⟨u1,R1,v1,hdo,Wd,hr⟩:=hcut.out;obtain ⟨W1,hwc⟩:=Qb wc;rw [<-hwc]at hr ⊢;have HX:=Qa hr;have HD1:=Qa hdo;have Ym:=Qa Wd;clear hcut hdo Wd hr hwc hp b1 Q0;go_wp2_with fail;have Q0:=Qa (HX.out.below (Zk W1));have b1:=HX.out.n1;have hp:=HX.out.par.c0;go_cut [] (λwx=>Hid (Tx B g P T L w0 R0 d (toO u1) (λs n=>Qac n .block d s) N K ([]++[Qt u1]) 0 ⟨#[]⟩ (a:Int) wx))
  case first=>
   go_region_law (first
    |(go_simp;go_at_call 95;refine ((Aq.out.use Q0.out.any Q0.out.par Wv.out (Ym.out _ _ HL.out))).mono ?_;rintro en w2 ⟨u,R2,hdo,hc,Wd⟩;obtain rfl:=hc.en;have HR2:=Qa (Q0.out.step hc.any hc.fr hc.z);have Wu:=Qa hdo;have Xo:=Qa Wd;obtain ⟨k,hk⟩:=Qb (Qt u);rw [<-hk];have HK:=Qa hk;clear hdo hc Wd hk;have c1:=HR2.out.n1;have c2:=(HR2.out.below ((Below.refl _ _).alloc (Qh _) (.cells #[.int .i64 k] 3))).n1)
    |(refine Mf rfl (.tmp 16) (.tmp 19) rfl w0.heap.size w2 v1 ([]++[Qt u1]) k (by rfl) (by rfl) HR2.out.now HR2.out.fr.size (by simp) ?_;intro v3 w3 h3 hg3 hw3;obtain ⟨va,vc,hv3⟩:=Zq h3;obtain ⟨R3,hr3,hc3,hf3⟩:=HR2.out.push h3 hg3 hw3;have HR3:=Qa hr3;clear hr3 h3 hg3 hw3;rw [Qf,Yw]at hv3;subst hv3))
   all_goals
    go_wp2_with fail;go_meet;exact ⟨u,R3,_,Wu.out,Xo.out,by rw [<-HK.out];exact HR3.out⟩
  case rest=>
   obtain ⟨u2,R2,v2,hdo,Wd,hr⟩:=hcut.out;obtain ⟨W2,hwc⟩:=Qb wc;rw [<-hwc]at hr ⊢;have HY:=Qa hr;have HD2:=Qa hdo;have Vm:=Qa Wd;clear hcut hdo Wd hr hwc hp b1 Q0;have hp:=HY.out.par.c0;go_wp2_with fail;refine (G5 X7 HY.out.any).mono ?_;rintro en w3 ⟨c,o',rfl,ha,hf,hc⟩;have HV:=Qa (HY.out.step ha hf rfl);clear ha hf hp;rcases hc with ⟨rfl,s,hs,hb,ho⟩ |⟨rfl,ho,hb⟩
   ·rw [ho]at HV;have HS:=Qa hs;have HB:=Qa hb;clear ho hs hb;have Yk:Hid (∀n m,Qc o n m->Qc (.ok s.next) n m):=λn m h=>((HS.out▸(Vm.out _ _ (Ym.out _ _ h)):Qc (.ok s) n m).Fh HB.out).mono (by omega) (by omega);go_wp2_with fail;have Q0:=Qa (HV.out.below (Zk w3));have b1:=HV.out.n1;have hp:=HV.out.par.c0;go_cut [] (λwx=>Hid (Tx B g P T L w0 R0 d (.ok s.next) (λs n=>Qac n .block d s) N K ([]++[Qt u1]++[Qt u2]) 0 ⟨#[]⟩ (a:Int) wx))
    case first=>
     go_region_law (first
      |(go_simp;go_at_call 95;refine ((Aq.out.use Q0.out.any Q0.out.par Wv.out (Yk.out _ _ HL.out))).mono ?_;rintro en w2 ⟨u,R2,hdo,hc,Wd⟩;obtain rfl:=hc.en;have HR2:=Qa (Q0.out.step hc.any hc.fr hc.z);have Wu:=Qa hdo;have Xo:=Qa Wd;obtain ⟨k,hk⟩:=Qb (Qt u);rw [<-hk];have HK:=Qa hk;clear hdo hc Wd hk;have c1:=HR2.out.n1;have c2:=(HR2.out.below ((Below.refl _ _).alloc (Qh _) (.cells #[.int .i64 k] 3))).n1)
      |(refine Mf rfl (.tmp 28) (.tmp 31) rfl w0.heap.size w2 v2 ([]++[Qt u1]++[Qt u2]) k (by rfl) (by rfl) HR2.out.now HR2.out.fr.size (by simp) ?_;intro v3 w3 h3 hg3 hw3;obtain ⟨va,vc,hv3⟩:=Zq h3;obtain ⟨R3,hr3,hc3,hf3⟩:=HR2.out.push h3 hg3 hw3;have HR3:=Qa hr3;clear hr3 h3 hg3 hw3;rw [Qf,Yw]at hv3;subst hv3))
     all_goals
      go_wp2_with fail;go_meet;exact ⟨u,R3,_,Wu.out,Xo.out,by rw [<-HK.out];exact HR3.out⟩
    case rest=>
     obtain ⟨u3,R3,v3,hdo,Wd,hr⟩:=hcut.out;obtain ⟨W4,hwc⟩:=Qb wc;rw [<-hwc]at hr ⊢;have HU:=Qa hr;have HD3:=Qa hdo;have Ji:=Qa Wd;clear hcut hdo Wd hr hwc hp b1 Q0;have hp:=HU.out.par.c0;have b0:=HU.out.n0;have b1:=HU.out.n1;have b2:=HU.out.n2;have b3:=HU.out.n3;have b4:=HU.out.n4;go_wp2_with fail;go_still_tail 5,(by kernel_rfl);change wpList _ _ _ _ _ W4.drew;have HZ:=Qa (HU.out.below (Zk W4));go_wp2_with fail;refine (Ob _ _ _ _ _ _ HZ.out.any HZ.out.now (Ji.out _ _ (Yk.out _ _ G8.out)) (by simp)).mono ?_;rintro en wz ⟨uz,Rz,hdo,hc,Wd⟩;obtain rfl:=hc.en;have Eb:=Qa (HZ.out.came hc);have Gp:=Qa hdo;have U6:=Qa Wd;clear hdo hc Wd;go_wp2_with fail;go_ret;have hw0:=HW0.out;have hR0:=Jg.out;subst hw0 hR0;exact ⟨uz,_,Does.ex (G:=λk s1 m=>Out.go (Qac m .block d s1) λb s2=>if s2.is X7 then Out.go (Qac m .block d s2.next) λc s3=>some (lay (En K [k,hd1 b,hd1 c] 0 ⟨#[]⟩ (a:Int)) s3)else some (lay (En K [k,hd1 b] 0 ⟨#[]⟩ (a:Int)) s2)) HD1.out (Does.go (G:=λb s2 m=>if s2.is X7 then Out.go (Qac m .block d s2.next) λc s3=>some (lay (En K [Qt u1,b,hd1 c] 0 ⟨#[]⟩ (a:Int)) s3)else some (lay (En K [Qt u1,b] 0 ⟨#[]⟩ (a:Int)) s2)) HD2.out (Does.Qmj (X:=λs3 m=>Out.go (Qac m .block d s3) λc s4=>some (lay (En K [Qt u1,Qt u2,hd1 c] 0 ⟨#[]⟩ (a:Int)) s4)) (Y:=λs3 m=>some (lay (En K [Qt u1,Qt u2] 0 ⟨#[]⟩ (a:Int)) s3)) HS.out HB.out (Does.go (G:=λc s4 m=>some (lay (En K [Qt u1,Qt u2,c] 0 ⟨#[]⟩ (a:Int)) s4)) HD3.out Gp.out))),Eb.out,λn m h=>U6.out n m (Ji.out _ _ (Yk.out _ _ h))⟩
   ·rw [ho]at HV;have HB:=Qa hb;clear ho hb;have hp:=HV.out.par.c0;have b0:=HV.out.n0;have b1:=HV.out.n1;have b2:=HV.out.n2;have b3:=HV.out.n3;have b4:=HV.out.n4;go_wp2_with fail;go_still_tail 5,(by kernel_rfl);change wpList _ _ _ _ _ w3.drew;have HZ:=Qa (HV.out.below (Zk w3));go_wp2_with fail;refine (Ob _ _ _ _ _ _ HZ.out.any HZ.out.now (Vm.out _ _ (Ym.out _ _ G8.out)) (by simp)).mono ?_;rintro en wz ⟨uz,Rz,hdo,hc,Wd⟩;obtain rfl:=hc.en;have Eb:=Qa (HZ.out.came hc);have Gp:=Qa hdo;have U6:=Qa Wd;clear hdo hc Wd;go_wp2_with fail;go_ret;have hw0:=HW0.out;have hR0:=Jg.out;subst hw0 hR0;exact ⟨uz,_,Does.ex (G:=λk s1 m=>Out.go (Qac m .block d s1) λb s2=>if s2.is X7 then Out.go (Qac m .block d s2.next) λc s3=>some (lay (En K [k,hd1 b,hd1 c] 0 ⟨#[]⟩ (a:Int)) s3)else some (lay (En K [k,hd1 b] 0 ⟨#[]⟩ (a:Int)) s2)) HD1.out (Does.go (G:=λb s2 m=>if s2.is X7 then Out.go (Qac m .block d s2.next) λc s3=>some (lay (En K [Qt u1,b,hd1 c] 0 ⟨#[]⟩ (a:Int)) s3)else some (lay (En K [Qt u1,b] 0 ⟨#[]⟩ (a:Int)) s2)) HD2.out (Does.O4 (X:=λs3 m=>Out.go (Qac m .block d s3.next) λc s4=>some (lay (En K [Qt u1,Qt u2,hd1 c] 0 ⟨#[]⟩ (a:Int)) s4)) (Y:=λs3 m=>some (lay (En K [Qt u1,Qt u2] 0 ⟨#[]⟩ (a:Int)) s3)) HB.out Gp.out)),Eb.out,λn m h=>U6.out n m (Vm.out _ _ (Ym.out _ _ h))⟩
end
end Go.Proofs.YtdncpkkhkbijfaaGreatDoor
