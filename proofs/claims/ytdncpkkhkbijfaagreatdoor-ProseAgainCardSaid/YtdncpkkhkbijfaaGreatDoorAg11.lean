import Derived.Test.YtdncpkkhkbijfaaGreatDoorAg10
import Derived.Lib.Walk
import Derived.Lib.SliceRun
open Go.Proofs.Tryz
set_option linter.all false
set_option maxHeartbeats 0
set_option maxRecDepth 100000
namespace Go.Proofs.YtdncpkkhkbijfaaGreatDoor
section
open Go.RowKit
theorem We8:(prog.info? 69).map (λi=>(i.zero,i.size,i.bytes))=some (some (.agg #[.int .i64 0,.string ⟨#[]⟩,.int .i64 0,.int .i64 0]),4,40):=by kernel_rfl
theorem Wbe (b off n c:Nat) (xs:List Value) (w:World) (hl:xs.length=n*1) (hn:n<=1000000) (hx: ∀j u,xs[j]? =some u->w.cell? ⟨b,off+j,none⟩=some u) (h1: ∀u∈xs,u.oneCell'=true):
  Calls prog 65 #[.slice (some ⟨b,off,none⟩) n c] w λe w'=> ∃v',e= .returned v'/\w'.ownsRow w.heap.size 3 1 v' n xs/\v'≠ .slice none 0 0/\Below w.heap.size w w':=by
 obtain ⟨i0,hi,hz0,hz1,hz2⟩:=info_parts Qlf;have qq: ∀(w:World) (a:Option Addr) (n c n' c':Nat),(binOp .eql 35 (.slice a n c) (.slice none n' c')).run prog w= .ok (.bool a.isNone) w:=λw a n c n' c'=>Lib.run_eql_slice_nil w _ _ a n c n' c' underlying35;have HX:=Qa hx;have HL:=Qa hl;have HO:=Qa h1;clear hx hl h1;go_enter func65,ntmps65;go_wp2_with (at_builtin;refine wpList_append_own _ rfl _ _ 35 rfl w.heap.size 3 i0 (.int .i64 0) 1 8 underlying35 hi hz0 hz1 hz2 rfl (by decide) _ _ _ rfl (World.ownsRow_made w #[] 0 (Qh _) (Vh _) rfl) ⟨b,off,none⟩ n c xs rfl ?qc1 ?qc2 ?qc3 ?qc4 ?qc5 ?qc6 ?_)
 case qc1=>exact HL.out
 case qc2=>
  intro j u hj;rw [Addr.add_lit];exact Lib.cell?_alloc_some _ (HX.out j u hj)
 case qc3=>exact HO.out
 case qc4=>unfold maxLen;omega
 case qc5=>omega
 case qc6=>simp
 intro v' w1 hown hgrow hnil;go_wp2;go_ret;refine ⟨v',rfl,by simpa using hown,?_,?_⟩
 ·exact hnil
 ·exact ((Below.refl _ w).alloc (Qh _) _).grown hgrow (by simp) (by intro k hk;simp [Value.ownBlock]at hk;omega)
theorem Waw (n c:Nat) (w:World):
  Calls prog 65 #[.slice none n c] w λe w'=>e= .returned (.slice none 0 0)/\w'=w:=by
 have qq: ∀(w:World) (a:Option Addr) (n c n' c':Nat),(binOp .eql 35 (.slice a n c) (.slice none n' c')).run prog w= .ok (.bool a.isNone) w:=λw a n c n' c'=>Lib.run_eql_slice_nil w _ _ a n c n' c' underlying35;go_enter func65,ntmps65;go_wp2;go_ret;exact ⟨rfl,rfl⟩
theorem Q4y {B n:Nat} {v:Value} {xs:List Value} (w:World) (H:w.ownsRow B 3 1 v n xs) (hn:n<=1000000) (h1: ∀u∈xs,u.oneCell'=true):
  Calls prog 65 #[v] w λe w'=> ∃v',e= .returned v'/\w'.ownsRow w.heap.size 3 1 v' n xs/\Below w.heap.size w w':=by
 rcases H.2 with ⟨rfl,rfl⟩ |⟨g,cap,cur,rfl,_⟩
 ·refine (Waw 0 0 w).mono ?_;rintro e w' ⟨rfl,rfl⟩;exact ⟨_,rfl,⟨H.1,.inl ⟨rfl,rfl⟩⟩,Below.refl _ _⟩
 ·refine (Wbe g 0 n cap xs w H.1 hn (λj u hj=> ?_) h1).mono ?_
  ·have:=H.cells (g:=g) rfl j u hj;rw [Qef]at this;rw [Bq];exact this
  ·rintro e w' ⟨v',rfl,h2,_,h3⟩;exact ⟨_,rfl,h2,h3⟩
theorem Wdx (b off n c:Nat) (xs:List Value) (w:World) (hl:xs.length=n*4) (hn:n<=1000000) (hx: ∀j u,xs[j]? =some u->w.cell? ⟨b,off+j,none⟩=some u) (h1: ∀u∈xs,u.oneCell'=true):
  Calls prog 91 #[.slice (some ⟨b,off,none⟩) n c] w λe w'=> ∃v',e= .returned v'/\w'.ownsRow w.heap.size 69 4 v' n xs/\v'≠ .slice none 0 0/\Below w.heap.size w w':=by
 obtain ⟨i0,hi,hz0,hz1,hz2⟩:=info_parts We8;have qq: ∀(w:World) (a:Option Addr) (n c n' c':Nat),(binOp .eql 53 (.slice a n c) (.slice none n' c')).run prog w= .ok (.bool a.isNone) w:=λw a n c n' c'=>Lib.run_eql_slice_nil w _ _ a n c n' c' underlying53;have HX:=Qa hx;have HL:=Qa hl;have HO:=Qa h1;clear hx hl h1;go_enter func91,ntmps91;go_wp2_with (at_builtin;refine wpList_append_own _ rfl _ _ 53 rfl w.heap.size 69 i0 (.agg #[.int .i64 0,.string ⟨#[]⟩,.int .i64 0,.int .i64 0]) 4 40 underlying53 hi hz0 hz1 hz2 rfl (by decide) _ _ _ rfl (World.ownsRow_made w #[] 0 (Qh _) (Vh _) rfl) ⟨b,off,none⟩ n c xs rfl ?qc1 ?qc2 ?qc3 ?qc4 ?qc5 ?qc6 ?_)
 case qc1=>exact HL.out
 case qc2=>
  intro j u hj;rw [Addr.add_lit];exact Lib.cell?_alloc_some _ (HX.out j u hj)
 case qc3=>exact HO.out
 case qc4=>unfold maxLen;omega
 case qc5=>omega
 case qc6=>simp
 intro v' w1 hown hgrow hnil;go_wp2;go_ret;refine ⟨v',rfl,by simpa using hown,?_,?_⟩
 ·exact hnil
 ·exact ((Below.refl _ w).alloc (Qh _) _).grown hgrow (by simp) (by intro k hk;simp [Value.ownBlock]at hk;omega)
theorem Wcc (b off n c:Nat) (xs:List Value) (w:World) (hl:xs.length=n*5) (hn:n<=1000000) (hx: ∀j u,xs[j]? =some u->w.cell? ⟨b,off+j,none⟩=some u) (h1: ∀u∈xs,u.oneCell'=true):
  Calls prog 64 #[.slice (some ⟨b,off,none⟩) n c] w λe w'=> ∃v',e= .returned v'/\w'.ownsRow w.heap.size 37 5 v' n xs/\v'≠ .slice none 0 0/\Below w.heap.size w w':=by
 obtain ⟨i0,hi,hz0,hz1,hz2⟩:=info_parts Qvm;have qq: ∀(w:World) (a:Option Addr) (n c n' c':Nat),(binOp .eql 22 (.slice a n c) (.slice none n' c')).run prog w= .ok (.bool a.isNone) w:=λw a n c n' c'=>Lib.run_eql_slice_nil w _ _ a n c n' c' underlying22;have HX:=Qa hx;have HL:=Qa hl;have HO:=Qa h1;clear hx hl h1;go_enter func64,ntmps64;go_wp2_with (at_builtin;refine wpList_append_own _ rfl _ _ 22 rfl w.heap.size 37 i0 (.agg #[.int .i64 0,.slice none 0 0,.int .i64 0,.string ⟨#[]⟩,.int .i64 0]) 5 64 underlying22 hi hz0 hz1 hz2 rfl (by decide) _ _ _ rfl (World.ownsRow_made w #[] 0 (Qh _) (Vh _) rfl) ⟨b,off,none⟩ n c xs rfl ?qc1 ?qc2 ?qc3 ?qc4 ?qc5 ?qc6 ?_)
 case qc1=>exact HL.out
 case qc2=>
  intro j u hj;rw [Addr.add_lit];exact Lib.cell?_alloc_some _ (HX.out j u hj)
 case qc3=>exact HO.out
 case qc4=>unfold maxLen;omega
 case qc5=>omega
 case qc6=>simp
 intro v' w1 hown hgrow hnil;go_wp2;go_ret;refine ⟨v',rfl,by simpa using hown,?_,?_⟩
 ·exact hnil
 ·exact ((Below.refl _ w).alloc (Qh _) _).grown hgrow (by simp) (by intro k hk;simp [Value.ownBlock]at hk;omega)
theorem Wcg (n c:Nat) (w:World):
  Calls prog 64 #[.slice none n c] w λe w'=>e= .returned (.slice none 0 0)/\w'=w:=by
 have qq: ∀(w:World) (a:Option Addr) (n c n' c':Nat),(binOp .eql 22 (.slice a n c) (.slice none n' c')).run prog w= .ok (.bool a.isNone) w:=λw a n c n' c'=>Lib.run_eql_slice_nil w _ _ a n c n' c' underlying22;go_enter func64,ntmps64;go_wp2;go_ret;exact ⟨rfl,rfl⟩
theorem Wfb {B n:Nat} {v:Value} {xs:List Value} (w:World) (H:w.ownsRow B 37 5 v n xs) (hn:n<=1000000) (h1: ∀u∈xs,u.oneCell'=true):
  Calls prog 64 #[v] w λe w'=> ∃v',e= .returned v'/\w'.ownsRow w.heap.size 37 5 v' n xs/\Below w.heap.size w w':=by
 rcases H.2 with ⟨rfl,rfl⟩ |⟨g,cap,cur,rfl,_⟩
 ·refine (Wcg 0 0 w).mono ?_;rintro e w' ⟨rfl,rfl⟩;exact ⟨_,rfl,⟨H.1,.inl ⟨rfl,rfl⟩⟩,Below.refl _ _⟩
 ·refine (Wcc g 0 n cap xs w H.1 hn (λj u hj=> ?_) h1).mono ?_
  ·have:=H.cells (g:=g) rfl j u hj;rw [Qef]at this;rw [Bq];exact this
  ·rintro e w' ⟨v',rfl,h2,_,h3⟩;exact ⟨_,rfl,h2,h3⟩
end
end Go.Proofs.YtdncpkkhkbijfaaGreatDoor
