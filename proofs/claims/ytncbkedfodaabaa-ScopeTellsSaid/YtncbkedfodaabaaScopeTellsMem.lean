/- ScopeTells: scopes and the reference beside one another, in memory. -/
import Derived.Test.YtncbkedfodaabaaScopeRefAny
import Derived.Test.YtncbkedfodaabaaScopePlay
import Derived.Test.YtncbkedfodaabaaGenSame
import Derived.Test.YtncbkedfodaabaaScopeNums
import Derived.Test.YtncbkedfodaabaaGenBigE
namespace Go.Proofs.Ytncbkedfodaabaa
open Go.RowKit
set_option linter.unusedVariables false

/-- what is none of the scopes' blocks, nor the reference's box -/
def Free (F : Nat → Prop) (X : Nat) (g : Nat) : Prop := ¬ F g ∧ g ≠ X
theorem IsX.sOp {w w' : World} {F F' : Nat → Prop} {X : Nat} {aL aK : Option Addr} {cL cK : Nat} {R : List (List Dc)} {ks : List Nat} (h : IsX w (Free F X) aL cL aK cK R ks) (hT : Tn F w w') (hG : Grew F F' w) : IsX w' (Free F' X) aL cL aK cK R ks :=
  (h.mono (N' := fun g => g < w.heap.size ∧ Free F X g) (fun g h1 h2 => ⟨h1, h2⟩)).same (fun g h1 h2 => hT.block g h1 h2.2.1) hT.size |>.mono fun g _ h => ⟨fun h1 => (hG g h1).elim h.2.1 (fun h2 => by have := h.1; omega), h.2.2⟩
theorem Held.sOp {w w' : World} {F F' : Nat → Prop} {g : Nat} {t : TypeId} {cs : Array Value} (h : Held w g t cs) (hn : ¬ F g) (hT : Tn F w w') (hG : Grew F F' w) : Held w' g t cs ∧ ¬ F' g :=
  ⟨h.block (hT.block g h.lt hn), fun h1 => (hG g h1).elim hn (fun h2 => by have := h.lt; omega)⟩
/-- the cells of the reference's value -/
def xcs (aL : Option Addr) (cL : Nat) (aK : Option Addr) (cK : Nat) (R : List (List Dc)) (ks : List Nat) : Array Value := #[.slice aL (flat R).length cL, .slice aK ks.length cK, .int .i64 (R.length : Int)]
theorem xval_cs (aL : Option Addr) (cL : Nat) (aK : Option Addr) (cK : Nat) (R : List (List Dc)) (ks : List Nat) : xval aL cL aK cK R ks = .agg (xcs aL cL aK cK R ks) := rfl
structure Y (S : Nat) (W0 : World) (p X A : Nat) (q : Ac) (w : World) (F : Nat → Prop) (R : List (List Dc)) (ks : List Nat) (aL : Option Addr) (cL : Nat) (aK : Option Addr) (cK : Nat) (Rx : List (List Dc)) (kx : List Nat) : Prop where
  s : IsS w p F R ks
  x : IsX w (Free F X) aL cL aK cK Rx kx
  c : Held w X 29 (xcs aL cL aK cK Rx kx)
  a : Held w A 32 q.cs
  nX : ¬ F X
  nA : ¬ F A
  b : Below S W0 w
  o : Off S F
  z : S ≤ w.heap.size
  lX : S ≤ X
section
variable {S : Nat} {W0 : World} {p X A : Nat} {q : Ac} {w w' : World} {F F' : Nat → Prop} {R R' Rx Rx' : List (List Dc)} {ks ks' kx kx' : List Nat} {aL aK aL' aK' : Option Addr} {cL cK cL' cK' : Nat}
theorem Y.below (h : Y S W0 p X A q w F R ks aL cL aK cK Rx kx) (hb : Below w.heap.size w w') : Y S W0 p X A q w' F R ks aL cL aK cK Rx kx :=
  ⟨h.s.below hb, h.x.below hb, h.c.since hb, h.a.since hb, h.nX, h.nA, h.b.trans (hb.mono h.z), h.o, Nat.le_trans h.z hb.size, h.lX⟩
theorem Y.sOp (h : Y S W0 p X A q w F R ks aL cL aK cK Rx kx) (hS : IsS w' p F' R' ks') (hT : Tn F w w') (hG : Grew F F' w) : Y S W0 p X A q w' F' R' ks' aL cL aK cK Rx kx :=
  ⟨hS, h.x.sOp hT hG, (h.c.sOp h.nX hT hG).1, (h.a.sOp h.nA hT hG).1, (h.c.sOp h.nX hT hG).2, (h.a.sOp h.nA hT hG).2, h.b.trans (hT.low h.o h.z), h.o.grew hG h.z, Nat.le_trans h.z hT.size, h.lX⟩
/-- what a call of the reference hands back -/
theorem Y.news (h : Y S W0 p X A q w F R ks aL cL aK cK Rx kx) (hX : IsX w' (fun g => Free F X g ∨ w.heap.size ≤ g) aL' cL' aK' cK' Rx' kx') : IsX w' (Free F X) aL' cL' aK' cK' Rx' kx' :=
  hX.mono fun g _ hg => hg.elim id fun h1 => ⟨fun h2 => by have := h.s.lt g h2; omega, fun e => by have := h.c.lt; omega⟩
/-- .. put into its box -/
theorem Y.put (h : Y S W0 p X A q w F R ks aL cL aK cK Rx kx) (hX : IsX w (Free F X) aL' cL' aK' cK' Rx' kx') (hg : w.grownBy w' (some X)) (hc : Held w' X 29 (xcs aL' cL' aK' cK' Rx' kx')) : Y S W0 p X A q w' F R ks aL' cL' aK' cK' Rx' kx' :=
  ⟨h.s.same (fun k hk => hg.block k (h.s.lt k hk) (fun e => h.nX (by injection e with e; exact e ▸ hk))) hg.size,
   hX.same (fun g h1 h2 => hg.block g h1 (fun e => h2.2 (by injection e))) hg.size, hc,
   h.a.block (hg.block A h.a.lt (fun e => by
    injection e with e
    have h1 := h.a
    have h2 := h.c
    unfold Held at h1 h2
    rw [e, h2] at h1
    injection h1 with h1
    injection h1 with _ h1
    exact absurd h1 (by decide))), h.nX, h.nA,
   h.b.trans ⟨hg.os, hg.tape, hg.output, hg.size, fun k hk => hg.block k (by have := h.z; omega) (fun e => by have := h.lX; injection e with e; omega)⟩, h.o, Nat.le_trans h.z hg.size, h.lX⟩
end
theorem RdC.rows {w : World} {N : Nat → Prop} {a : Option Addr} {ks : List Nat} (h : RdC w N a (kcs ks)) : Rows' .i64 w a ks.length (nums ks) := by
  intro hp
  obtain ⟨g, h1, h2, _, h4⟩ := h (by unfold kcs; rw [List.length_map]; exact hp)
  refine ⟨g, 0, h1, h2, fun j hj => ?_⟩
  rw [Nat.zero_add]
  refine h4 j _ ?_
  unfold kcs nums
  rw [List.getElem?_map, List.getD_eq_getElem?_getD, List.getElem?_map, List.getElem?_eq_getElem hj]
  rfl
/-- what the reference finds, and what is seen -/
theorem found (R : List (List Dc)) (s : ByteArray) (hF : Fine R) : (ix (flat R) s (flat R).length = -1 ∧ Sees R s = (0, 0, 0)) ∨
    ∃ j : Nat, j < (flat R).length ∧ ix (flat R) s (flat R).length = (j : Int) ∧ (Sees R s).1 = ((flat R).getD j default).sl ∧ (Sees R s).2.1 = ((flat R).getD j default).kd ∧ 1 ≤ (Sees R s).2.1 := by
  rcases ix_whole (flat R) s with ⟨h1, h2⟩ | ⟨j, h0, h1, h2⟩
  · exact .inl ⟨h1, by unfold Sees; rw [h2]; rfl⟩
  · have h3 := hF.flat _ (lk_mem h2).1
    refine .inr ⟨j, h0, h1, ?_, ?_, ?_⟩
    · unfold Sees; rw [h2]; rfl
    · unfold Sees; rw [h2]; rfl
    · unfold Sees; rw [h2]; exact h3.2.1
theorem flat_closed (R : List (List Dc)) : (flat (closed R)).length ≤ (flat R).length := by
  unfold closed
  split
  · rw [show ∀ (b c : List Dc) (T : List (List Dc)), flat (b :: c :: T) = flat (c :: T) ++ b.map (Dc.at_ ((c :: T).length + 1)) from fun _ _ _ => rfl, List.length_append]
    omega
  · exact Nat.le_refl _
theorem flat_declared (R : List (List Dc)) (ks : List Nat) (s : ByteArray) (k : Int) : (flat (declared R ks s k).1).length ≤ (flat R).length + 1 := by
  unfold declared
  split
  · split
    · exact Nat.le_succ _
    · rw [flat_more, List.length_append]; exact Nat.le_refl _
  · exact Nat.le_succ _
end Go.Proofs.Ytncbkedfodaabaa
